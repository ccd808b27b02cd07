/-
  DrawKnowBuild: keys, seals and a word in new memory, few of them; nothing that was there is turned.
-/
import Derived.Test.YtepnijocfilgoaaDoorDrawKnowKeys
import Derived.Test.YtepnijocfilgoaaDoorDrawMsg
import Derived.Test.YtepnijocfilgoaaDoorKAppW
import Derived.Test.YtepnijocfilgoaaDoorSealSame
namespace Go.Proofs.YtepnijocfilgoaaDoor
open Go.RowKit
attribute [local go_sem ↓] Go.wp_at_zero Go.wp_at_succ

theorem own_type {w : World} {base e size n g : Nat} {v : Value} {xs : List Value} (h : w.ownsRow base e size v n xs) (hg : v.ownBlock = some g) : ∃ cur, w.heap[g]? = some (.cells cur e (0, 0)) := by
  rcases h.2 with ⟨rfl, _⟩ | ⟨g', cap, cur, rfl, _, h3, _⟩
  · cases hg
  · obtain rfl : g' = g := by injection hg
    exact ⟨cur, h3⟩
theorem own_keep {w w' : World} {base e size n : Nat} {v : Value} {xs : List Value} (h : w.ownsRow base e size v n xs) (hb : ∀ g, v.ownBlock = some g → w'.heap[g]? = w.heap[g]?) : w'.ownsRow base e size v n xs := by
  refine ⟨h.1, h.2.imp id ?_⟩
  rintro ⟨g, cap, cur, rfl, h2, h3, h4⟩
  exact ⟨g, cap, cur, rfl, h2, (hb g rfl).trans h3, h4⟩
theorem type_ne {w : World} {g g' t t' : Nat} {c c' : Array Value} (h : w.heap[g]? = some (.cells c t (0, 0))) (h' : w.heap[g']? = some (.cells c' t' (0, 0))) (hne : t ≠ t') : g ≠ g' := by
  rintro rfl
  rw [h] at h'
  injection h' with h'
  injection h' with _ h2
  exact hne h2
theorem put7_heap {w : World} {g k o : Nat} {s : Sl} (h : g ≠ k) : (put7 w g o s).heap[k]? = w.heap[k]? := by
  unfold put7
  simp [World.setCell, Array.getElem?_modify, h]

/-- The word's row, that may be written into. -/
def YRow (w : World) (lo : Nat) (a3 : Option Addr) (ys : List Sl) : Prop :=
  ys = [] ∨ ∃ g, a3 = some ⟨g, 0, none⟩ ∧ lo ≤ g ∧ (∃ cur, w.heap[g]? = some (.cells cur 45 (0, 0)) ∧ ys.length * 7 ≤ cur.size) ∧ ∀ (i : Nat) s, ys[i]? = some s → SealAt w g (i * 7) s
theorem YRow.srow {w : World} {lo : Nat} {a3 : Option Addr} {ys : List Sl} (h : YRow w lo a3 ys) : SRow w a3 ys := by
  rcases h with h | ⟨g, ha, _, ⟨cur, hc, _⟩, hs⟩
  · exact Or.inl h
  · exact Or.inr ⟨g, 0, ha, (Array.getElem?_eq_some_iff.1 hc).1, fun i s hi => by rw [Nat.zero_add]; exact hs i s hi⟩
theorem SealAt.same {w w' : World} {b o : Nat} {s : Sl} (h : SealAt w b o s) (e : w'.heap[b]? = w.heap[b]?) : SealAt w' b o s := by
  have hc : ∀ q, w'.cell? ⟨b, q, none⟩ = w.cell? ⟨b, q, none⟩ := fun q => by simp [World.cell?, e]
  exact ⟨(hc _).trans h.c0, (hc _).trans h.c1, (hc _).trans h.c2, (hc _).trans h.c3, (hc _).trans h.c4, (hc _).trans h.c5, (hc _).trans h.c6⟩
theorem YRow.same {w w' : World} {lo : Nat} {a3 : Option Addr} {ys : List Sl} (h : YRow w lo a3 ys) (e : ∀ g cur, lo ≤ g → w.heap[g]? = some (.cells cur 45 (0, 0)) → w'.heap[g]? = w.heap[g]?) : YRow w' lo a3 ys := by
  rcases h with h | ⟨g, ha, hlo, ⟨cur, hc, hl⟩, hs⟩
  · exact Or.inl h
  · exact Or.inr ⟨g, ha, hlo, ⟨cur, (e g cur hlo hc).trans hc, hl⟩, fun i s hi => (hs i s hi).same (e g cur hlo hc)⟩
theorem YRow.of {w : World} {lo : Nat} {a3 : Option Addr} {c3 : Nat} {ys : List Sl} (h : w.ownsRow lo 45 7 (.slice a3 ys.length c3) ys.length (cellsL ys)) : YRow w lo a3 ys := by
  by_cases he : ys = []
  · exact Or.inl he
  · obtain ⟨a', c', e, _, r, _⟩ := own_row h
    injection e with e1 e2 e3
    subst e1 e3
    rcases h.2 with ⟨e, hz⟩ | ⟨g, cap, cur, e, h2, h3, h4, _, h5, _⟩
    · exact absurd (List.length_eq_zero_iff.1 hz) he
    · injection e with e1 e2 e3
      subst e1 e3
      refine Or.inr ⟨g, rfl, h2, ⟨cur, h3, by rw [h5]; exact Nat.mul_le_mul_right _ h4⟩, fun i s hi => ?_⟩
      rcases r with r | ⟨b, off, hb, _, r⟩
      · exact absurd r he
      · injection hb with hb
        injection hb with e1 e2
        subst e1 e2
        have := r i s hi
        rwa [Nat.zero_add] at this

theorem irow_two (w : World) (n z : Int) : IRow (w.alloc (.cells #[.int .i64 n, .int .i64 z] 3)) (some ⟨w.heap.size, 0, none⟩) [n, z] := by
  refine Or.inr ⟨w.heap.size, 0, rfl, by simp, fun i m hm => ?_⟩
  rw [cell_of_row _ _ _ _ _ _ (heap_alloc_new _ _), Nat.zero_add]
  match i, hm with
  | 0, hm => simp at hm; subst hm; rfl
  | 1, hm => simp at hm; subst hm; rfl
/-- A word's five cells. -/
structure Mw (w : World) (b : Nat) (m n k f : Int) (v : Value) : Prop where
  c0 : w.cell? ⟨b, 0, none⟩ = some (.int .i64 m)
  c1 : w.cell? ⟨b, 1, none⟩ = some (.int .i64 n)
  c2 : w.cell? ⟨b, 2, none⟩ = some (.int .i64 k)
  c3 : w.cell? ⟨b, 3, none⟩ = some (.int .i64 f)
  c4 : w.cell? ⟨b, 4, none⟩ = some v
/-- On the way: the reader, keys, seals, and the word in a variable. -/
structure Db (W : World) (br : Nat) (sv : Value) (L bk bs lo bm : Nat) (w : World) (q : Int) (v1 : Value) (ks : List Int) (a2 : Option Addr) (c2 : Nat) (xs : List Sl) (m n k f : Int) (a3 : Option Addr) (c3 : Nat) (ys : List Sl) : Prop where
  rd : Rd w br sv L q
  keys : OwnI w bk v1 ks
  seals : OwnS w bs (.slice a2 xs.length c2) xs
  sx : ∀ g, (Value.slice a2 xs.length c2).ownBlock = some g → g < lo
  row : YRow w lo a3 ys
  mv : w.heap[bm]? = some (.cells #[.int .i64 m, .int .i64 n, .int .i64 k, .int .i64 f, .slice a3 ys.length c3] 33 (0, 0))
  res : w.heap[W.heap.size]? = some (.cells #[.int .i64 0, .int .i64 0, .int .i64 0, .int .i64 0, .slice none 0 0] 33 (0, 0))
  below : Below W.heap.size W w
  o1 : W.heap.size < br
  o2 : br < bk
  o3 : bk ≤ bs
  o4 : bs ≤ lo
  o5 : br ≠ bm
  o6 : W.heap.size ≠ bm
  o7 : W.heap.size ≤ bm
  kz : bk ≤ w.heap.size
theorem msgNeInt : 33 ≠ 3 := by decide
theorem sealNeInt : 45 ≠ 3 := by decide
section
variable {W : World} {br : Nat} {sv : Value} {L bk bs lo bm : Nat} {w w' : World} {q q' : Int} {v1 v' : Value} {ks ks' : List Int} {a2 : Option Addr} {c2 : Nat} {xs : List Sl} {m n k f : Int} {a3 : Option Addr} {c3 : Nat} {ys : List Sl}
theorem Db.go (h : Db W br sv L bk bs lo bm w q v1 ks a2 c2 xs m n k f a3 c3 ys) (hr : Rd w' br sv L q') (ho : Only br w w') : Db W br sv L bk bs lo bm w' q' v1 ks a2 c2 xs m n k f a3 c3 ys := by
  have h1 := h.o1; have h2 := h.o2; have h3 := h.o3; have h4 := h.o4
  exact ⟨hr, own_keep h.keys fun g e => ho.block g (by have := OwnI.lo h.keys g e; omega), own_keep h.seals fun g e => ho.block g (by have := OwnS.lo h.seals g e; omega), h.sx, h.row.same fun g cur hg _ => ho.block g (by omega), (ho.block _ h.o5.symm).trans h.mv, (ho.block _ (by omega)).trans h.res, h.below.trans (ho.grew.below (Nat.le_of_lt h1) h.below.size), h1, h2, h3, h4, h.o5, h.o6, h.o7, by rw [ho.size]; exact h.kz⟩
theorem Db.later (h : Db W br sv L bk bs lo bm w q v1 ks a2 c2 xs m n k f a3 c3 ys) (hb : Below w.heap.size w w') : Db W br sv L bk bs lo bm w' q v1 ks a2 c2 xs m n k f a3 c3 ys := by
  have hl : ∀ {g : Nat} {o : Obj}, w.heap[g]? = some o → g < w.heap.size := fun e => (Array.getElem?_eq_some_iff.1 e).1
  refine ⟨h.rd.stay fun g hg => hb.block g (by have := h.rd.lt; omega), h.keys.later hb, OwnS.later h.seals hb, h.sx, h.row.same fun g cur _ hg => hb.block g (hl hg), (hb.block _ (hl h.mv)).trans h.mv, (hb.block _ (hl h.res)).trans h.res, h.below.trans (hb.mono h.below.size), h.o1, h.o2, h.o3, h.o4, h.o5, h.o6, h.o7, Nat.le_trans h.kz hb.size⟩
theorem Db.append (h : Db W br sv L bk bs lo bm w q v1 ks a2 c2 xs m n k f a3 c3 ys) (ho : OwnI w' bk v' ks') (hg : w.grownBy w' v1.ownBlock) : Db W br sv L bk bs lo bm w' q v' ks' a2 c2 xs m n k f a3 c3 ys := by
  have h1 := h.o1; have h2 := h.o2
  have hlo : ∀ g, v1.ownBlock = some g → bk ≤ g := OwnI.lo h.keys
  have hl : ∀ {g : Nat} {o : Obj}, w.heap[g]? = some o → g < w.heap.size := fun e => (Array.getElem?_eq_some_iff.1 e).1
  have hne : ∀ {g : Nat} {cur : Array Value} {t : Nat}, w.heap[g]? = some (.cells cur t (0, 0)) → t ≠ 3 → w'.heap[g]? = w.heap[g]? := by
    intro g cur t e ht
    refine hg.block g (hl e) fun e' => ?_
    obtain ⟨cur', hc'⟩ := own_type h.keys e'.symm
    exact type_ne e hc' ht rfl
  refine ⟨h.rd.stay fun g hg' => hg.block g (by have := h.rd.lt; omega) (fun e => by have := hlo g e.symm; omega), ho, own_keep h.seals fun g e => ?_, h.sx, h.row.same fun g cur _ e => hne e sealNeInt, (hne h.mv msgNeInt).trans h.mv, (hne h.res msgNeInt).trans h.res, h.below.grown hg h.below.size (fun g e => by have := hlo g e; omega), h1, h2, h.o3, h.o4, h.o5, h.o6, h.o7, Nat.le_trans h.kz hg.size⟩
  obtain ⟨cur, hc⟩ := own_type h.seals e
  exact hne hc sealNeInt
theorem Db.put {j : Nat} {s : Sl} {g : Nat} (h : Db W br sv L bk bs lo bm w q v1 ks a2 c2 xs m n k f (some ⟨g, 0, none⟩) c3 ys) (hj : j < ys.length) : Db W br sv L bk bs lo bm (put7 w g (j * 7) s) q v1 ks a2 c2 xs m n k f (some ⟨g, 0, none⟩) c3 (ys.set j s) := by
  have h1 := h.o1; have h2 := h.o2; have h3 := h.o3; have h4 := h.o4
  rcases id h.row with hz | ⟨g', e, hlo, ⟨cur, hc, hl⟩, hs⟩
  · rw [hz] at hj; simp at hj
  obtain rfl : g = g' := by injection e with e; injection e
  refine ⟨h.rd.stay fun p hp => put7_heap (by omega), own_keep h.keys fun p e => put7_heap ?_, own_keep h.seals fun p e => put7_heap ?_, h.sx, Or.inr ⟨g, rfl, hlo, ?_, fun i u hu => ?_⟩, ?_, (put7_heap (by omega)).trans h.res, put7_below h.below (by omega), h1, h2, h3, h4, h.o5, h.o6, h.o7, by have := (put7_below (s := s) (o := j * 7) (b := g) (Below.refl 0 w) (Nat.zero_le _)).size; exact Nat.le_trans h.kz this⟩
  · obtain ⟨cur', hc'⟩ := own_type h.keys e
    exact type_ne hc hc' sealNeInt
  · have := h.sx p e
    omega
  · obtain ⟨cur', hc', hl'⟩ := put7_row (o := j * 7) (s := s) ⟨cur, hc, rfl⟩
    exact ⟨cur', hc', by rw [List.length_set, hl']; exact hl⟩
  · by_cases hij : i = j
    · subst hij
      rw [List.getElem?_set_self hj] at hu
      obtain rfl := Option.some.inj hu
      refine put7_at fun p hp => ?_
      have : i * 7 + p < cur.size := by omega
      exact ⟨cur[i * 7 + p], by simp [World.cell?, hc, this]⟩
    · rw [List.getElem?_set_ne (fun e => hij e.symm)] at hu
      have hd := hs i u hu
      exact ⟨(put7_else (by omega)).trans hd.c0, (put7_else (by omega)).trans hd.c1, (put7_else (by omega)).trans hd.c2, (put7_else (by omega)).trans hd.c3, (put7_else (by omega)).trans hd.c4, (put7_else (by omega)).trans hd.c5, (put7_else (by omega)).trans hd.c6⟩
  · rw [List.length_set]
    exact (put7_heap (type_ne hc h.mv (by decide))).trans h.mv
theorem Db.fin {a1 : Option Addr} {c1 : Nat} (h : Db W br sv L bk bs lo bm w q (.slice a1 ks.length c1) ks a2 c2 xs m n k f a3 c3 ys) (hk : ks.length ≤ 10) (hx : xs.length ≤ 8) (v0 v1 v2 v3 v4 : Value) :
    Drawn W a1 ks a2 xs (((((w.setCell ⟨W.heap.size, 0, none⟩ v0).setCell ⟨W.heap.size, 1, none⟩ v1).setCell ⟨W.heap.size, 2, none⟩ v2).setCell ⟨W.heap.size, 3, none⟩ v3).setCell ⟨W.heap.size, 4, none⟩ v4)
    ∧ SRow (((((w.setCell ⟨W.heap.size, 0, none⟩ v0).setCell ⟨W.heap.size, 1, none⟩ v1).setCell ⟨W.heap.size, 2, none⟩ v2).setCell ⟨W.heap.size, 3, none⟩ v3).setCell ⟨W.heap.size, 4, none⟩ v4) a3 ys
    ∧ ∀ g, g ≠ W.heap.size → (((((w.setCell ⟨W.heap.size, 0, none⟩ v0).setCell ⟨W.heap.size, 1, none⟩ v1).setCell ⟨W.heap.size, 2, none⟩ v2).setCell ⟨W.heap.size, 3, none⟩ v3).setCell ⟨W.heap.size, 4, none⟩ v4).heap[g]? = w.heap[g]? := by
  have h1 := h.o1; have h2 := h.o2; have h3 := h.o3; have h4 := h.o4
  have hh : ∀ g, g ≠ W.heap.size → (((((w.setCell ⟨W.heap.size, 0, none⟩ v0).setCell ⟨W.heap.size, 1, none⟩ v1).setCell ⟨W.heap.size, 2, none⟩ v2).setCell ⟨W.heap.size, 3, none⟩ v3).setCell ⟨W.heap.size, 4, none⟩ v4).heap[g]? = w.heap[g]? := by
    intro g hg
    simp [World.setCell, Array.getElem?_modify, hg.symm]
  refine ⟨⟨OwnI.rowAt (own_keep h.keys fun g e => hh g (by have := OwnI.lo h.keys g e; omega)), OwnS.rowAt (own_keep h.seals fun g e => hh g (by have := OwnS.lo h.seals g e; omega)), hk, hx, ?_⟩, (h.row.same fun g cur hg _ => hh g (by omega)).srow, hh⟩
  exact ((((h.below.setCell (p := ⟨_, _, none⟩) (Nat.le_refl _) _).setCell (p := ⟨_, _, none⟩) (Nat.le_refl _) _).setCell (p := ⟨_, _, none⟩) (Nat.le_refl _) _).setCell (p := ⟨_, _, none⟩) (Nat.le_refl _) _).setCell (p := ⟨_, _, none⟩) (Nat.le_refl _) _
end

set_option maxRecDepth 100000 in
set_option maxHeartbeats 8000000 in
theorem drawBuild_any (a : Option Addr) (len cap : Nat) (w : World) (h : Code w a len cap) :
    Calls Tryd.prog 18 #[.slice a len cap] w fun r w' => ∃ (a1 : Option Addr) (c1 : Nat) (ks : List Int) (a2 : Option Addr) (c2 : Nat) (xs : List Sl) (m n k f : Int) (a3 : Option Addr) (c3 : Nat) (ys : List Sl), r = .returned (.tuple #[.slice a1 ks.length c1, .slice a2 xs.length c2, .agg #[.int .i64 m, .int .i64 n, .int .i64 k, .int .i64 f, .slice a3 ys.length c3]]) ∧ Drawn w a1 ks a2 xs w' ∧ SRow w' a3 ys ∧ ys.length ≤ 3 := by
  have HC : Hid (Code w a len cap) := h
  clear h
  go_enter Tryd.func18, Tryd.ntmps18
  go_wp2_with fail
  refine (l6Open_any a len cap _ (HC.out.below ((Below.refl _ _).alloc (Nat.le_refl _) _))).mono ?_
  rintro r w1 ⟨rfl, ⟨sv, L, R1⟩, b1⟩
  have hz1 : w.heap.size < w1.heap.size := by have := b1.size; simp at this; omega
  have c1 : w1.heap[w.heap.size]? = some (.cells #[.int .i64 0, .int .i64 0, .int .i64 0, .int .i64 0, .slice none 0 0] 33 (0, 0)) := (b1.block _ (by simp)).trans (heap_alloc_new w _)
  have HR : Hid (Rd w1 (w.heap.size + 1) sv L 0 ∧ Below w.heap.size w w1 ∧ w1.heap[w.heap.size]? = some (.cells #[.int .i64 0, .int .i64 0, .int .i64 0, .int .i64 0, .slice none 0 0] 33 (0, 0))) := ⟨by simpa using R1, ((Below.refl _ _).alloc (Nat.le_refl _) _).trans (b1.mono (by simp)), c1⟩
  clear R1 b1 c1 HC
  go_wp2_with fail
  refine (l71Keys_any (w.heap.size + 1) sv L w1 HR.out.1).mono ?_
  rintro r w2 ⟨v1, ks, q, rfl, hk, hq0, hq1, D2⟩
  have H2 : Hid (Dr w1 (w.heap.size + 1) sv L 3 1 w2 q v1 ks.length (ks.map (Value.int .i64))) := D2
  clear D2
  go_wp2_with fail
  refine (l71Seals_any (w.heap.size + 1) sv L q w2 H2.out.rd (by omega) (by omega)).mono ?_
  rintro r w3 ⟨v2, xs, q2, rfl, hx, hq20, hq21, D3⟩
  have H3 : Hid (Dr w2 (w.heap.size + 1) sv L 45 7 w3 q2 v2 xs.length (cellsL xs)) := D3
  obtain ⟨a2, c2, rfl, _, _, _⟩ := own_row D3.own
  clear D3
  go_wp2_with fail
  refine (l71MsgAt_any (w.heap.size + 1) sv L q2 (by omega) (by omega) w3 H3.out.rd).mono ?_
  rintro r w4 ⟨⟨m, n, k, f, a3, ys, c3, rfl, ho3, hy3, _, _⟩, q3, hq30, hq31, R4, G4⟩
  have hv1 := H2.out.hbr
  have g23 := H3.out.grew.size
  have g12 := H2.out.grew.size
  have g34 := G4.size
  have ab := Below.alloc_ w4 (.cells #[.int .i64 m, .int .i64 n, .int .i64 k, .int .i64 f, .slice a3 ys.length c3] 33)
  have DB0 : Hid (Db w (w.heap.size + 1) sv L w1.heap.size w2.heap.size w3.heap.size w4.heap.size (w4.alloc (.cells #[.int .i64 m, .int .i64 n, .int .i64 k, .int .i64 f, .slice a3 ys.length c3] 33)) q3 v1 ks a2 c2 xs m n k f a3 c3 ys) := by
    refine ⟨R4.alloc _, OwnI.later (owns_grew (owns_grew H2.out.own H3.out.grew hv1) G4 hv1) ab, OwnS.later (owns_grew H3.out.own G4 H3.out.hbr) ab, fun g e => (H3.out.own.lt g e).2, YRow.of (World.ownsRow.alloc ho3 _), heap_alloc_new _ _, ?_, ?_, by omega, hv1, g12, g23, by omega, by omega, by omega, by simp; omega⟩
    · rw [ab.block _ (by omega), G4.block _ (by omega) (by omega), H3.out.grew.block _ (by omega) (by omega), H2.out.grew.block _ (by omega) (by omega)]
      exact HR.out.2.2
    · exact ((((HR.out.2.1.trans (H2.out.grew.below (by omega) HR.out.2.1.size)).trans (H3.out.grew.below (by omega) (by omega))).trans (G4.below (by omega) (by omega))).trans (ab.mono (by omega)))
  clear H2 H3 R4 G4 ho3 ab HR
  obtain ⟨Y, hY⟩ : ∃ Y, ys.length = Y := ⟨_, rfl⟩
  have HY : Hid (ys.length = Y) := hY
  have hY3 : Y ≤ 3 := by omega
  clear hY
  go_wp2_with fail
  go_loopw [6, 9] (fun v i wr => ∃ (j : Nat) (q : Int) (zs : List Int) (us : List Sl), j ≤ Y ∧ i = .int .i64 j ∧ 0 ≤ q ∧ q ≤ 400 + 3 * j ∧ zs.length ≤ 4 + 2 * j ∧ Hid (us.length = Y ∧ Db w (w.heap.size + 1) sv L w1.heap.size w2.heap.size w3.heap.size w4.heap.size wr q v zs a2 c2 xs m n k f a3 c3 us)) (fun _ i _ => Y - (intOf i).toNat)
  case atStart => exact ⟨0, q3, ks, ys, Nat.zero_le _, rfl, by omega, by omega, by omega, HY.out, DB0.out⟩
  case round =>
    clear DB0 HY
    obtain ⟨j, q, zs, us, hj, rfl, hq0', hq1', hzl, C⟩ := hrel
    have c4 := (cells5 C.out.2.mv).2.2.2.2.1
    rw [C.out.1] at c4
    by_cases hlt : j < Y
    · have hju : j < us.length := by rw [C.out.1]; exact hlt
      obtain ⟨u, hu⟩ : ∃ u, us[j]? = some u := ⟨us[j], List.getElem?_eq_getElem hju⟩
      obtain ⟨g, rfl⟩ : ∃ g, a3 = some ⟨g, 0, none⟩ := by
        rcases C.out.2.row with hz | ⟨g, e, _⟩
        · rw [hz] at hju; simp at hju
        · exact ⟨g, e⟩
      have HU : Hid (us[j]? = some u ∧ j < us.length) := ⟨hu, hju⟩
      clear hu hju
      by_cases hxz : xs.length = 0
      · have hxb : ¬ (0 : Int) < (xs.length : Int) := by omega
        clear hxz
        go_wp2_with fail
        refine (pick_any 2 (by omega) _ _ _ _ _ C.out.2.rd (by omega) (by omega)).mono ?_
        rintro r w5 ⟨⟨x, x0, x1, rfl⟩, R5, O5⟩
        have C5 : Hid (us.length = Y ∧ Db w (w.heap.size + 1) sv L w1.heap.size w2.heap.size w3.heap.size w4.heap.size w5 (q + 1) u6 zs a2 c2 xs m n k f (some ⟨g, 0, none⟩) c3 us) := ⟨C.out.1, C.out.2.go R5 O5⟩
        clear C R5 O5 c4
        by_cases hx2 : x = 0
        · subst hx2
          have CD : Hid (us.length = Y ∧ Db w (w.heap.size + 1) sv L w1.heap.size w2.heap.size w3.heap.size w4.heap.size w5.drew (q + 1) u6 zs a2 c2 xs m n k f (some ⟨g, 0, none⟩) c3 us) := ⟨C5.out.1, C5.out.2.later (Below.refl _ _).drew⟩
          have S0 : w5.drew.cell? ⟨w4.heap.size, 4, none⟩ = some (.slice (some ⟨g, 0, none⟩) us.length c3) ∧ SealAt w5.drew g (j * 7) u := ⟨(cells5 CD.out.2.mv).2.2.2.2.1, by
            rcases CD.out.2.row with hz | ⟨g', e, _, _, hs⟩
            · have := HU.out.2; rw [hz] at this; simp at this
            · obtain rfl : g = g' := by injection e with e; injection e
              exact hs j u HU.out.1⟩
          rw [CD.out.1] at S0
          clear C5
          go_wp2_with fail
          refine wp_region_held_drew (S := fun w' => w'.cell? ⟨w4.heap.size, 4, none⟩ = some (.slice (some ⟨g, 0, none⟩) Y c3) ∧ SealAt w' g (j * 7) u) (by kernel_rfl) S0 (fun hS => ?_)
          refine take1 0 47 (u6) rfl rfl (by kernel_rfl) (by kernel_rfl) (by kernel_rfl) (by rfl) (fun _ _ _ h => h) hS (fun w' hS' => ?_) ?_
          · (go_simp) <;> (intro hx9; omega)
          simp only [Act.put, List.setIfInBounds_toArray, List.set_cons_zero, List.set_cons_succ]
          refine take1 1 48 (.pointer (some ⟨w4.heap.size, 4, none⟩)) rfl rfl (by kernel_rfl) (by kernel_rfl) (by kernel_rfl) (by rfl) (fun _ _ _ h => h) hS (fun w' hS' => ?_) ?_
          · (go_simp) <;> (intro hx9; omega)
          simp only [Act.put, List.setIfInBounds_toArray, List.set_cons_zero, List.set_cons_succ]
          refine take1 2 49 (.slice (some ⟨g, 0, none⟩) Y c3) rfl rfl (by kernel_rfl) (by kernel_rfl) (by kernel_rfl) (by rfl) (fun _ _ _ h => h) hS (fun w' hS' => ?_) ?_
          · have e4 := hS'.1
            (go_simp) <;> (intro hx9; omega)
          simp only [Act.put, List.setIfInBounds_toArray, List.set_cons_zero, List.set_cons_succ]
          refine take1 3 50 (.int .i64 j) rfl rfl (by kernel_rfl) (by kernel_rfl) (by kernel_rfl) (by rfl) (fun _ _ _ h => h) hS (fun w' hS' => ?_) ?_
          · (go_simp) <;> (intro hx9; omega)
          simp only [Act.put, List.setIfInBounds_toArray, List.set_cons_zero, List.set_cons_succ]
          refine take1 4 51 (.pointer (some ⟨g, j * 7, none⟩)) rfl rfl (by kernel_rfl) (by kernel_rfl) (by kernel_rfl) (by rfl) (fun _ _ _ h => h) hS (fun w' hS' => ?_) ?_
          · (go_simp) <;> (intro hx9; omega)
          simp only [Act.put, List.setIfInBounds_toArray, List.set_cons_zero, List.set_cons_succ]
          refine take1 5 52 (.pointer (some ⟨g, j * 7, none⟩)) rfl rfl (by kernel_rfl) (by kernel_rfl) (by kernel_rfl) (by rfl) (fun _ _ _ h => h) hS (fun w' hS' => ?_) ?_
          · (go_simp) <;> (intro hx9; omega)
          simp only [Act.put, List.setIfInBounds_toArray, List.set_cons_zero, List.set_cons_succ]
          refine take1 6 53 (.int .i64 u.k) rfl rfl (by kernel_rfl) (by kernel_rfl) (by kernel_rfl) (by rfl) (fun _ _ _ h => h) hS (fun w' hS' => ?_) ?_
          · obtain ⟨c0, c1', c2', c3', c4, c5, c6⟩ := hS'.2
            (go_simp) <;> (intro hx9; omega)
          simp only [Act.put, List.setIfInBounds_toArray, List.set_cons_zero, List.set_cons_succ]
          refine take1 7 54 (.pointer (some ⟨w4.heap.size, 4, none⟩)) rfl rfl (by kernel_rfl) (by kernel_rfl) (by kernel_rfl) (by rfl) (fun _ _ _ h => h) hS (fun w' hS' => ?_) ?_
          · (go_simp) <;> (intro hx9; omega)
          simp only [Act.put, List.setIfInBounds_toArray, List.set_cons_zero, List.set_cons_succ]
          refine take1 8 55 (.slice (some ⟨g, 0, none⟩) Y c3) rfl rfl (by kernel_rfl) (by kernel_rfl) (by kernel_rfl) (by rfl) (fun _ _ _ h => h) hS (fun w' hS' => ?_) ?_
          · have e4 := hS'.1
            (go_simp) <;> (intro hx9; omega)
          simp only [Act.put, List.setIfInBounds_toArray, List.set_cons_zero, List.set_cons_succ]
          refine take1 9 56 (.int .i64 j) rfl rfl (by kernel_rfl) (by kernel_rfl) (by kernel_rfl) (by rfl) (fun _ _ _ h => h) hS (fun w' hS' => ?_) ?_
          · (go_simp) <;> (intro hx9; omega)
          simp only [Act.put, List.setIfInBounds_toArray, List.set_cons_zero, List.set_cons_succ]
          refine take1 10 57 (.pointer (some ⟨g, j * 7, none⟩)) rfl rfl (by kernel_rfl) (by kernel_rfl) (by kernel_rfl) (by rfl) (fun _ _ _ h => h) hS (fun w' hS' => ?_) ?_
          · (go_simp) <;> (intro hx9; omega)
          simp only [Act.put, List.setIfInBounds_toArray, List.set_cons_zero, List.set_cons_succ]
          refine take1 11 58 (Value.agg #[.int .i64 u.k, .int .i64 u.t, .int .i64 u.a, .int .i64 u.b, .int .i64 u.c, .int .i64 u.d, .int .i64 u.e]) rfl rfl (by kernel_rfl) (by kernel_rfl) (by kernel_rfl) (by rfl) (fun _ _ _ h => h) hS (fun w' hS' => ?_) ?_
          · obtain ⟨c0, c1', c2', c3', c4, c5, c6⟩ := hS'.2
            (go_simp) <;> (intro hx9; omega)
          simp only [Act.put, List.setIfInBounds_toArray, List.set_cons_zero, List.set_cons_succ]
          refine wpAnyH_ready (rs := [12]) (by kernel_rfl) (by simp) ?_
          refine AllReadyH.cons rfl (fun K hK => ?_) AllReadyH.nil
          go_simp
          refine (l1Holds_any _ _ _ _ _ _ _ _).mono ?_
          rintro r w6 ⟨rfl, b6⟩
          have C6 : Hid (us.length = Y ∧ Db w (w.heap.size + 1) sv L w1.heap.size w2.heap.size w3.heap.size w4.heap.size w6 (q + 1) u6 zs a2 c2 xs m n k f (some ⟨g, 0, none⟩) c3 us) := ⟨CD.out.1, CD.out.2.later b6⟩
          have S6 : w6.cell? ⟨w4.heap.size, 4, none⟩ = some (.slice (some ⟨g, 0, none⟩) Y c3) ∧ SealAt w6 g (j * 7) u := ⟨((bcell b6).1 _ _ (Array.getElem?_eq_some_iff.1 CD.out.2.mv).1).trans hS.1, hS.2.later b6 (by
            rcases CD.out.2.row with hz | ⟨g', e, _, ⟨cur, hc, _⟩, _⟩
            · have := HU.out.2; rw [hz] at this; simp at this
            · obtain rfl : g = g' := by injection e with e; injection e
              exact (Array.getElem?_eq_some_iff.1 hc).1)⟩
          obtain ⟨hI, hIe⟩ : ∃ hI, hI = holdsI u.t u.b u.c := ⟨_, rfl⟩
          rw [← hIe]
          clear hIe b6 CD
          refine hK.out _ _ S6 (fun hS => ?_)
          clear hK K S6
          refine take1 13 60 (.int .i64 (if hI < 1 then 1 else hI)) rfl rfl (by kernel_rfl) (by kernel_rfl) (by kernel_rfl) (by rfl) (fun _ _ _ h => h) hS (fun w' hS' => ?_) ?_
          · (go_simp) <;> (intro hx9; omega)
          simp only [Act.put, List.setIfInBounds_toArray, List.set_cons_zero, List.set_cons_succ]
          obtain ⟨z, hz⟩ : ∃ z, z = (if hI < 1 then 1 else hI) := ⟨_, rfl⟩
          rw [← hz]
          clear hz
          refine wpAnyH_ready (rs := [14]) (by kernel_rfl) (by simp) ?_
          refine AllReadyH.cons rfl (fun K hK => ?_) AllReadyH.nil
          go_simp
          have ab := Below.alloc_ w6 (.cells #[.int .i64 u.k, .int .i64 z] 3)
          have C7 : Hid (us.length = Y ∧ Db w (w.heap.size + 1) sv L w1.heap.size w2.heap.size w3.heap.size w4.heap.size (w6.alloc (.cells #[.int .i64 u.k, .int .i64 z] 3)) (q + 1) u6 zs a2 c2 xs m n k f (some ⟨g, 0, none⟩) c3 us ∧ IRow (w6.alloc (.cells #[.int .i64 u.k, .int .i64 z] 3)) (some ⟨w6.heap.size, 0, none⟩) [u.k, z]) := ⟨C6.out.1, C6.out.2.later ab, irow_two _ _ _⟩
          have S7 : (w6.alloc (.cells #[.int .i64 u.k, .int .i64 z] 3)).cell? ⟨w4.heap.size, 4, none⟩ = some (.slice (some ⟨g, 0, none⟩) Y c3) ∧ SealAt (w6.alloc (.cells #[.int .i64 u.k, .int .i64 z] 3)) g (j * 7) u := ⟨((bcell ab).1 _ _ (Array.getElem?_eq_some_iff.1 C6.out.2.mv).1).trans hS.1, hS.2.later ab (by
            rcases C6.out.2.row with hz | ⟨g', e, _, ⟨cur, hc, _⟩, _⟩
            · have := HU.out.2; rw [hz] at this; simp at this
            · obtain rfl : g = g' := by injection e with e; injection e
              exact (Array.getElem?_eq_some_iff.1 hc).1)⟩
          refine hK.out _ _ S7 (fun hS => ?_)
          clear hK K S7 C6 ab
          refine wpAnyH_ready (rs := [15]) (by kernel_rfl) (by simp) ?_
          refine AllReadyH.cons rfl (fun K hK => ?_) AllReadyH.nil
          rw [if_pos (by rfl)]
          refine wp_app_ints _ _ rfl w1.heap.size _ zs rfl C7.out.2.1.keys (some ⟨w6.heap.size, 0, none⟩) [u.k, z] 2 rfl C7.out.2.2 (by simp; omega) C7.out.2.1.kz ?_
          intro b8 c8 w8 o8 g8
          have hzz : (zs ++ [u.k, z]).length = zs.length + 2 := by simp
          rw [hzz] at o8 ⊢
          clear hzz
          have C8 : Hid (us.length = Y ∧ Db w (w.heap.size + 1) sv L w1.heap.size w2.heap.size w3.heap.size w4.heap.size w8 (q + 1) (.slice b8 (zs.length + 2) c8) (zs ++ [u.k, z]) a2 c2 xs m n k f (some ⟨g, 0, none⟩) c3 us) := ⟨C7.out.1, C7.out.2.1.append o8 g8⟩
          have S8 : w8.cell? ⟨w4.heap.size, 4, none⟩ = some (.slice (some ⟨g, 0, none⟩) Y c3) ∧ SealAt w8 g (j * 7) u := by
            refine ⟨?_, ?_⟩
            · have := (cells5 C8.out.2.mv).2.2.2.2.1
              rwa [C8.out.1] at this
            · rcases C8.out.2.row with hz | ⟨g', e, _, _, hs⟩
              · have := HU.out.2; rw [hz] at this; simp at this
              · obtain rfl : g = g' := by injection e with e; injection e
                exact hs j u HU.out.1
          clear o8 g8 C7
          refine hK.out _ _ S8 (fun hS => ?_)
          clear hK K S8
          refine take1 16 6 (.slice b8 (zs.length + 2) c8) rfl rfl (by kernel_rfl) (by kernel_rfl) (by kernel_rfl) (by rfl) (fun _ _ _ h => h) hS (fun w' hS' => ?_) ?_
          · (go_simp) <;> (intro hx9; omega)
          simp only [Act.put, List.setIfInBounds_toArray]
          refine wpAnyH_done (by kernel_rfl) ?_ _
          clear hS
          go_wp2_with fail
          go_roundw
          case rel => exact ⟨j + 1, (q + 1), zs ++ [u.k, z], us, by omega, by go_num, by omega, by omega, by simp; omega, C8.out⟩
          case measure => simp [intOf]; omega
        · go_wp2_with fail
          exact ⟨⟨j + 1, (q + 1), zs, us, by omega, by go_num, by omega, by omega, by omega, C5.out⟩, by simp [intOf]; omega⟩
      · have hxb : (0 : Int) < xs.length := by omega
        go_wp2_with fail
        refine (pick_any 3 (by omega) _ _ _ _ _ C.out.2.rd (by omega) (by omega)).mono ?_
        rintro r w4' ⟨⟨x, x0, x1, rfl⟩, R4, O4⟩
        have C4 : Hid (us.length = Y ∧ Db w (w.heap.size + 1) sv L w1.heap.size w2.heap.size w3.heap.size w4.heap.size w4' (q + 1) u6 zs a2 c2 xs m n k f (some ⟨g, 0, none⟩) c3 us) := ⟨C.out.1, C.out.2.go R4 O4⟩
        clear C R4 O4 c4
        by_cases hx0 : x = 0
        · subst hx0
          go_wp2_with fail
          refine (pick_any 2 (by omega) _ _ _ _ _ C4.out.2.rd (by omega) (by omega)).mono ?_
          rintro r w5 ⟨⟨x, x0, x1, rfl⟩, R5, O5⟩
          have C5 : Hid (us.length = Y ∧ Db w (w.heap.size + 1) sv L w1.heap.size w2.heap.size w3.heap.size w4.heap.size w5 (q + 1 + 1) u6 zs a2 c2 xs m n k f (some ⟨g, 0, none⟩) c3 us) := ⟨C4.out.1, C4.out.2.go R5 O5⟩
          clear C4 R5 O5
          by_cases hx2 : x = 0
          · subst hx2
            have CD : Hid (us.length = Y ∧ Db w (w.heap.size + 1) sv L w1.heap.size w2.heap.size w3.heap.size w4.heap.size w5.drew (q + 1 + 1) u6 zs a2 c2 xs m n k f (some ⟨g, 0, none⟩) c3 us) := ⟨C5.out.1, C5.out.2.later (Below.refl _ _).drew⟩
            have S0 : w5.drew.cell? ⟨w4.heap.size, 4, none⟩ = some (.slice (some ⟨g, 0, none⟩) us.length c3) ∧ SealAt w5.drew g (j * 7) u := ⟨(cells5 CD.out.2.mv).2.2.2.2.1, by
              rcases CD.out.2.row with hz | ⟨g', e, _, _, hs⟩
              · have := HU.out.2; rw [hz] at this; simp at this
              · obtain rfl : g = g' := by injection e with e; injection e
                exact hs j u HU.out.1⟩
            rw [CD.out.1] at S0
            clear C5
            go_wp2_with fail
            refine wp_region_held_drew (S := fun w' => w'.cell? ⟨w4.heap.size, 4, none⟩ = some (.slice (some ⟨g, 0, none⟩) Y c3) ∧ SealAt w' g (j * 7) u) (by kernel_rfl) S0 (fun hS => ?_)
            refine take1 0 47 (u6) rfl rfl (by kernel_rfl) (by kernel_rfl) (by kernel_rfl) (by rfl) (fun _ _ _ h => h) hS (fun w' hS' => ?_) ?_
            · (go_simp) <;> (intro hx9; omega)
            simp only [Act.put, List.setIfInBounds_toArray, List.set_cons_zero, List.set_cons_succ]
            refine take1 1 48 (.pointer (some ⟨w4.heap.size, 4, none⟩)) rfl rfl (by kernel_rfl) (by kernel_rfl) (by kernel_rfl) (by rfl) (fun _ _ _ h => h) hS (fun w' hS' => ?_) ?_
            · (go_simp) <;> (intro hx9; omega)
            simp only [Act.put, List.setIfInBounds_toArray, List.set_cons_zero, List.set_cons_succ]
            refine take1 2 49 (.slice (some ⟨g, 0, none⟩) Y c3) rfl rfl (by kernel_rfl) (by kernel_rfl) (by kernel_rfl) (by rfl) (fun _ _ _ h => h) hS (fun w' hS' => ?_) ?_
            · have e4 := hS'.1
              (go_simp) <;> (intro hx9; omega)
            simp only [Act.put, List.setIfInBounds_toArray, List.set_cons_zero, List.set_cons_succ]
            refine take1 3 50 (.int .i64 j) rfl rfl (by kernel_rfl) (by kernel_rfl) (by kernel_rfl) (by rfl) (fun _ _ _ h => h) hS (fun w' hS' => ?_) ?_
            · (go_simp) <;> (intro hx9; omega)
            simp only [Act.put, List.setIfInBounds_toArray, List.set_cons_zero, List.set_cons_succ]
            refine take1 4 51 (.pointer (some ⟨g, j * 7, none⟩)) rfl rfl (by kernel_rfl) (by kernel_rfl) (by kernel_rfl) (by rfl) (fun _ _ _ h => h) hS (fun w' hS' => ?_) ?_
            · (go_simp) <;> (intro hx9; omega)
            simp only [Act.put, List.setIfInBounds_toArray, List.set_cons_zero, List.set_cons_succ]
            refine take1 5 52 (.pointer (some ⟨g, j * 7, none⟩)) rfl rfl (by kernel_rfl) (by kernel_rfl) (by kernel_rfl) (by rfl) (fun _ _ _ h => h) hS (fun w' hS' => ?_) ?_
            · (go_simp) <;> (intro hx9; omega)
            simp only [Act.put, List.setIfInBounds_toArray, List.set_cons_zero, List.set_cons_succ]
            refine take1 6 53 (.int .i64 u.k) rfl rfl (by kernel_rfl) (by kernel_rfl) (by kernel_rfl) (by rfl) (fun _ _ _ h => h) hS (fun w' hS' => ?_) ?_
            · obtain ⟨c0, c1', c2', c3', c4, c5, c6⟩ := hS'.2
              (go_simp) <;> (intro hx9; omega)
            simp only [Act.put, List.setIfInBounds_toArray, List.set_cons_zero, List.set_cons_succ]
            refine take1 7 54 (.pointer (some ⟨w4.heap.size, 4, none⟩)) rfl rfl (by kernel_rfl) (by kernel_rfl) (by kernel_rfl) (by rfl) (fun _ _ _ h => h) hS (fun w' hS' => ?_) ?_
            · (go_simp) <;> (intro hx9; omega)
            simp only [Act.put, List.setIfInBounds_toArray, List.set_cons_zero, List.set_cons_succ]
            refine take1 8 55 (.slice (some ⟨g, 0, none⟩) Y c3) rfl rfl (by kernel_rfl) (by kernel_rfl) (by kernel_rfl) (by rfl) (fun _ _ _ h => h) hS (fun w' hS' => ?_) ?_
            · have e4 := hS'.1
              (go_simp) <;> (intro hx9; omega)
            simp only [Act.put, List.setIfInBounds_toArray, List.set_cons_zero, List.set_cons_succ]
            refine take1 9 56 (.int .i64 j) rfl rfl (by kernel_rfl) (by kernel_rfl) (by kernel_rfl) (by rfl) (fun _ _ _ h => h) hS (fun w' hS' => ?_) ?_
            · (go_simp) <;> (intro hx9; omega)
            simp only [Act.put, List.setIfInBounds_toArray, List.set_cons_zero, List.set_cons_succ]
            refine take1 10 57 (.pointer (some ⟨g, j * 7, none⟩)) rfl rfl (by kernel_rfl) (by kernel_rfl) (by kernel_rfl) (by rfl) (fun _ _ _ h => h) hS (fun w' hS' => ?_) ?_
            · (go_simp) <;> (intro hx9; omega)
            simp only [Act.put, List.setIfInBounds_toArray, List.set_cons_zero, List.set_cons_succ]
            refine take1 11 58 (Value.agg #[.int .i64 u.k, .int .i64 u.t, .int .i64 u.a, .int .i64 u.b, .int .i64 u.c, .int .i64 u.d, .int .i64 u.e]) rfl rfl (by kernel_rfl) (by kernel_rfl) (by kernel_rfl) (by rfl) (fun _ _ _ h => h) hS (fun w' hS' => ?_) ?_
            · obtain ⟨c0, c1', c2', c3', c4, c5, c6⟩ := hS'.2
              (go_simp) <;> (intro hx9; omega)
            simp only [Act.put, List.setIfInBounds_toArray, List.set_cons_zero, List.set_cons_succ]
            refine wpAnyH_ready (rs := [12]) (by kernel_rfl) (by simp) ?_
            refine AllReadyH.cons rfl (fun K hK => ?_) AllReadyH.nil
            go_simp
            refine (l1Holds_any _ _ _ _ _ _ _ _).mono ?_
            rintro r w6 ⟨rfl, b6⟩
            have C6 : Hid (us.length = Y ∧ Db w (w.heap.size + 1) sv L w1.heap.size w2.heap.size w3.heap.size w4.heap.size w6 (q + 1 + 1) u6 zs a2 c2 xs m n k f (some ⟨g, 0, none⟩) c3 us) := ⟨CD.out.1, CD.out.2.later b6⟩
            have S6 : w6.cell? ⟨w4.heap.size, 4, none⟩ = some (.slice (some ⟨g, 0, none⟩) Y c3) ∧ SealAt w6 g (j * 7) u := ⟨((bcell b6).1 _ _ (Array.getElem?_eq_some_iff.1 CD.out.2.mv).1).trans hS.1, hS.2.later b6 (by
              rcases CD.out.2.row with hz | ⟨g', e, _, ⟨cur, hc, _⟩, _⟩
              · have := HU.out.2; rw [hz] at this; simp at this
              · obtain rfl : g = g' := by injection e with e; injection e
                exact (Array.getElem?_eq_some_iff.1 hc).1)⟩
            obtain ⟨hI, hIe⟩ : ∃ hI, hI = holdsI u.t u.b u.c := ⟨_, rfl⟩
            rw [← hIe]
            clear hIe b6 CD
            refine hK.out _ _ S6 (fun hS => ?_)
            clear hK K S6
            refine take1 13 60 (.int .i64 (if hI < 1 then 1 else hI)) rfl rfl (by kernel_rfl) (by kernel_rfl) (by kernel_rfl) (by rfl) (fun _ _ _ h => h) hS (fun w' hS' => ?_) ?_
            · (go_simp) <;> (intro hx9; omega)
            simp only [Act.put, List.setIfInBounds_toArray, List.set_cons_zero, List.set_cons_succ]
            obtain ⟨z, hz⟩ : ∃ z, z = (if hI < 1 then 1 else hI) := ⟨_, rfl⟩
            rw [← hz]
            clear hz
            refine wpAnyH_ready (rs := [14]) (by kernel_rfl) (by simp) ?_
            refine AllReadyH.cons rfl (fun K hK => ?_) AllReadyH.nil
            go_simp
            have ab := Below.alloc_ w6 (.cells #[.int .i64 u.k, .int .i64 z] 3)
            have C7 : Hid (us.length = Y ∧ Db w (w.heap.size + 1) sv L w1.heap.size w2.heap.size w3.heap.size w4.heap.size (w6.alloc (.cells #[.int .i64 u.k, .int .i64 z] 3)) (q + 1 + 1) u6 zs a2 c2 xs m n k f (some ⟨g, 0, none⟩) c3 us ∧ IRow (w6.alloc (.cells #[.int .i64 u.k, .int .i64 z] 3)) (some ⟨w6.heap.size, 0, none⟩) [u.k, z]) := ⟨C6.out.1, C6.out.2.later ab, irow_two _ _ _⟩
            have S7 : (w6.alloc (.cells #[.int .i64 u.k, .int .i64 z] 3)).cell? ⟨w4.heap.size, 4, none⟩ = some (.slice (some ⟨g, 0, none⟩) Y c3) ∧ SealAt (w6.alloc (.cells #[.int .i64 u.k, .int .i64 z] 3)) g (j * 7) u := ⟨((bcell ab).1 _ _ (Array.getElem?_eq_some_iff.1 C6.out.2.mv).1).trans hS.1, hS.2.later ab (by
              rcases C6.out.2.row with hz | ⟨g', e, _, ⟨cur, hc, _⟩, _⟩
              · have := HU.out.2; rw [hz] at this; simp at this
              · obtain rfl : g = g' := by injection e with e; injection e
                exact (Array.getElem?_eq_some_iff.1 hc).1)⟩
            refine hK.out _ _ S7 (fun hS => ?_)
            clear hK K S7 C6 ab
            refine wpAnyH_ready (rs := [15]) (by kernel_rfl) (by simp) ?_
            refine AllReadyH.cons rfl (fun K hK => ?_) AllReadyH.nil
            rw [if_pos (by rfl)]
            refine wp_app_ints _ _ rfl w1.heap.size _ zs rfl C7.out.2.1.keys (some ⟨w6.heap.size, 0, none⟩) [u.k, z] 2 rfl C7.out.2.2 (by simp; omega) C7.out.2.1.kz ?_
            intro b8 c8 w8 o8 g8
            have hzz : (zs ++ [u.k, z]).length = zs.length + 2 := by simp
            rw [hzz] at o8 ⊢
            clear hzz
            have C8 : Hid (us.length = Y ∧ Db w (w.heap.size + 1) sv L w1.heap.size w2.heap.size w3.heap.size w4.heap.size w8 (q + 1 + 1) (.slice b8 (zs.length + 2) c8) (zs ++ [u.k, z]) a2 c2 xs m n k f (some ⟨g, 0, none⟩) c3 us) := ⟨C7.out.1, C7.out.2.1.append o8 g8⟩
            have S8 : w8.cell? ⟨w4.heap.size, 4, none⟩ = some (.slice (some ⟨g, 0, none⟩) Y c3) ∧ SealAt w8 g (j * 7) u := by
              refine ⟨?_, ?_⟩
              · have := (cells5 C8.out.2.mv).2.2.2.2.1
                rwa [C8.out.1] at this
              · rcases C8.out.2.row with hz | ⟨g', e, _, _, hs⟩
                · have := HU.out.2; rw [hz] at this; simp at this
                · obtain rfl : g = g' := by injection e with e; injection e
                  exact hs j u HU.out.1
            clear o8 g8 C7
            refine hK.out _ _ S8 (fun hS => ?_)
            clear hK K S8
            refine take1 16 6 (.slice b8 (zs.length + 2) c8) rfl rfl (by kernel_rfl) (by kernel_rfl) (by kernel_rfl) (by rfl) (fun _ _ _ h => h) hS (fun w' hS' => ?_) ?_
            · (go_simp) <;> (intro hx9; omega)
            simp only [Act.put, List.setIfInBounds_toArray]
            refine wpAnyH_done (by kernel_rfl) ?_ _
            clear hS
            go_wp2_with fail
            go_roundw
            case rel => exact ⟨j + 1, (q + 1 + 1), zs ++ [u.k, z], us, by omega, by go_num, by omega, by omega, by simp; omega, C8.out⟩
            case measure => simp [intOf]; omega
          · go_wp2_with fail
            exact ⟨⟨j + 1, (q + 1 + 1), zs, us, by omega, by go_num, by omega, by omega, by omega, C5.out⟩, by simp [intOf]; omega⟩
        · have hxp : 0 < x := by omega
          have CD : Hid (us.length = Y ∧ Db w (w.heap.size + 1) sv L w1.heap.size w2.heap.size w3.heap.size w4.heap.size w4'.drew (q + 1) u6 zs a2 c2 xs m n k f (some ⟨g, 0, none⟩) c3 us) := ⟨C4.out.1, C4.out.2.later (Below.refl _ _).drew⟩
          have hxr := OwnS.rowAt CD.out.2.seals
          obtain ⟨b2, off2, rfl⟩ : ∃ b2 off2, a2 = some ⟨b2, off2, none⟩ := by
            rcases hxr with hz | ⟨b2, off2, e, _⟩
            · exact absurd (by rw [hz]; rfl) hxz
            · exact ⟨b2, off2, e⟩
          have hX : ∀ (i : Nat) s, xs[i]? = some s → SealAt w4'.drew b2 (off2 + i * 7) s := by
            rcases hxr with hz | ⟨b2', off2', e, _, hr⟩
            · exact absurd (by rw [hz]; rfl) hxz
            · injection e with e
              injection e with e1 e2
              subst e1 e2
              exact hr
          have S0 : w4'.drew.cell? ⟨w4.heap.size, 4, none⟩ = some (.slice (some ⟨g, 0, none⟩) Y c3) ∧ ∀ (i : Nat) s, xs[i]? = some s → SealAt w4'.drew b2 (off2 + i * 7) s := by
            refine ⟨?_, hX⟩
            have := (cells5 CD.out.2.mv).2.2.2.2.1
            rwa [CD.out.1] at this
          clear C4 hxr hX
          go_wp2_with fail
          refine wp_region_held_drew (S := fun w' => w'.cell? ⟨w4.heap.size, 4, none⟩ = some (.slice (some ⟨g, 0, none⟩) Y c3) ∧ ∀ (i : Nat) s, xs[i]? = some s → SealAt w' b2 (off2 + i * 7) s) (by kernel_rfl) S0 (fun hS => ?_)
          refine take1 0 33 (.pointer (some ⟨w4.heap.size, 4, none⟩)) rfl rfl (by kernel_rfl) (by kernel_rfl) (by kernel_rfl) (by rfl) (fun _ _ _ h => h) hS (fun w' hS' => ?_) ?_
          · (go_simp) <;> (intro hx9; omega)
          simp only [Act.put, List.setIfInBounds_toArray, List.set_cons_zero, List.set_cons_succ]
          refine take1 1 34 (.slice (some ⟨g, 0, none⟩) Y c3) rfl rfl (by kernel_rfl) (by kernel_rfl) (by kernel_rfl) (by rfl) (fun _ _ _ h => h) hS (fun w' hS' => ?_) ?_
          · have e4 := hS'.1
            (go_simp) <;> (intro hx9; omega)
          simp only [Act.put, List.setIfInBounds_toArray, List.set_cons_zero, List.set_cons_succ]
          refine take1 2 35 (.int .i64 j) rfl rfl (by kernel_rfl) (by kernel_rfl) (by kernel_rfl) (by rfl) (fun _ _ _ h => h) hS (fun w' hS' => ?_) ?_
          · (go_simp) <;> (intro hx9; omega)
          simp only [Act.put, List.setIfInBounds_toArray, List.set_cons_zero, List.set_cons_succ]
          refine take1 3 36 (.slice (some ⟨b2, off2, none⟩) xs.length c2) rfl rfl (by kernel_rfl) (by kernel_rfl) (by kernel_rfl) (by rfl) (fun _ _ _ h => h) hS (fun w' hS' => ?_) ?_
          · (go_simp) <;> (intro hx9; omega)
          simp only [Act.put, List.setIfInBounds_toArray, List.set_cons_zero, List.set_cons_succ]
          refine take1 4 37 (.pointer (some ⟨w.heap.size + 1, 0, none⟩)) rfl rfl (by kernel_rfl) (by kernel_rfl) (by kernel_rfl) (by rfl) (fun _ _ _ h => h) hS (fun w' hS' => ?_) ?_
          · (go_simp) <;> (intro hx9; omega)
          simp only [Act.put, List.setIfInBounds_toArray, List.set_cons_zero, List.set_cons_succ]
          refine take1 5 38 (.slice (some ⟨b2, off2, none⟩) xs.length c2) rfl rfl (by kernel_rfl) (by kernel_rfl) (by kernel_rfl) (by rfl) (fun _ _ _ h => h) hS (fun w' hS' => ?_) ?_
          · (go_simp) <;> (intro hx9; omega)
          simp only [Act.put, List.setIfInBounds_toArray, List.set_cons_zero, List.set_cons_succ]
          refine take1 6 39 (.int .i64 xs.length) rfl rfl (by kernel_rfl) (by kernel_rfl) (by kernel_rfl) (by rfl) (fun _ _ _ h => h) hS (fun w' hS' => ?_) ?_
          · (go_simp) <;> (intro hx9; omega)
          simp only [Act.put, List.setIfInBounds_toArray, List.set_cons_zero, List.set_cons_succ]
          refine wpAnyH_ready (rs := [7]) (by kernel_rfl) (by simp) ?_
          refine AllReadyH.cons rfl (fun K hK => ?_) AllReadyH.nil
          go_simp
          refine (pick_any (xs.length : Int) (by omega) _ _ _ _ _ CD.out.2.rd (by omega) (by omega)).mono ?_
          rintro r w5 ⟨⟨y, y0, y1, rfl⟩, R5, O5⟩
          have C5 : Hid (us.length = Y ∧ Db w (w.heap.size + 1) sv L w1.heap.size w2.heap.size w3.heap.size w4.heap.size w5 (q + 1 + 1) u6 zs (some ⟨b2, off2, none⟩) c2 xs m n k f (some ⟨g, 0, none⟩) c3 us) := ⟨CD.out.1, CD.out.2.go R5 O5⟩
          obtain ⟨yn, rfl⟩ : ∃ yn : Nat, y = yn := ⟨y.toNat, by omega⟩
          have hyl : yn < xs.length := by omega
          obtain ⟨s, hs⟩ : ∃ s, xs[yn]? = some s := ⟨xs[yn], List.getElem?_eq_getElem hyl⟩
          have S5 : w5.cell? ⟨w4.heap.size, 4, none⟩ = some (.slice (some ⟨g, 0, none⟩) Y c3) ∧ ∀ (i : Nat) s, xs[i]? = some s → SealAt w5 b2 (off2 + i * 7) s := by
            refine ⟨?_, fun i s hs => (hS.2 i s hs).same (O5.block _ ?_)⟩
            · have := (cells5 C5.out.2.mv).2.2.2.2.1
              rwa [C5.out.1] at this
            · have := OwnS.lo C5.out.2.seals b2 rfl
              have := C5.out.2.o2
              have := C5.out.2.o3
              omega
          clear R5 O5 CD
          refine hK.out _ _ S5 (fun hS => ?_)
          clear hK K S5
          refine take1 8 41 (.pointer (some ⟨b2, off2 + yn * 7, none⟩)) rfl rfl (by kernel_rfl) (by kernel_rfl) (by kernel_rfl) (by rfl) (fun _ _ _ h => h) hS (fun w' hS' => ?_) ?_
          · (go_simp) <;> (intro hx9; omega)
          simp only [Act.put, List.setIfInBounds_toArray, List.set_cons_zero, List.set_cons_succ]
          refine take1 9 42 (Value.agg #[.int .i64 s.k, .int .i64 s.t, .int .i64 s.a, .int .i64 s.b, .int .i64 s.c, .int .i64 s.d, .int .i64 s.e]) rfl rfl (by kernel_rfl) (by kernel_rfl) (by kernel_rfl) (by rfl) (fun _ _ _ h => h) hS (fun w' hS' => ?_) ?_
          · obtain ⟨c0, c1', c2', c3', c4, c5, c6⟩ := hS'.2 yn s hs
            (go_simp) <;> (intro hx9; omega)
          simp only [Act.put, List.setIfInBounds_toArray, List.set_cons_zero, List.set_cons_succ]
          refine take1 10 43 (.pointer (some ⟨g, j * 7, none⟩)) rfl rfl (by kernel_rfl) (by kernel_rfl) (by kernel_rfl) (by rfl) (fun _ _ _ h => h) hS (fun w' hS' => ?_) ?_
          · (go_simp) <;> (intro hx9; omega)
          simp only [Act.put, List.setIfInBounds_toArray, List.set_cons_zero, List.set_cons_succ]
          refine wpAnyH_ready (rs := [11]) (by kernel_rfl) (by simp) ?_
          refine AllReadyH.cons rfl (fun K hK => ?_) AllReadyH.nil
          obtain ⟨cur, hcur, hcl⟩ : ∃ cur, w5.heap[g]? = some (.cells cur 45 (0, 0)) ∧ Y * 7 ≤ cur.size := by
            rcases C5.out.2.row with hz | ⟨g', e, _, ⟨cur, hc, hl⟩, _⟩
            · have := HU.out.2; rw [hz] at this; simp at this
            · obtain rfl : g = g' := by injection e with e; injection e
              exact ⟨cur, hc, by rw [← C5.out.1]; exact hl⟩
          have hcell : ∀ o, o < Y * 7 → (∃ v, w5.cell? ⟨g, o, none⟩ = some v) ∧ w5.frozen? ⟨g, o, none⟩ = false := fun o ho => ⟨⟨cur[o]'(by omega), by simp [World.cell?, hcur, show o < cur.size by omega]⟩, by simp [World.frozen?, hcur]⟩
          obtain ⟨⟨t0, d0⟩, f0⟩ := hcell (j * 7) (by omega)
          obtain ⟨⟨t1, d1⟩, f1⟩ := hcell (j * 7 + 1) (by omega)
          obtain ⟨⟨t2, d2⟩, f2⟩ := hcell (j * 7 + 2) (by omega)
          obtain ⟨⟨t3, d3⟩, f3⟩ := hcell (j * 7 + 3) (by omega)
          obtain ⟨⟨t4, d4⟩, f4⟩ := hcell (j * 7 + 4) (by omega)
          obtain ⟨⟨t5, d5⟩, f5⟩ := hcell (j * 7 + 5) (by omega)
          obtain ⟨⟨t6, d6⟩, f6⟩ := hcell (j * 7 + 6) (by omega)
          have C6 : Hid ((us.set j s).length = Y ∧ Db w (w.heap.size + 1) sv L w1.heap.size w2.heap.size w3.heap.size w4.heap.size (put7 w5 g (j * 7) s) (q + 1 + 1) u6 zs (some ⟨b2, off2, none⟩) c2 xs m n k f (some ⟨g, 0, none⟩) c3 (us.set j s)) := ⟨by rw [List.length_set]; exact C5.out.1, C5.out.2.put HU.out.2⟩
          have S6 : (put7 w5 g (j * 7) s).cell? ⟨w4.heap.size, 4, none⟩ = some (.slice (some ⟨g, 0, none⟩) Y c3) ∧ ∀ (i : Nat) s', xs[i]? = some s' → SealAt (put7 w5 g (j * 7) s) b2 (off2 + i * 7) s' := by
            refine ⟨?_, fun i s' hs' => (hS.2 i s' hs').same (put7_heap ?_)⟩
            · have := (cells5 C6.out.2.mv).2.2.2.2.1
              rwa [C6.out.1] at this
            · have := C5.out.2.sx b2 rfl
              rcases C5.out.2.row with hz | ⟨g', e, hlo, _⟩
              · have := HU.out.2; rw [hz] at this; simp at this
              · obtain rfl : g = g' := by injection e with e; injection e
                omega
          have HS6 : Hid _ := S6
          clear S6 hcell C5
          go_simp
          refine hK.out _ _ HS6.out (fun hS => ?_)
          clear hK K HS6 d0 d1 d2 d3 d4 d5 d6 f0 f1 f2 f3 f4 f5 f6 hcur hS
          refine wpAnyH_done (by kernel_rfl) ?_ _
          go_wp2_with fail
          go_roundw
          case rel => exact ⟨j + 1, q + 1 + 1, zs, us.set j s, by omega, by go_num, by omega, by omega, by omega, C6.out⟩
          case measure => simp [intOf]; omega
    · obtain rfl : j = Y := by omega
      have o6 := C.out.2.keys
      obtain ⟨a1, c1, rfl, _⟩ := o6.row
      clear o6
      have CD : Hid (us.length = j ∧ Db w (w.heap.size + 1) sv L w1.heap.size w2.heap.size w3.heap.size w4.heap.size wr.drew q (.slice a1 zs.length c1) zs a2 c2 xs m n k f a3 c3 us) := ⟨C.out.1, C.out.2.later (Below.refl _ _).drew⟩
      have S0 : Mw wr.drew w4.heap.size m n k f (.slice a3 j c3) := by
        have := cells5 CD.out.2.mv
        rw [CD.out.1] at this
        exact ⟨this.1, this.2.1, this.2.2.1, this.2.2.2.1, this.2.2.2.2.1⟩
      clear C
      go_wp2_with fail
      clear c4
      refine wp_region_held_drew (S := fun w' => Mw w' w4.heap.size m n k f (.slice a3 j c3)) (by kernel_rfl) S0 (fun hS => ?_)
      clear S0
      generalize wr.drew = WD at CD hS ⊢
      refine take1 0 63 (.slice a1 zs.length c1) rfl rfl (by kernel_rfl) (by kernel_rfl) (by kernel_rfl) (by rfl) (fun _ _ _ h => h) hS (fun w' hS' => ?_) ?_
      · (go_simp) <;> (intro hx9; omega)
      simp only [Act.put, List.setIfInBounds_toArray, List.set_cons_zero, List.set_cons_succ]
      refine take1 1 64 (.slice a2 xs.length c2) rfl rfl (by kernel_rfl) (by kernel_rfl) (by kernel_rfl) (by rfl) (fun _ _ _ h => h) hS (fun w' hS' => ?_) ?_
      · (go_simp) <;> (intro hx9; omega)
      simp only [Act.put, List.setIfInBounds_toArray, List.set_cons_zero, List.set_cons_succ]
      refine take1 2 65 (.agg #[.int .i64 m, .int .i64 n, .int .i64 k, .int .i64 f, .slice a3 j c3]) rfl rfl (by kernel_rfl) (by kernel_rfl) (by kernel_rfl) (by rfl) (fun _ _ _ h => h) hS (fun w' hS' => ?_) ?_
      · obtain ⟨e0, e1, e2, e3, e4⟩ := hS'
        (go_simp) <;> (intro hx9; omega)
      simp only [Act.put, List.setIfInBounds_toArray, List.set_cons_zero, List.set_cons_succ]
      refine take1 3 2 (.slice a1 zs.length c1) rfl rfl (by kernel_rfl) (by kernel_rfl) (by kernel_rfl) (by rfl) (fun _ _ _ h => h) hS (fun w' hS' => ?_) ?_
      · (go_simp) <;> (intro hx9; omega)
      simp only [Act.put, List.setIfInBounds_toArray, List.set_cons_zero, List.set_cons_succ]
      refine take1 4 3 (.slice a2 xs.length c2) rfl rfl (by kernel_rfl) (by kernel_rfl) (by kernel_rfl) (by rfl) (fun _ _ _ h => h) hS (fun w' hS' => ?_) ?_
      · (go_simp) <;> (intro hx9; omega)
      simp only [Act.put, List.setIfInBounds_toArray, List.set_cons_zero, List.set_cons_succ]
      refine wpAnyH_ready (rs := [5]) (by kernel_rfl) (by simp) ?_
      refine AllReadyH.cons rfl (fun K hK => ?_) AllReadyH.nil
      obtain ⟨z0, z1, z2, z3, z4, zf, zl⟩ := cells5 CD.out.2.res
      have FV := CD.out.2.fin (by omega) hx (.int .i64 m) (.int .i64 n) (.int .i64 k) (.int .i64 f) (.slice a3 j c3)
      have S6 : Hid (Mw (((((WD.setCell ⟨w.heap.size, 0, none⟩ (.int .i64 m)).setCell ⟨w.heap.size, 1, none⟩ (.int .i64 n)).setCell ⟨w.heap.size, 2, none⟩ (.int .i64 k)).setCell ⟨w.heap.size, 3, none⟩ (.int .i64 f)).setCell ⟨w.heap.size, 4, none⟩ (.slice a3 j c3)) w4.heap.size m n k f (.slice a3 j c3)) := by
        have e : ∀ o, (((((WD.setCell ⟨w.heap.size, 0, none⟩ (.int .i64 m)).setCell ⟨w.heap.size, 1, none⟩ (.int .i64 n)).setCell ⟨w.heap.size, 2, none⟩ (.int .i64 k)).setCell ⟨w.heap.size, 3, none⟩ (.int .i64 f)).setCell ⟨w.heap.size, 4, none⟩ (.slice a3 j c3)).cell? ⟨w4.heap.size, o, none⟩ = WD.cell? ⟨w4.heap.size, o, none⟩ := fun o => by simp [World.cell?, FV.2.2 _ CD.out.2.o6.symm]
        exact ⟨(e _).trans hS.c0, (e _).trans hS.c1, (e _).trans hS.c2, (e _).trans hS.c3, (e _).trans hS.c4⟩
      have HV : Hid (Drawn w a1 zs a2 xs (((((WD.setCell ⟨w.heap.size, 0, none⟩ (.int .i64 m)).setCell ⟨w.heap.size, 1, none⟩ (.int .i64 n)).setCell ⟨w.heap.size, 2, none⟩ (.int .i64 k)).setCell ⟨w.heap.size, 3, none⟩ (.int .i64 f)).setCell ⟨w.heap.size, 4, none⟩ (.slice a3 j c3)) ∧ SRow (((((WD.setCell ⟨w.heap.size, 0, none⟩ (.int .i64 m)).setCell ⟨w.heap.size, 1, none⟩ (.int .i64 n)).setCell ⟨w.heap.size, 2, none⟩ (.int .i64 k)).setCell ⟨w.heap.size, 3, none⟩ (.int .i64 f)).setCell ⟨w.heap.size, 4, none⟩ (.slice a3 j c3)) a3 us ∧ us.length = j) := ⟨FV.1, FV.2.1, CD.out.1⟩
      clear FV CD
      go_simp
      refine hK.out _ _ S6.out (fun hS => ?_)
      clear hK K S6 hS
      refine wpAnyH_done (by kernel_rfl) ?_ _
      go_wp2_with fail
      refine bodyPost_ret (v := .tuple #[.slice a1 zs.length c1, .slice a2 xs.length c2, .agg #[.int .i64 m, .int .i64 n, .int .i64 k, .int .i64 f, .slice a3 j c3]]) (by simp [results, Tryd.results18, go_sem, *]) rfl ⟨a1, c1, zs, a2, c2, xs, m, n, k, f, a3, c3, us, by rw [HV.out.2.2], HV.out.1, HV.out.2.1, by rw [HV.out.2.2]; exact hY3⟩

end Go.Proofs.YtepnijocfilgoaaDoor

