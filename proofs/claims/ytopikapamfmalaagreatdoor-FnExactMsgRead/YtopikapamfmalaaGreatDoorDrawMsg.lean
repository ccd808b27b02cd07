/-
  A word is drawn: four numbers, and a row of at most three seals in new memory; but for the reader nothing that was there is turned.
-/
import Derived.Test.YtopikapamfmalaaGreatDoorDrawSeal
import Derived.Test.YtopikapamfmalaaGreatDoorMsgRow
import Derived.Test.YtopikapamfmalaaGreatDoorKCells
import Derived.Deep.DeepCutAuto
import Derived.Deep.CutBlock
namespace Go.Proofs.YtopikapamfmalaaGreatDoor
open Go.RowKit
attribute [local go_sem ↓] Go.wp_at_zero Go.wp_at_succ

/-- On the way: the reader, the answer's block still empty, the word's own block, its row. -/
structure Dm (W : World) (br : Nat) (sv : Value) (L Bm : Nat) (w : World) (p m n k f : Int) (v : Value) (xs : List Sl) : Prop where
  rd : Rd w br sv L p
  grew : Grew br W w
  res : w.heap[W.heap.size]? = some (.cells #[.int .i64 0, .int .i64 0, .int .i64 0, .int .i64 0, .slice none 0 0] 24 (0, 0))
  msg : w.heap[Bm]? = some (.cells #[.int .i64 m, .int .i64 n, .int .i64 k, .int .i64 f, v] 24 (0, 0))
  own : w.ownsRow W.heap.size 39 7 v xs.length (cellsL xs)
  lo : W.heap.size < Bm
  hbr : br < W.heap.size

theorem cells5 {w : World} {B t : Nat} {a0 a1 a2 a3 a4 : Value} (h : w.heap[B]? = some (.cells #[a0, a1, a2, a3, a4] t (0, 0))) :
    w.cell? ⟨B, 0, none⟩ = some a0 ∧ w.cell? ⟨B, 1, none⟩ = some a1 ∧ w.cell? ⟨B, 2, none⟩ = some a2 ∧ w.cell? ⟨B, 3, none⟩ = some a3 ∧ w.cell? ⟨B, 4, none⟩ = some a4 ∧ (∀ i, w.frozen? ⟨B, i, none⟩ = false) ∧ B < w.heap.size := by
  refine ⟨?_, ?_, ?_, ?_, ?_, fun i => ?_, (Array.getElem?_eq_some_iff.1 h).1⟩
  all_goals simp [World.cell?, World.frozen?, h]

theorem own_blocks {w w' : World} {base e size n : Nat} {v : Value} {xs : List Value} (h : w.ownsRow base e size v n xs) (hb : ∀ g, base ≤ g → g < w.heap.size → w'.heap[g]? = w.heap[g]?) : w'.ownsRow base e size v n xs := by
  obtain ⟨hl, h⟩ := h
  refine ⟨hl, ?_⟩
  rcases h with h | ⟨g, cap, cur, hv, hg, hh, h1, h2, h3, h4⟩
  · exact Or.inl h
  · exact Or.inr ⟨g, cap, cur, hv, hg, by rw [hb g hg (Array.getElem?_eq_some_iff.1 hh).1]; exact hh, h1, h2, h3, h4⟩

theorem own_blocks' {w w' : World} {base e size n : Nat} {v : Value} {xs : List Value} (h : w.ownsRow base e size v n xs) (hb : ∀ g cur, base ≤ g → w.heap[g]? = some (.cells cur e (0, 0)) → w'.heap[g]? = w.heap[g]?) : w'.ownsRow base e size v n xs := by
  obtain ⟨hl, h⟩ := h
  refine ⟨hl, ?_⟩
  rcases h with h | ⟨g, cap, cur, hv, hg, hh, h1, h2, h3, h4⟩
  · exact Or.inl h
  · exact Or.inr ⟨g, cap, cur, hv, hg, by rw [hb g cur hg hh]; exact hh, h1, h2, h3, h4⟩

theorem own_neD {w : World} {base e T size n b : Nat} {v : Value} {xs : List Value} {cs : Array Value} (h : w.ownsRow base e size v n xs) (hb : w.heap[b]? = some (.cells cs T (0, 0))) (hne : T ≠ e) : v.ownBlock ≠ some b := by
  obtain ⟨_, ⟨rfl, _⟩ | ⟨g, cap, cur, rfl, _, hh, _⟩⟩ := h
  · simp [Value.ownBlock]
  · intro e'
    have : g = b := by simpa [Value.ownBlock] using e'
    subst this
    rw [hb] at hh
    injection hh with hh
    injection hh with _ h2
    exact hne h2
theorem Dm.grow {W : World} {br : Nat} {sv : Value} {L Bm : Nat} {w w' : World} {p q m n k f : Int} {v : Value} {xs : List Sl} (D : Dm W br sv L Bm w p m n k f v xs) (R : Rd w' br sv L q) (g : Grew br w w') : Dm W br sv L Bm w' q m n k f v xs :=
  ⟨R, D.grew.trans g, (g.block _ (cells5 D.res).2.2.2.2.2.2 (by have := D.hbr; omega)).trans D.res, (g.block _ (cells5 D.msg).2.2.2.2.2.2 (by have := D.hbr; have := D.lo; omega)).trans D.msg, own_blocks D.own (fun b hb hl => g.block b hl (by have := D.hbr; omega)), D.lo, D.hbr⟩
theorem Dm.drew {W : World} {br : Nat} {sv : Value} {L Bm : Nat} {w : World} {p m n k f : Int} {v : Value} {xs : List Sl} (D : Dm W br sv L Bm w p m n k f v xs) : Dm W br sv L Bm w.drew p m n k f v xs :=
  D.grow (D.rd.stay fun _ _ => rfl) ⟨rfl, rfl, rfl, Nat.le_refl _, fun _ _ _ => rfl⟩
theorem Dm.only {W : World} {br : Nat} {sv : Value} {L Bm : Nat} {w w' : World} {p q m n k f : Int} {v : Value} {xs : List Sl} (D : Dm W br sv L Bm w p m n k f v xs) (R : Rd w' br sv L q) (g : Only br w w') : Dm W br sv L Bm w' q m n k f v xs := D.grow R g.grew

theorem pick_dm (c : Int) (hc : 1 ≤ c) {W : World} {br : Nat} {sv : Value} {L Bm : Nat} {w : World} {p m n k f : Int} {v : Value} {xs : List Sl} (D : Dm W br sv L Bm w p m n k f v xs) (hp : 0 ≤ p) (hp2 : p ≤ 1000000) :
    Calls Tryz.prog 26 #[.pointer (some ⟨br, 0, none⟩), .int .i64 c] w fun e w' => (∃ u : Int, 0 ≤ u ∧ u < c ∧ e = .returned (.int .i64 u)) ∧ Dm W br sv L Bm w' (p + 1) m n k f v xs :=
  (pick_any c hc br sv L p w D.rd hp hp2).mono fun _ _ ⟨hv, R, h⟩ => ⟨hv, D.only R h⟩

theorem heap_put {w : World} {B o t : Nat} {cs : Array Value} {u : Value} (h : w.heap[B]? = some (.cells cs t (0, 0))) : (w.setCell ⟨B, o, none⟩ u).heap[B]? = some (.cells (cs.setIfInBounds o u) t (0, 0)) := by
  simp [World.setCell, Array.getElem?_modify, h]
theorem heap_put_else {w : World} {B o b : Nat} {u : Value} (h : b ≠ B) : (w.setCell ⟨B, o, none⟩ u).heap[b]? = w.heap[b]? := by
  simp [World.setCell, Array.getElem?_modify, Ne.symm h]

/-- A store into the word's own block. -/
theorem Dm.put {W : World} {br : Nat} {sv : Value} {L Bm : Nat} {w : World} {p m n k f m' n' k' f' : Int} {v v' u : Value} {xs xs' : List Sl} {o : Nat} (D : Dm W br sv L Bm w p m n k f v xs)
    (ho : w.ownsRow W.heap.size 39 7 v' xs'.length (cellsL xs')) (hne : 24 ≠ 39) (hcs : (#[Value.int .i64 m, .int .i64 n, .int .i64 k, .int .i64 f, v].setIfInBounds o u) = #[.int .i64 m', .int .i64 n', .int .i64 k', .int .i64 f', v']) :
    Dm W br sv L Bm (w.setCell ⟨Bm, o, none⟩ u) p m' n' k' f' v' xs' := by
  have hlo := D.lo
  have hbr := D.hbr
  refine ⟨D.rd.store (a := ⟨Bm, o, none⟩) (by simp; omega) u, D.grew.store (p := ⟨Bm, o, none⟩) (by simp; omega) u, (heap_put_else (by omega)).trans D.res, ?_, ?_, hlo, hbr⟩
  · rw [heap_put D.msg, hcs]
  · refine own_blocks' ho fun g cur _ hh => heap_put_else ?_
    rintro rfl
    rw [D.msg] at hh
    injection hh with hh
    injection hh with _ h2
    exact hne h2

/-- What append leaves -/
theorem Dm.append {W : World} {br : Nat} {sv : Value} {L Bm : Nat} {w w3 : World} {p m n k f : Int} {v v' : Value} {xs : List Sl} {s : Sl} {ob : Obj} (D : Dm W br sv L Bm w p m n k f v xs) (hne : 24 ≠ 39)
    (ho : w3.ownsRow W.heap.size 39 7 v' (xs.length + 1) (cellsL xs ++ s.cs)) (hg : (w.alloc ob).grownBy w3 v.ownBlock) :
    w3.heap[Bm]? = some (.cells #[.int .i64 m, .int .i64 n, .int .i64 k, .int .i64 f, v] 24 (0, 0)) ∧ Dm W br sv L Bm (w3.setCell ⟨Bm, 4, none⟩ v') p m n k f v' (xs ++ [s]) := by
  have hlo := D.lo
  have hbr := D.hbr
  obtain ⟨_, _, _, _, _, _, hBl⟩ := cells5 D.msg
  obtain ⟨_, _, _, _, _, _, hRl⟩ := cells5 D.res
  have b1 : v.ownBlock ≠ some Bm := own_neD D.own D.msg hne
  have b2 : v.ownBlock ≠ some W.heap.size := own_neD D.own D.res hne
  have b3 : ∀ b, b < W.heap.size → some b ≠ v.ownBlock := fun b hb e => by
    have := (D.own.lt b e.symm).1; omega
  have blk : ∀ b, b < w.heap.size → some b ≠ v.ownBlock → w3.heap[b]? = w.heap[b]? := fun b hb hn =>
    (hg.block b (by simp; omega) hn).trans (heap_alloc_old w _ hb)
  have hsz : w.heap.size ≤ w3.heap.size := by have := hg.size; simp at this; omega
  have hWw := D.grew.size
  have D3 : w3.heap[Bm]? = some (.cells #[.int .i64 m, .int .i64 n, .int .i64 k, .int .i64 f, v] 24 (0, 0)) := (blk Bm hBl b1.symm).trans D.msg
  have rd3 : Rd w3 br sv L p := D.rd.stay fun b hb => blk b (by omega) (b3 b (by omega))
  have gr3 : Grew br W w3 := ⟨hg.os.trans D.grew.os, hg.tape.trans D.grew.tape, hg.output.trans D.grew.output, by omega, fun b hb hn => (blk b (by omega) (b3 b hb)).trans (D.grew.block b hb hn)⟩
  refine ⟨D3, rd3.store (a := ⟨Bm, 4, none⟩) (by simp; omega) v', gr3.store (p := ⟨Bm, 4, none⟩) (by simp; omega) v', (heap_put_else (by omega)).trans ((blk _ hRl b2.symm).trans D.res), ?_, ?_, hlo, hbr⟩
  · rw [heap_put D3]; rfl
  · rw [cellsL_add, List.length_append, List.length_singleton]
    refine own_blocks' ho fun g cur _ hh => heap_put_else ?_
    rintro rfl
    rw [D3] at hh
    injection hh with hh
    injection hh with _ h2
    exact hne h2

theorem Dm.alloc {W : World} {br : Nat} {sv : Value} {L Bm : Nat} {w : World} {p m n k f : Int} {v : Value} {xs : List Sl} (D : Dm W br sv L Bm w p m n k f v xs) (ob : Obj) : Dm W br sv L Bm (w.alloc ob) p m n k f v xs := D.grow (D.rd.alloc ob) ((Grew.refl br w).alloc ob)
theorem SRow.put {w : World} {a : Option Addr} {p o : Nat} {u : Value} {xs : List Sl} (h : SRow w a xs) (hp : ∀ g off, a = some ⟨g, off, none⟩ → xs ≠ [] → g ≠ p) : SRow (w.setCell ⟨p, o, none⟩ u) a xs := by
  rcases h with h | ⟨b, off, rfl, hl, h⟩
  · exact Or.inl h
  · by_cases e : xs = []
    · exact Or.inl e
    · have hne := hp b off rfl e
      refine Or.inr ⟨b, off, rfl, by simpa using hl, fun i s hs => ?_⟩
      have hd := h i s hs
      have hc : ∀ q, (w.setCell ⟨p, o, none⟩ u).cell? ⟨b, q, none⟩ = w.cell? ⟨b, q, none⟩ := fun q => elsewhere (Or.inl (Ne.symm hne))
      exact ⟨(hc _).trans hd.c0, (hc _).trans hd.c1, (hc _).trans hd.c2, (hc _).trans hd.c3, (hc _).trans hd.c4, (hc _).trans hd.c5, (hc _).trans hd.c6⟩
theorem own_far {w : World} {base e size n B o : Nat} {v u : Value} {xs : List Value} (h : w.ownsRow base e size v n xs) (hne : v.ownBlock ≠ some B) : (w.setCell ⟨B, o, none⟩ u).ownsRow base e size v n xs := by
  refine ⟨h.1, h.2.imp id ?_⟩
  rintro ⟨g, cap, cur, rfl, h2, h3, h4⟩
  have hg : B ≠ g := fun e => hne (by rw [e]; rfl)
  exact ⟨g, cap, cur, rfl, h2, by simpa [World.setCell, Array.getElem?_modify, hg] using h3, h4⟩
/-- The word is laid into the answer's block. -/
theorem Dm.fin {W : World} {br : Nat} {sv : Value} {L Bm : Nat} {w : World} {p m n k f : Int} {v : Value} {xs : List Sl} (D : Dm W br sv L Bm w p m n k f v xs) (hne : 24 ≠ 39) :
    ∃ a cap, v = .slice a xs.length cap ∧ xs.length ≤ cap ∧ (xs ≠ [] → ∃ g, a = some ⟨g, 0, none⟩ ∧ W.heap.size ≤ g) ∧ ∀ v0 v1 v2 v3 v4 : Value, ∀ w', w' = (((((w.setCell ⟨W.heap.size, 0, none⟩ v0).setCell ⟨W.heap.size, 1, none⟩ v1).setCell ⟨W.heap.size, 2, none⟩ v2).setCell ⟨W.heap.size, 3, none⟩ v3).setCell ⟨W.heap.size, 4, none⟩ v4) →
      w'.ownsRow W.heap.size 39 7 (.slice a xs.length cap) xs.length (cellsL xs) ∧ Rd w' br sv L p ∧ Grew br W w' := by
  have hnb := own_neD D.own D.res hne
  obtain ⟨a, cap, rfl, hcap, hr, hg⟩ := own_row D.own
  refine ⟨a, cap, rfl, hcap, hg, fun v0 v1 v2 v3 v4 w' hw => ?_⟩
  subst hw
  have hb := D.hbr
  exact ⟨own_far (own_far (own_far (own_far (own_far D.own hnb) hnb) hnb) hnb) hnb, ((((D.rd.store (a := ⟨_, _, none⟩) hb v0).store (a := ⟨_, _, none⟩) hb v1).store (a := ⟨_, _, none⟩) hb v2).store (a := ⟨_, _, none⟩) hb v3).store (a := ⟨_, _, none⟩) hb v4,
    ((((D.grew.store (p := ⟨W.heap.size, _, none⟩) (Nat.le_refl _) v0).store (p := ⟨W.heap.size, _, none⟩) (Nat.le_refl _) v1).store (p := ⟨W.heap.size, _, none⟩) (Nat.le_refl _) v2).store (p := ⟨W.heap.size, _, none⟩) (Nat.le_refl _) v3).store (p := ⟨W.heap.size, _, none⟩) (Nat.le_refl _) v4⟩
/-- One seal more behind a row of one's own. -/
theorem app_seal {w : World} {o : Oper} {a : Act} {K : Act → World → Prop} {Q : Exit → Act → World → Prop} (d : Nat) (hd : o.dst = some d) (x y : Operand)
    (ho : o.op = .call { callee := .builtin .append, args := #[x, y], argTypes := #[22, 22] }) (base : Nat) (v : Value) (xs : List Sl) (s : Sl) (hx : a.eval x = v) (hown : w.ownsRow base 39 7 v xs.length (cellsL xs))
    (bk : Nat) (hy : a.eval y = .slice (some ⟨bk, 0, none⟩) 1 1) (hat : SealAt w bk 0 s) (hlen : xs.length ≤ 1000) (hbase : base ≤ w.heap.size)
    (h : ∀ g cap w', w'.ownsRow base 39 7 (.slice (some ⟨g, 0, none⟩) (xs.length + 1) cap) (xs.length + 1) (cellsL xs ++ s.cs) → w.grownBy w' v.ownBlock → K (a.put (some d) (.slice (some ⟨g, 0, none⟩) (xs.length + 1) cap)) w') : o.wp Tryz.prog a w K Q := by
  obtain ⟨i0, hi, hz0, hz1, hz2⟩ := info_parts infoSealM
  refine wp_append_own w x y 22 ho base 39 i0 (.agg #[.int .i64 0, .int .i64 0, .int .i64 0, .int .i64 0, .int .i64 0, .int .i64 0, .int .i64 0]) 7 56 Tryz.underlying22 hi hz0 hz1 hz2 rfl (by decide) v xs.length (cellsL xs) hx hown ⟨bk, 0, none⟩ 1 1 s.cs hy rfl ?_ ?_ (by unfold maxLen; omega) (by omega) hbase ?_
  · intro j u hu
    have h7 : j < 7 := by have := (List.getElem?_eq_some_iff.1 hu).1; simpa [Sl.cs] using this
    obtain ⟨c0, c1, c2, c3, c4, c5, c6⟩ := hat
    obtain rfl | rfl | rfl | rfl | rfl | rfl | rfl : j = 0 ∨ j = 1 ∨ j = 2 ∨ j = 3 ∨ j = 4 ∨ j = 5 ∨ j = 6 := by omega
    all_goals (simp [Sl.cs] at hu; subst hu; simpa [Addr.add] using (by assumption))
  · intro u hu
    simp [Sl.cs] at hu
    rcases hu with rfl | rfl | rfl | rfl | rfl | rfl | rfl <;> rfl
  · intro v' w' h1 h2 _
    rw [hd]
    have h1' := h1
    obtain ⟨_, ⟨_, h0⟩ | ⟨g, cap, _, rfl, _⟩⟩ := h1'
    · omega
    · exact h g cap w' h1 h2
theorem msgNeSeal : (24 : Nat) ≠ 39 := by decide

set_option maxHeartbeats 4000000 in
set_option maxRecDepth 100000 in
theorem l71MsgAt_any (br : Nat) (sv : Value) (L : Nat) (P0 : Int) (hP0 : 0 ≤ P0) (hP1 : P0 ≤ 999000) (w : World) (R : Rd w br sv L P0) :
    Calls Tryz.prog 25 #[.pointer (some ⟨br, 0, none⟩)] w fun r w' => (∃ (m n k f : Int) (a : Option Addr) (xs : List Sl) (cap : Nat), r = .returned (.agg #[.int .i64 m, .int .i64 n, .int .i64 k, .int .i64 f, .slice a xs.length cap]) ∧ w'.ownsRow w.heap.size 39 7 (.slice a xs.length cap) xs.length (cellsL xs) ∧ xs.length ≤ 3 ∧ xs.length ≤ cap ∧ (xs ≠ [] → ∃ g, a = some ⟨g, 0, none⟩ ∧ w.heap.size ≤ g)) ∧ ∃ q, 0 ≤ q ∧ q ≤ P0 + 100 ∧ Rd w' br sv L q ∧ Grew br w w' := by
  have hbr := R.lt
  have HR : Hid (Rd w br sv L P0) := R
  clear R
  go_enter Tryz.func25, Tryz.ntmps25
  go_wp2_with fail
  refine (pick_any 6 (by omega) br sv L P0 _ (HR.out.alloc _) (by omega) (by omega)).mono ?_
  rintro e1 w1 ⟨⟨u1, v1, v2, rfl⟩, R1, O1⟩
  have z1 : w1.heap.size = w.heap.size + 1 := by have := O1.size; simpa using this
  have c1 : w1.heap[w.heap.size]? = some (.cells #[.int .i64 0, .int .i64 0, .int .i64 0, .int .i64 0, .slice none 0 0] 24 (0, 0)) := (O1.block _ (by omega)).trans (heap_alloc_new w _)
  have hw1 : IntKind.i64.wrap (1 + u1) = 1 + u1 := wrapI (by omega) (by omega)
  obtain ⟨V, hV⟩ : ∃ V, V = ((w1.alloc (.cells #[] 39)).alloc (.cells #[.int .i64 (1 + u1), .int .i64 0, .int .i64 0, .int .i64 0, .slice (some ⟨w.heap.size + 1, 0, none⟩) 0 0] 24)) := ⟨_, rfl⟩
  have D0 : Hid (Dm w br sv L (w.heap.size + 1 + 1) V (P0 + 1) (1 + u1) 0 0 0 (.slice (some ⟨w.heap.size + 1, 0, none⟩) 0 0) []) := by
    subst hV
    refine ⟨(R1.alloc _).alloc _, ((((Grew.refl br w).alloc _).trans O1.grew).alloc _).alloc _, ?_, ?_, ⟨rfl, Or.inr ⟨w.heap.size + 1, 0, #[], rfl, by omega, ?_, Nat.le_refl _, by decide, rfl, rfl⟩⟩, by omega, hbr⟩
    · rw [heap_alloc_old _ _ (by simp; omega), heap_alloc_old _ _ (by omega), c1]
    · have e : w.heap.size + 1 + 1 = (w1.alloc (.cells #[] 39)).heap.size := by simp [z1]
      rw [e, heap_alloc_new]
    · rw [heap_alloc_old _ _ (by simp; omega), ← z1, heap_alloc_new]
  clear R1 O1 c1 HR
  go_upto_block 0 with fail
  rw [← hV]
  clear hV
  go_cut [4] (fun v4 wr => ∃ (c : Nat) (q n k f : Int), v4 = .int .i64 c ∧ c ≤ 2 ∧ 0 ≤ q ∧ q ≤ P0 + 10 ∧ Hid (Dm w br sv L (w.heap.size + 1 + 1) wr q (1 + u1) n k f (.slice (some ⟨w.heap.size + 1, 0, none⟩) 0 0) []))
  case first =>
    obtain rfl | rfl | rfl | rfl | rfl | rfl : u1 = 0 ∨ u1 = 1 ∨ u1 = 2 ∨ u1 = 3 ∨ u1 = 4 ∨ u1 = 5 := by omega
    · -- kind 1
      go_wp2_with fail
      refine (pick_dm 3 (by omega) D0.out (by omega) (by omega)).mono ?_
      rintro e2 w2 ⟨⟨x0, xa0, xb0, rfl⟩, Dn⟩
      have E0 : Hid (Dm w br sv L (w.heap.size + 1 + 1) w2 (P0 + 1 + 1) (1 + 0) 0 0 0 (.slice (some ⟨w.heap.size + 1, 0, none⟩) 0 0) []) := Dn
      obtain ⟨y0, y1, y2, y3, y4, yf, yl⟩ := cells5 Dn.msg
      clear Dn
      have hx0 : IntKind.i64.wrap (1 + x0) = 1 + x0 := wrapI (by omega) (by omega)
      have F0 : Hid (Dm w br sv L (w.heap.size + 1 + 1) (w2.setCell ⟨w.heap.size + 1 + 1, 1, none⟩ (.int .i64 (1 + x0))) (P0 + 1 + 1) (1 + 0) (1 + x0) 0 0 (.slice (some ⟨w.heap.size + 1, 0, none⟩) 0 0) []) := E0.out.put E0.out.own msgNeSeal rfl
      clear E0
      go_wp2_with fail
      refine (pick_dm 9 (by omega) F0.out (by omega) (by omega)).mono ?_
      rintro e2 w3 ⟨⟨x1, xa1, xb1, rfl⟩, Dn⟩
      have E1 : Hid (Dm w br sv L (w.heap.size + 1 + 1) w3 (P0 + 1 + 1 + 1) (1 + 0) (1 + x0) 0 0 (.slice (some ⟨w.heap.size + 1, 0, none⟩) 0 0) []) := Dn
      obtain ⟨y0, y1, y2, y3, y4, yf, yl⟩ := cells5 Dn.msg
      clear Dn
      have hx1 : IntKind.i64.wrap (1 + x1) = 1 + x1 := wrapI (by omega) (by omega)
      have F1 : Hid (Dm w br sv L (w.heap.size + 1 + 1) (w3.setCell ⟨w.heap.size + 1 + 1, 3, none⟩ (.int .i64 (1 + x1))) (P0 + 1 + 1 + 1) (1 + 0) (1 + x0) 0 (1 + x1) (.slice (some ⟨w.heap.size + 1, 0, none⟩) 0 0) []) := E1.out.put E1.out.own msgNeSeal rfl
      clear E1
      go_wp2_with fail
      go_meet
      case rel => exact ⟨0, _, _, _, _, by rfl, by omega, by omega, by omega, F1⟩
    · -- kind 2
      go_wp2_with fail
      refine (pick_dm 3 (by omega) D0.out (by omega) (by omega)).mono ?_
      rintro e2 w2 ⟨⟨x0, xa0, xb0, rfl⟩, Dn⟩
      have E0 : Hid (Dm w br sv L (w.heap.size + 1 + 1) w2 (P0 + 1 + 1) (1 + 1) 0 0 0 (.slice (some ⟨w.heap.size + 1, 0, none⟩) 0 0) []) := Dn
      obtain ⟨y0, y1, y2, y3, y4, yf, yl⟩ := cells5 Dn.msg
      clear Dn
      have hx0 : IntKind.i64.wrap (1 + x0) = 1 + x0 := wrapI (by omega) (by omega)
      have F0 : Hid (Dm w br sv L (w.heap.size + 1 + 1) (w2.setCell ⟨w.heap.size + 1 + 1, 1, none⟩ (.int .i64 (1 + x0))) (P0 + 1 + 1) (1 + 1) (1 + x0) 0 0 (.slice (some ⟨w.heap.size + 1, 0, none⟩) 0 0) []) := E0.out.put E0.out.own msgNeSeal rfl
      clear E0
      go_wp2_with fail
      go_meet
      case rel => exact ⟨2, _, _, _, _, by rfl, by omega, by omega, by omega, F0⟩
    · -- kind 3
      go_wp2_with fail
      refine (pick_dm 2 (by omega) D0.out (by omega) (by omega)).mono ?_
      rintro e2 w2 ⟨⟨x0, xa0, xb0, rfl⟩, Dn⟩
      have E0 : Hid (Dm w br sv L (w.heap.size + 1 + 1) w2 (P0 + 1 + 1) (1 + 2) 0 0 0 (.slice (some ⟨w.heap.size + 1, 0, none⟩) 0 0) []) := Dn
      obtain ⟨y0, y1, y2, y3, y4, yf, yl⟩ := cells5 Dn.msg
      clear Dn
      have hx0 : IntKind.i64.wrap (4 + x0) = 4 + x0 := wrapI (by omega) (by omega)
      have F0 : Hid (Dm w br sv L (w.heap.size + 1 + 1) (w2.setCell ⟨w.heap.size + 1 + 1, 2, none⟩ (.int .i64 (4 + x0))) (P0 + 1 + 1) (1 + 2) 0 (4 + x0) 0 (.slice (some ⟨w.heap.size + 1, 0, none⟩) 0 0) []) := E0.out.put E0.out.own msgNeSeal rfl
      clear E0
      go_wp2_with fail
      refine (pick_dm 9 (by omega) F0.out (by omega) (by omega)).mono ?_
      rintro e2 w3 ⟨⟨x1, xa1, xb1, rfl⟩, Dn⟩
      have E1 : Hid (Dm w br sv L (w.heap.size + 1 + 1) w3 (P0 + 1 + 1 + 1) (1 + 2) 0 (4 + x0) 0 (.slice (some ⟨w.heap.size + 1, 0, none⟩) 0 0) []) := Dn
      obtain ⟨y0, y1, y2, y3, y4, yf, yl⟩ := cells5 Dn.msg
      clear Dn
      have hx1 : IntKind.i64.wrap (1 + x1) = 1 + x1 := wrapI (by omega) (by omega)
      have F1 : Hid (Dm w br sv L (w.heap.size + 1 + 1) (w3.setCell ⟨w.heap.size + 1 + 1, 3, none⟩ (.int .i64 (1 + x1))) (P0 + 1 + 1 + 1) (1 + 2) 0 (4 + x0) (1 + x1) (.slice (some ⟨w.heap.size + 1, 0, none⟩) 0 0) []) := E1.out.put E1.out.own msgNeSeal rfl
      clear E1
      go_wp2_with fail
      go_meet
      case rel => exact ⟨2, _, _, _, _, by rfl, by omega, by omega, by omega, F1⟩
    · -- kind 4
      go_wp2_with fail
      refine (pick_dm 3 (by omega) D0.out (by omega) (by omega)).mono ?_
      rintro e2 w2 ⟨⟨x0, xa0, xb0, rfl⟩, Dn⟩
      have E0 : Hid (Dm w br sv L (w.heap.size + 1 + 1) w2 (P0 + 1 + 1) (1 + 3) 0 0 0 (.slice (some ⟨w.heap.size + 1, 0, none⟩) 0 0) []) := Dn
      obtain ⟨y0, y1, y2, y3, y4, yf, yl⟩ := cells5 Dn.msg
      clear Dn
      have hx0 : IntKind.i64.wrap (1 + x0) = 1 + x0 := wrapI (by omega) (by omega)
      have F0 : Hid (Dm w br sv L (w.heap.size + 1 + 1) (w2.setCell ⟨w.heap.size + 1 + 1, 1, none⟩ (.int .i64 (1 + x0))) (P0 + 1 + 1) (1 + 3) (1 + x0) 0 0 (.slice (some ⟨w.heap.size + 1, 0, none⟩) 0 0) []) := E0.out.put E0.out.own msgNeSeal rfl
      clear E0
      go_wp2_with fail
      go_meet
      case rel => exact ⟨2, _, _, _, _, by rfl, by omega, by omega, by omega, F0⟩
    · -- kind 5
      go_wp2_with fail
      refine (pick_dm 2 (by omega) D0.out (by omega) (by omega)).mono ?_
      rintro e2 w2 ⟨⟨x0, xa0, xb0, rfl⟩, Dn⟩
      have E0 : Hid (Dm w br sv L (w.heap.size + 1 + 1) w2 (P0 + 1 + 1) (1 + 4) 0 0 0 (.slice (some ⟨w.heap.size + 1, 0, none⟩) 0 0) []) := Dn
      obtain ⟨y0, y1, y2, y3, y4, yf, yl⟩ := cells5 Dn.msg
      clear Dn
      have hx0 : IntKind.i64.wrap (4 + x0) = 4 + x0 := wrapI (by omega) (by omega)
      have F0 : Hid (Dm w br sv L (w.heap.size + 1 + 1) (w2.setCell ⟨w.heap.size + 1 + 1, 2, none⟩ (.int .i64 (4 + x0))) (P0 + 1 + 1) (1 + 4) 0 (4 + x0) 0 (.slice (some ⟨w.heap.size + 1, 0, none⟩) 0 0) []) := E0.out.put E0.out.own msgNeSeal rfl
      clear E0
      go_wp2_with fail
      go_meet
      case rel => exact ⟨2, _, _, _, _, by rfl, by omega, by omega, by omega, F0⟩
    · -- kind 6
      go_wp2_with fail
      refine (pick_dm 3 (by omega) D0.out (by omega) (by omega)).mono ?_
      rintro e2 w2 ⟨⟨x0, xa0, xb0, rfl⟩, Dn⟩
      have E0 : Hid (Dm w br sv L (w.heap.size + 1 + 1) w2 (P0 + 1 + 1) (1 + 5) 0 0 0 (.slice (some ⟨w.heap.size + 1, 0, none⟩) 0 0) []) := Dn
      obtain ⟨y0, y1, y2, y3, y4, yf, yl⟩ := cells5 Dn.msg
      clear Dn
      have hx0 : IntKind.i64.wrap (1 + x0) = 1 + x0 := wrapI (by omega) (by omega)
      have F0 : Hid (Dm w br sv L (w.heap.size + 1 + 1) (w2.setCell ⟨w.heap.size + 1 + 1, 1, none⟩ (.int .i64 (1 + x0))) (P0 + 1 + 1) (1 + 5) (1 + x0) 0 0 (.slice (some ⟨w.heap.size + 1, 0, none⟩) 0 0) []) := E0.out.put E0.out.own msgNeSeal rfl
      clear E0
      go_wp2_with fail
      go_meet
      case rel => exact ⟨1, _, _, _, _, by rfl, by omega, by omega, by omega, F0⟩
  case rest =>
    obtain ⟨c, q, n, k, f, rfl, hc2, hq0, hq1, DC⟩ := hcut
    clear D0
    go_wp2_with fail
    go_loopw [5] (fun i wr => ∃ (j : Nat) (p : Int) (v : Value) (xs : List Sl), j ≤ c ∧ i = .int .i64 j ∧ 0 ≤ p ∧ p ≤ P0 + 10 + 10 * j ∧ xs.length = j ∧ Hid (Dm w br sv L (w.heap.size + 1 + 1) wr p (1 + u1) n k f v xs)) (fun i _ => c - (intOf i).toNat)
    case atStart => exact ⟨0, q, _, [], Nat.zero_le _, by rfl, hq0, by omega, rfl, DC⟩
    case round =>
      obtain ⟨j, p, v, xs, hj, rfl, hp0, hp1, hxl, C⟩ := hrel
      have HX : Hid (xs.length = j) := hxl
      clear DC hxl
      by_cases hlt : j < c
      · go_wp2_with fail
        have c4d : wr.drew.cell? ⟨w.heap.size + 1 + 1, 4, none⟩ = some v := (cells5 C.out.msg).2.2.2.2.1
        have bld : w.heap.size + 1 + 1 < wr.heap.size := (cells5 C.out.msg).2.2.2.2.2.2
        have HC4 : Hid (wr.drew.cell? ⟨w.heap.size + 1 + 1, 4, none⟩ = some v) := c4d
        clear c4d
        have CD : Hid (Dm w br sv L (w.heap.size + 1 + 1) wr.drew p (1 + u1) n k f v xs) := C.out.drew
        clear C
        refine wp_region_held_drew (S := fun _ => True) (by kernel_rfl) trivial (fun hS => ?_)
        refine take1 0 54 (.pointer (some ⟨w.heap.size + 1 + 1, 4, none⟩)) rfl rfl (by kernel_rfl) (by kernel_rfl) (by kernel_rfl) (by rfl) (fun _ _ _ h => h) hS (fun w' hS' => ?_) ?_
        · go_simp
        simp only [Act.put, List.setIfInBounds_toArray, List.set_cons_zero, List.set_cons_succ]
        refine take1 2 56 (.pointer (some ⟨br, 0, none⟩)) rfl rfl (by kernel_rfl) (by kernel_rfl) (by kernel_rfl) (by rfl) (fun _ _ _ h => h) hS (fun w' hS' => ?_) ?_
        · go_simp
        simp only [Act.put, List.setIfInBounds_toArray, List.set_cons_zero, List.set_cons_succ]
        refine wpAnyH_ready (rs := [1, 3]) (by kernel_rfl) (by simp) ?_
        refine AllReadyH.cons rfl (fun K hK => ?_) (AllReadyH.cons rfl (fun K hK => ?_) AllReadyH.nil)
        · have hld := HC4.out
          go_simp
          refine hK.out _ _ trivial (fun _ => ?_)
          clear hK K hld
          refine wpAnyH_ready (rs := [3]) (by kernel_rfl) (by simp) ?_
          refine AllReadyH.cons rfl (fun K hK => ?_) AllReadyH.nil
          go_simp
          refine (l71Fine_any br sv L p _ CD.out.rd (by omega) (by omega)).mono ?_
          rintro e3 w2 ⟨⟨t0, t1, t2, t3, t4, t5, t6, rfl⟩, q2, hq20, hq21, R2, G2⟩
          obtain ⟨s, hs⟩ : ∃ s : Sl, s = ⟨t0, t1, t2, t3, t4, t5, t6⟩ := ⟨_, rfl⟩
          have ht0 : t0 = s.k := by rw [hs]
          have ht1 : t1 = s.t := by rw [hs]
          have ht2 : t2 = s.a := by rw [hs]
          have ht3 : t3 = s.b := by rw [hs]
          have ht4 : t4 = s.c := by rw [hs]
          have ht5 : t5 = s.d := by rw [hs]
          have ht6 : t6 = s.e := by rw [hs]
          subst ht0 ht1 ht2 ht3 ht4 ht5 ht6
          clear hs
          have D2 : Hid (Dm w br sv L (w.heap.size + 1 + 1) w2 q2 (1 + u1) n k f v xs) := CD.out.grow R2 G2
          clear R2 G2
          refine hK.out _ _ trivial (fun _ => ?_)
          clear hK K
          refine wpAnyH_ready (rs := [4]) (by kernel_rfl) (by simp) ?_
          refine AllReadyH.cons rfl (fun K hK => ?_) AllReadyH.nil
          go_simp
          refine hK.out _ _ trivial (fun _ => ?_)
          clear hK K
          refine wpAnyH_ready (rs := [5]) (by kernel_rfl) (by simp) ?_
          refine AllReadyH.cons rfl (fun K hK => ?_) AllReadyH.nil
          rw [if_pos (by rfl)]
          refine app_seal 59 rfl _ _ rfl w.heap.size v xs s rfl (D2.out.own.alloc _) w2.heap.size rfl ⟨by go_simp, by go_simp, by go_simp, by go_simp, by go_simp, by go_simp, by go_simp⟩ (by have := HX.out; omega) (by have := D2.out.grew.size; simp; omega) ?_
          intro g' cap' w3 hown' hgrow
          have hap := D2.out.append msgNeSeal hown' hgrow
          have D3 : Hid (Dm w br sv L (w.heap.size + 1 + 1) (w3.setCell ⟨w.heap.size + 1 + 1, 4, none⟩ (.slice (some ⟨g', 0, none⟩) (xs.length + 1) cap')) q2 (1 + u1) n k f (.slice (some ⟨g', 0, none⟩) (xs.length + 1) cap') (xs ++ [s])) := hap.2
          obtain ⟨y0, y1, y2, y3, y4, yf, yl⟩ := cells5 hap.1
          clear hap hown' hgrow D2 CD HC4
          refine hK.out _ _ trivial (fun _ => ?_)
          clear hK K
          simp only [Act.put, List.setIfInBounds_toArray, List.set_cons_zero, List.set_cons_succ]
          refine take1 6 60 (.pointer (some ⟨w.heap.size + 1 + 1, 4, none⟩)) rfl rfl (by kernel_rfl) (by kernel_rfl) (by kernel_rfl) (by rfl) (fun _ _ _ h => h) hS (fun w' hS' => ?_) ?_
          · go_simp
          simp only [Act.put, List.setIfInBounds_toArray, List.set_cons_zero, List.set_cons_succ]
          refine wpAnyH_ready (rs := [7]) (by kernel_rfl) (by simp) ?_
          refine AllReadyH.cons rfl (fun K hK => ?_) AllReadyH.nil
          go_simp
          refine hK.out _ _ trivial (fun _ => ?_)
          clear hK K
          refine wpAnyH_done (by kernel_rfl) ?_ _
          clear hS y0 y1 y2 y3 y4 yf yl
          go_wp2_with fail
          go_roundw
          case rel => exact ⟨j + 1, q2, _, xs ++ [s], by omega, by go_num, hq20, by omega, by simp [HX.out], D3⟩
          case measure => simp [intOf]; omega
        · go_simp
          refine (l71Fine_any br sv L p _ CD.out.rd (by omega) (by omega)).mono ?_
          rintro e3 w2 ⟨⟨t0, t1, t2, t3, t4, t5, t6, rfl⟩, q2, hq20, hq21, R2, G2⟩
          obtain ⟨s, hs⟩ : ∃ s : Sl, s = ⟨t0, t1, t2, t3, t4, t5, t6⟩ := ⟨_, rfl⟩
          have ht0 : t0 = s.k := by rw [hs]
          have ht1 : t1 = s.t := by rw [hs]
          have ht2 : t2 = s.a := by rw [hs]
          have ht3 : t3 = s.b := by rw [hs]
          have ht4 : t4 = s.c := by rw [hs]
          have ht5 : t5 = s.d := by rw [hs]
          have ht6 : t6 = s.e := by rw [hs]
          subst ht0 ht1 ht2 ht3 ht4 ht5 ht6
          clear hs
          have D2 : Hid (Dm w br sv L (w.heap.size + 1 + 1) w2 q2 (1 + u1) n k f v xs) := CD.out.grow R2 G2
          clear R2 G2
          refine hK.out _ _ trivial (fun _ => ?_)
          clear hK K
          have HLD : Hid (w2.cell? ⟨w.heap.size + 1 + 1, 4, none⟩ = some v ∧ w.heap.size + 1 + 1 < w2.heap.size) := ⟨(cells5 D2.out.msg).2.2.2.2.1, (cells5 D2.out.msg).2.2.2.2.2.2⟩
          refine wpAnyH_ready (rs := [1, 4]) (by kernel_rfl) (by simp) ?_
          refine AllReadyH.cons rfl (fun K hK => ?_) (AllReadyH.cons rfl (fun K hK => ?_) AllReadyH.nil)
          · have hld := HLD.out.1
            go_simp
            refine hK.out _ _ trivial (fun _ => ?_)
            clear hK K hld
            refine wpAnyH_ready (rs := [4]) (by kernel_rfl) (by simp) ?_
            refine AllReadyH.cons rfl (fun K hK => ?_) AllReadyH.nil
            go_simp
            refine hK.out _ _ trivial (fun _ => ?_)
            clear hK K
            refine wpAnyH_ready (rs := [5]) (by kernel_rfl) (by simp) ?_
            refine AllReadyH.cons rfl (fun K hK => ?_) AllReadyH.nil
            rw [if_pos (by rfl)]
            refine app_seal 59 rfl _ _ rfl w.heap.size v xs s rfl (D2.out.own.alloc _) w2.heap.size rfl ⟨by go_simp, by go_simp, by go_simp, by go_simp, by go_simp, by go_simp, by go_simp⟩ (by have := HX.out; omega) (by have := D2.out.grew.size; simp; omega) ?_
            intro g' cap' w3 hown' hgrow
            have hap := D2.out.append msgNeSeal hown' hgrow
            have D3 : Hid (Dm w br sv L (w.heap.size + 1 + 1) (w3.setCell ⟨w.heap.size + 1 + 1, 4, none⟩ (.slice (some ⟨g', 0, none⟩) (xs.length + 1) cap')) q2 (1 + u1) n k f (.slice (some ⟨g', 0, none⟩) (xs.length + 1) cap') (xs ++ [s])) := hap.2
            obtain ⟨y0, y1, y2, y3, y4, yf, yl⟩ := cells5 hap.1
            clear hap hown' hgrow D2 CD HC4
            refine hK.out _ _ trivial (fun _ => ?_)
            clear hK K
            simp only [Act.put, List.setIfInBounds_toArray, List.set_cons_zero, List.set_cons_succ]
            refine take1 6 60 (.pointer (some ⟨w.heap.size + 1 + 1, 4, none⟩)) rfl rfl (by kernel_rfl) (by kernel_rfl) (by kernel_rfl) (by rfl) (fun _ _ _ h => h) hS (fun w' hS' => ?_) ?_
            · go_simp
            simp only [Act.put, List.setIfInBounds_toArray, List.set_cons_zero, List.set_cons_succ]
            refine wpAnyH_ready (rs := [7]) (by kernel_rfl) (by simp) ?_
            refine AllReadyH.cons rfl (fun K hK => ?_) AllReadyH.nil
            go_simp
            refine hK.out _ _ trivial (fun _ => ?_)
            clear hK K
            refine wpAnyH_done (by kernel_rfl) ?_ _
            clear hS y0 y1 y2 y3 y4 yf yl
            go_wp2_with fail
            go_roundw
            case rel => exact ⟨j + 1, q2, _, xs ++ [s], by omega, by go_num, hq20, by omega, by simp [HX.out], D3⟩
            case measure => simp [intOf]; omega
          · go_simp
            refine hK.out _ _ trivial (fun _ => ?_)
            clear hK K
            refine wpAnyH_ready (rs := [1]) (by kernel_rfl) (by simp) ?_
            refine AllReadyH.cons rfl (fun K hK => ?_) AllReadyH.nil
            have hld := HLD.out
            obtain ⟨hld, hll⟩ := hld
            go_simp
            refine hK.out _ _ trivial (fun _ => ?_)
            clear hK K hld
            refine wpAnyH_ready (rs := [5]) (by kernel_rfl) (by simp) ?_
            refine AllReadyH.cons rfl (fun K hK => ?_) AllReadyH.nil
            rw [if_pos (by rfl)]
            refine app_seal 59 rfl _ _ rfl w.heap.size v xs s rfl (D2.out.own.alloc _) w2.heap.size rfl ⟨by go_simp, by go_simp, by go_simp, by go_simp, by go_simp, by go_simp, by go_simp⟩ (by have := HX.out; omega) (by have := D2.out.grew.size; simp; omega) ?_
            intro g' cap' w3 hown' hgrow
            have hap := D2.out.append msgNeSeal hown' hgrow
            have D3 : Hid (Dm w br sv L (w.heap.size + 1 + 1) (w3.setCell ⟨w.heap.size + 1 + 1, 4, none⟩ (.slice (some ⟨g', 0, none⟩) (xs.length + 1) cap')) q2 (1 + u1) n k f (.slice (some ⟨g', 0, none⟩) (xs.length + 1) cap') (xs ++ [s])) := hap.2
            obtain ⟨y0, y1, y2, y3, y4, yf, yl⟩ := cells5 hap.1
            clear hap hown' hgrow D2 CD HC4
            refine hK.out _ _ trivial (fun _ => ?_)
            clear hK K
            simp only [Act.put, List.setIfInBounds_toArray, List.set_cons_zero, List.set_cons_succ]
            refine take1 6 60 (.pointer (some ⟨w.heap.size + 1 + 1, 4, none⟩)) rfl rfl (by kernel_rfl) (by kernel_rfl) (by kernel_rfl) (by rfl) (fun _ _ _ h => h) hS (fun w' hS' => ?_) ?_
            · go_simp
            simp only [Act.put, List.setIfInBounds_toArray, List.set_cons_zero, List.set_cons_succ]
            refine wpAnyH_ready (rs := [7]) (by kernel_rfl) (by simp) ?_
            refine AllReadyH.cons rfl (fun K hK => ?_) AllReadyH.nil
            go_simp
            refine hK.out _ _ trivial (fun _ => ?_)
            clear hK K
            refine wpAnyH_done (by kernel_rfl) ?_ _
            clear hS y0 y1 y2 y3 y4 yf yl
            go_wp2_with fail
            go_roundw
            case rel => exact ⟨j + 1, q2, _, xs ++ [s], by omega, by go_num, hq20, by omega, by simp [HX.out], D3⟩
            case measure => simp [intOf]; omega
      · go_wp2_with fail
        obtain rfl : j = c := by omega
        refine (pick_dm 20 (by omega) C.out (by omega) (by omega)).mono ?_
        rintro e4 w4 ⟨⟨x, xa, xb, rfl⟩, Dn⟩
        have E : Hid (Dm w br sv L (w.heap.size + 1 + 1) w4 (p + 1) (1 + u1) n k f v xs) := Dn
        clear Dn C
        by_cases h0 : x = 0
        · subst h0
          go_wp2_with fail
          refine (pick_dm 8 (by omega) E.out (by omega) (by omega)).mono ?_
          rintro e5 w5 ⟨⟨t, ta, tb, rfl⟩, Dn⟩
          have E2 : Hid (Dm w br sv L (w.heap.size + 1 + 1) (w5.setCell ⟨w.heap.size + 1 + 1, 0, none⟩ (.int .i64 t)) (p + 1 + 1) t n k f v xs) := Dn.put Dn.own msgNeSeal rfl
          obtain ⟨b0, b1, b2, b3, b4, bf, bl⟩ := cells5 Dn.msg
          obtain ⟨g0, g1, g2, g3, g4, gf, gl⟩ := cells5 Dn.res
          clear Dn E
          obtain ⟨aF, capF, hvF, hcF, hgF, hfin⟩ := E2.out.fin msgNeSeal
          have HFin := (show Hid _ from hfin)
          have HG := (show Hid (_ ∧ _) from ⟨hcF, hgF⟩)
          clear hgF hcF
          clear hfin E2
          subst hvF
          go_wp2_with fail
          refine bodyPost_ret (v := .agg #[.int .i64 t, .int .i64 n, .int .i64 k, .int .i64 f, .slice aF xs.length capF]) (by simp [results, Tryz.results25, go_sem, *]) rfl ?_
          obtain ⟨hF1, hF2, hF3⟩ := HFin.out _ _ _ _ _ _ rfl
          exact ⟨⟨_, _, _, _, _, xs, _, rfl, hF1, by have := HX.out; omega, HG.out.1, HG.out.2⟩, _, by omega, by omega, hF2, hF3⟩
        by_cases h1 : x = 1
        · subst h1
          go_wp2_with fail
          refine (pick_dm 5 (by omega) E.out (by omega) (by omega)).mono ?_
          rintro e5 w5 ⟨⟨t, ta, tb, rfl⟩, Dn⟩
          have E2 : Hid (Dm w br sv L (w.heap.size + 1 + 1) (w5.setCell ⟨w.heap.size + 1 + 1, 1, none⟩ (.int .i64 t)) (p + 1 + 1) (1 + u1) t k f v xs) := Dn.put Dn.own msgNeSeal rfl
          obtain ⟨b0, b1, b2, b3, b4, bf, bl⟩ := cells5 Dn.msg
          obtain ⟨g0, g1, g2, g3, g4, gf, gl⟩ := cells5 Dn.res
          clear Dn E
          obtain ⟨aF, capF, hvF, hcF, hgF, hfin⟩ := E2.out.fin msgNeSeal
          have HFin := (show Hid _ from hfin)
          have HG := (show Hid (_ ∧ _) from ⟨hcF, hgF⟩)
          clear hgF hcF
          clear hfin E2
          subst hvF
          go_wp2_with fail
          refine bodyPost_ret (v := .agg #[.int .i64 (1 + u1), .int .i64 t, .int .i64 k, .int .i64 f, .slice aF xs.length capF]) (by simp [results, Tryz.results25, go_sem, *]) rfl ?_
          obtain ⟨hF1, hF2, hF3⟩ := HFin.out _ _ _ _ _ _ rfl
          exact ⟨⟨_, _, _, _, _, xs, _, rfl, hF1, by have := HX.out; omega, HG.out.1, HG.out.2⟩, _, by omega, by omega, hF2, hF3⟩
        by_cases h2 : x = 2
        · subst h2
          go_wp2_with fail
          refine (pick_dm 7 (by omega) E.out (by omega) (by omega)).mono ?_
          rintro e5 w5 ⟨⟨t, ta, tb, rfl⟩, Dn⟩
          have E2 : Hid (Dm w br sv L (w.heap.size + 1 + 1) (w5.setCell ⟨w.heap.size + 1 + 1, 2, none⟩ (.int .i64 t)) (p + 1 + 1) (1 + u1) n t f v xs) := Dn.put Dn.own msgNeSeal rfl
          obtain ⟨b0, b1, b2, b3, b4, bf, bl⟩ := cells5 Dn.msg
          obtain ⟨g0, g1, g2, g3, g4, gf, gl⟩ := cells5 Dn.res
          clear Dn E
          obtain ⟨aF, capF, hvF, hcF, hgF, hfin⟩ := E2.out.fin msgNeSeal
          have HFin := (show Hid _ from hfin)
          have HG := (show Hid (_ ∧ _) from ⟨hcF, hgF⟩)
          clear hgF hcF
          clear hfin E2
          subst hvF
          go_wp2_with fail
          refine bodyPost_ret (v := .agg #[.int .i64 (1 + u1), .int .i64 n, .int .i64 t, .int .i64 f, .slice aF xs.length capF]) (by simp [results, Tryz.results25, go_sem, *]) rfl ?_
          obtain ⟨hF1, hF2, hF3⟩ := HFin.out _ _ _ _ _ _ rfl
          exact ⟨⟨_, _, _, _, _, xs, _, rfl, hF1, by have := HX.out; omega, HG.out.1, HG.out.2⟩, _, by omega, by omega, hF2, hF3⟩
        by_cases h3 : x = 3
        · subst h3
          go_wp2_with fail
          refine (pick_any 3 (by omega) br sv L (p + 1) _ (E.out.alloc _).rd (by omega) (by omega)).mono ?_
          rintro e5 w5 ⟨⟨t, ta, tb, rfl⟩, R5, O5⟩
          have Dn := (E.out.alloc (.cells #[.int .i64 0, .int .i64 5, .int .i64 61] 3)).only R5 O5
          have hw4 := (cells5 E.out.res).2.2.2.2.2.2
          have h5 : w5.heap[w4.heap.size]? = some (.cells #[.int .i64 0, .int .i64 5, .int .i64 61] 3 (0, 0)) := (O5.block _ (by omega)).trans (heap_alloc_new w4 _)
          have k0 : w5.cell? ⟨w4.heap.size, 0, none⟩ = some (.int .i64 0) := by simp [World.cell?, h5]
          have k1 : w5.cell? ⟨w4.heap.size, 1, none⟩ = some (.int .i64 5) := by simp [World.cell?, h5]
          have k2 : w5.cell? ⟨w4.heap.size, 2, none⟩ = some (.int .i64 61) := by simp [World.cell?, h5]
          have kl : w4.heap.size < w5.heap.size := (Array.getElem?_eq_some_iff.1 h5).1
          clear R5 O5 h5 E
          obtain rfl | rfl | rfl : t = 0 ∨ t = 1 ∨ t = 2 := by omega
          · have E2 : Hid (Dm w br sv L (w.heap.size + 1 + 1) (w5.setCell ⟨w.heap.size + 1 + 1, 3, none⟩ (.int .i64 0)) (p + 1 + 1) (1 + u1) n k 0 v xs) := Dn.put Dn.own msgNeSeal rfl
            obtain ⟨b0, b1, b2, b3, b4, bf, bl⟩ := cells5 Dn.msg
            obtain ⟨g0, g1, g2, g3, g4, gf, gl⟩ := cells5 Dn.res
            clear Dn
            obtain ⟨aF, capF, hvF, hcF, hgF, hfin⟩ := E2.out.fin msgNeSeal
            have HFin := (show Hid _ from hfin)
            have HG := (show Hid (_ ∧ _) from ⟨hcF, hgF⟩)
            clear hgF hcF
            clear hfin E2
            subst hvF
            go_wp2_with fail
            refine bodyPost_ret (v := .agg #[.int .i64 (1 + u1), .int .i64 n, .int .i64 k, .int .i64 0, .slice aF xs.length capF]) (by simp [results, Tryz.results25, go_sem, *]) rfl ?_
            obtain ⟨hF1, hF2, hF3⟩ := HFin.out _ _ _ _ _ _ rfl
            exact ⟨⟨_, _, _, _, _, xs, _, rfl, hF1, by have := HX.out; omega, HG.out.1, HG.out.2⟩, _, by omega, by omega, hF2, hF3⟩
          · have E2 : Hid (Dm w br sv L (w.heap.size + 1 + 1) (w5.setCell ⟨w.heap.size + 1 + 1, 3, none⟩ (.int .i64 5)) (p + 1 + 1) (1 + u1) n k 5 v xs) := Dn.put Dn.own msgNeSeal rfl
            obtain ⟨b0, b1, b2, b3, b4, bf, bl⟩ := cells5 Dn.msg
            obtain ⟨g0, g1, g2, g3, g4, gf, gl⟩ := cells5 Dn.res
            clear Dn
            obtain ⟨aF, capF, hvF, hcF, hgF, hfin⟩ := E2.out.fin msgNeSeal
            have HFin := (show Hid _ from hfin)
            have HG := (show Hid (_ ∧ _) from ⟨hcF, hgF⟩)
            clear hgF hcF
            clear hfin E2
            subst hvF
            go_wp2_with fail
            refine bodyPost_ret (v := .agg #[.int .i64 (1 + u1), .int .i64 n, .int .i64 k, .int .i64 5, .slice aF xs.length capF]) (by simp [results, Tryz.results25, go_sem, *]) rfl ?_
            obtain ⟨hF1, hF2, hF3⟩ := HFin.out _ _ _ _ _ _ rfl
            exact ⟨⟨_, _, _, _, _, xs, _, rfl, hF1, by have := HX.out; omega, HG.out.1, HG.out.2⟩, _, by omega, by omega, hF2, hF3⟩
          · have E2 : Hid (Dm w br sv L (w.heap.size + 1 + 1) (w5.setCell ⟨w.heap.size + 1 + 1, 3, none⟩ (.int .i64 61)) (p + 1 + 1) (1 + u1) n k 61 v xs) := Dn.put Dn.own msgNeSeal rfl
            obtain ⟨b0, b1, b2, b3, b4, bf, bl⟩ := cells5 Dn.msg
            obtain ⟨g0, g1, g2, g3, g4, gf, gl⟩ := cells5 Dn.res
            clear Dn
            obtain ⟨aF, capF, hvF, hcF, hgF, hfin⟩ := E2.out.fin msgNeSeal
            have HFin := (show Hid _ from hfin)
            have HG := (show Hid (_ ∧ _) from ⟨hcF, hgF⟩)
            clear hgF hcF
            clear hfin E2
            subst hvF
            go_wp2_with fail
            refine bodyPost_ret (v := .agg #[.int .i64 (1 + u1), .int .i64 n, .int .i64 k, .int .i64 61, .slice aF xs.length capF]) (by simp [results, Tryz.results25, go_sem, *]) rfl ?_
            obtain ⟨hF1, hF2, hF3⟩ := HFin.out _ _ _ _ _ _ rfl
            exact ⟨⟨_, _, _, _, _, xs, _, rfl, hF1, by have := HX.out; omega, HG.out.1, HG.out.2⟩, _, by omega, by omega, hF2, hF3⟩
        by_cases h4 : x = 4
        · subst h4
          go_wp2_with fail
          have c4d : w4.drew.cell? ⟨w.heap.size + 1 + 1, 4, none⟩ = some v := (cells5 E.out.msg).2.2.2.2.1
          have bld : w.heap.size + 1 + 1 < w4.heap.size := (cells5 E.out.msg).2.2.2.2.2.2
          have HC4 : Hid (w4.drew.cell? ⟨w.heap.size + 1 + 1, 4, none⟩ = some v) := c4d
          clear c4d
          have CD : Hid (Dm w br sv L (w.heap.size + 1 + 1) w4.drew (p + 1) (1 + u1) n k f v xs) := E.out.drew
          clear E
          refine wp_region_held_drew (S := fun _ => True) (by kernel_rfl) trivial (fun hS => ?_)
          refine take1 0 88 (.pointer (some ⟨w.heap.size + 1 + 1, 4, none⟩)) rfl rfl (by kernel_rfl) (by kernel_rfl) (by kernel_rfl) (by rfl) (fun _ _ _ h => h) hS (fun w' hS' => ?_) ?_
          · go_simp
          simp only [Act.put, List.setIfInBounds_toArray, List.set_cons_zero, List.set_cons_succ]
          refine take1 2 90 (.pointer (some ⟨br, 0, none⟩)) rfl rfl (by kernel_rfl) (by kernel_rfl) (by kernel_rfl) (by rfl) (fun _ _ _ h => h) hS (fun w' hS' => ?_) ?_
          · go_simp
          simp only [Act.put, List.setIfInBounds_toArray, List.set_cons_zero, List.set_cons_succ]
          refine wpAnyH_ready (rs := [1, 3]) (by kernel_rfl) (by simp) ?_
          refine AllReadyH.cons rfl (fun K hK => ?_) (AllReadyH.cons rfl (fun K hK => ?_) AllReadyH.nil)
          · have hld := HC4.out
            go_simp
            refine hK.out _ _ trivial (fun _ => ?_)
            clear hK K hld
            refine wpAnyH_ready (rs := [3]) (by kernel_rfl) (by simp) ?_
            refine AllReadyH.cons rfl (fun K hK => ?_) AllReadyH.nil
            go_simp
            refine (l71Seal_any br sv L (p + 1) _ CD.out.rd (by omega) (by omega)).mono ?_
            rintro e3 w2 ⟨⟨t0, t1, t2, t3, t4, t5, t6, rfl⟩, q2, hq20, hq21, R2, G2⟩
            obtain ⟨s, hs⟩ : ∃ s : Sl, s = ⟨t0, t1, t2, t3, t4, t5, t6⟩ := ⟨_, rfl⟩
            have ht0 : t0 = s.k := by rw [hs]
            have ht1 : t1 = s.t := by rw [hs]
            have ht2 : t2 = s.a := by rw [hs]
            have ht3 : t3 = s.b := by rw [hs]
            have ht4 : t4 = s.c := by rw [hs]
            have ht5 : t5 = s.d := by rw [hs]
            have ht6 : t6 = s.e := by rw [hs]
            subst ht0 ht1 ht2 ht3 ht4 ht5 ht6
            clear hs
            have D2 : Hid (Dm w br sv L (w.heap.size + 1 + 1) w2 q2 (1 + u1) n k f v xs) := CD.out.grow R2 G2
            clear R2 G2
            refine hK.out _ _ trivial (fun _ => ?_)
            clear hK K
            refine wpAnyH_ready (rs := [4]) (by kernel_rfl) (by simp) ?_
            refine AllReadyH.cons rfl (fun K hK => ?_) AllReadyH.nil
            go_simp
            refine hK.out _ _ trivial (fun _ => ?_)
            clear hK K
            refine wpAnyH_ready (rs := [5]) (by kernel_rfl) (by simp) ?_
            refine AllReadyH.cons rfl (fun K hK => ?_) AllReadyH.nil
            rw [if_pos (by rfl)]
            refine app_seal 93 rfl _ _ rfl w.heap.size v xs s rfl (D2.out.own.alloc _) w2.heap.size rfl ⟨by go_simp, by go_simp, by go_simp, by go_simp, by go_simp, by go_simp, by go_simp⟩ (by have := HX.out; omega) (by have := D2.out.grew.size; simp; omega) ?_
            intro g' cap' w3 hown' hgrow
            have hap := D2.out.append msgNeSeal hown' hgrow
            have D3 : Hid (Dm w br sv L (w.heap.size + 1 + 1) (w3.setCell ⟨w.heap.size + 1 + 1, 4, none⟩ (.slice (some ⟨g', 0, none⟩) (xs.length + 1) cap')) q2 (1 + u1) n k f (.slice (some ⟨g', 0, none⟩) (xs.length + 1) cap') (xs ++ [s])) := hap.2
            obtain ⟨y0, y1, y2, y3, y4, yf, yl⟩ := cells5 hap.1
            clear hap hown' hgrow D2 CD HC4
            refine hK.out _ _ trivial (fun _ => ?_)
            clear hK K
            simp only [Act.put, List.setIfInBounds_toArray, List.set_cons_zero, List.set_cons_succ]
            refine take1 6 94 (.pointer (some ⟨w.heap.size + 1 + 1, 4, none⟩)) rfl rfl (by kernel_rfl) (by kernel_rfl) (by kernel_rfl) (by rfl) (fun _ _ _ h => h) hS (fun w' hS' => ?_) ?_
            · go_simp
            simp only [Act.put, List.setIfInBounds_toArray, List.set_cons_zero, List.set_cons_succ]
            refine wpAnyH_ready (rs := [7]) (by kernel_rfl) (by simp) ?_
            refine AllReadyH.cons rfl (fun K hK => ?_) AllReadyH.nil
            go_simp
            refine hK.out _ _ trivial (fun _ => ?_)
            clear hK K
            refine wpAnyH_done (by kernel_rfl) ?_ _
            clear hS y0 y1 y2 y3 y4 yf yl
            generalize w3.setCell ⟨w.heap.size + 1 + 1, 4, none⟩ (.slice (some ⟨g', 0, none⟩) (xs.length + 1) cap') = wz at D3 ⊢
            obtain ⟨b0, b1, b2, b3, b4, bf, bl⟩ := cells5 D3.out.msg
            obtain ⟨g0, g1, g2, g3, g4, gf, gl⟩ := cells5 D3.out.res
            obtain ⟨aF, capF, hvF, hcF, hgF, hfin⟩ := D3.out.fin msgNeSeal
            have HFin := (show Hid _ from hfin)
            have HG := (show Hid (_ ∧ _) from ⟨hcF, hgF⟩)
            clear hgF hcF
            clear hfin D3
            rw [hvF] at b4
            go_wp2_with fail
            refine bodyPost_ret (v := .agg #[.int .i64 (1 + u1), .int .i64 n, .int .i64 k, .int .i64 f, .slice aF (xs ++ [s]).length capF]) (by simp [results, Tryz.results25, go_sem, *]) rfl ?_
            obtain ⟨hF1, hF2, hF3⟩ := HFin.out _ _ _ _ _ _ rfl
            exact ⟨⟨_, _, _, _, _, (xs ++ [s]), _, rfl, hF1, by have := HX.out; simp; omega, HG.out.1, HG.out.2⟩, _, by omega, by omega, hF2, hF3⟩
            
          · go_simp
            refine (l71Seal_any br sv L (p + 1) _ CD.out.rd (by omega) (by omega)).mono ?_
            rintro e3 w2 ⟨⟨t0, t1, t2, t3, t4, t5, t6, rfl⟩, q2, hq20, hq21, R2, G2⟩
            obtain ⟨s, hs⟩ : ∃ s : Sl, s = ⟨t0, t1, t2, t3, t4, t5, t6⟩ := ⟨_, rfl⟩
            have ht0 : t0 = s.k := by rw [hs]
            have ht1 : t1 = s.t := by rw [hs]
            have ht2 : t2 = s.a := by rw [hs]
            have ht3 : t3 = s.b := by rw [hs]
            have ht4 : t4 = s.c := by rw [hs]
            have ht5 : t5 = s.d := by rw [hs]
            have ht6 : t6 = s.e := by rw [hs]
            subst ht0 ht1 ht2 ht3 ht4 ht5 ht6
            clear hs
            have D2 : Hid (Dm w br sv L (w.heap.size + 1 + 1) w2 q2 (1 + u1) n k f v xs) := CD.out.grow R2 G2
            clear R2 G2
            refine hK.out _ _ trivial (fun _ => ?_)
            clear hK K
            have HLD : Hid (w2.cell? ⟨w.heap.size + 1 + 1, 4, none⟩ = some v ∧ w.heap.size + 1 + 1 < w2.heap.size) := ⟨(cells5 D2.out.msg).2.2.2.2.1, (cells5 D2.out.msg).2.2.2.2.2.2⟩
            refine wpAnyH_ready (rs := [1, 4]) (by kernel_rfl) (by simp) ?_
            refine AllReadyH.cons rfl (fun K hK => ?_) (AllReadyH.cons rfl (fun K hK => ?_) AllReadyH.nil)
            · have hld := HLD.out.1
              go_simp
              refine hK.out _ _ trivial (fun _ => ?_)
              clear hK K hld
              refine wpAnyH_ready (rs := [4]) (by kernel_rfl) (by simp) ?_
              refine AllReadyH.cons rfl (fun K hK => ?_) AllReadyH.nil
              go_simp
              refine hK.out _ _ trivial (fun _ => ?_)
              clear hK K
              refine wpAnyH_ready (rs := [5]) (by kernel_rfl) (by simp) ?_
              refine AllReadyH.cons rfl (fun K hK => ?_) AllReadyH.nil
              rw [if_pos (by rfl)]
              refine app_seal 93 rfl _ _ rfl w.heap.size v xs s rfl (D2.out.own.alloc _) w2.heap.size rfl ⟨by go_simp, by go_simp, by go_simp, by go_simp, by go_simp, by go_simp, by go_simp⟩ (by have := HX.out; omega) (by have := D2.out.grew.size; simp; omega) ?_
              intro g' cap' w3 hown' hgrow
              have hap := D2.out.append msgNeSeal hown' hgrow
              have D3 : Hid (Dm w br sv L (w.heap.size + 1 + 1) (w3.setCell ⟨w.heap.size + 1 + 1, 4, none⟩ (.slice (some ⟨g', 0, none⟩) (xs.length + 1) cap')) q2 (1 + u1) n k f (.slice (some ⟨g', 0, none⟩) (xs.length + 1) cap') (xs ++ [s])) := hap.2
              obtain ⟨y0, y1, y2, y3, y4, yf, yl⟩ := cells5 hap.1
              clear hap hown' hgrow D2 CD HC4
              refine hK.out _ _ trivial (fun _ => ?_)
              clear hK K
              simp only [Act.put, List.setIfInBounds_toArray, List.set_cons_zero, List.set_cons_succ]
              refine take1 6 94 (.pointer (some ⟨w.heap.size + 1 + 1, 4, none⟩)) rfl rfl (by kernel_rfl) (by kernel_rfl) (by kernel_rfl) (by rfl) (fun _ _ _ h => h) hS (fun w' hS' => ?_) ?_
              · go_simp
              simp only [Act.put, List.setIfInBounds_toArray, List.set_cons_zero, List.set_cons_succ]
              refine wpAnyH_ready (rs := [7]) (by kernel_rfl) (by simp) ?_
              refine AllReadyH.cons rfl (fun K hK => ?_) AllReadyH.nil
              go_simp
              refine hK.out _ _ trivial (fun _ => ?_)
              clear hK K
              refine wpAnyH_done (by kernel_rfl) ?_ _
              clear hS y0 y1 y2 y3 y4 yf yl
              generalize w3.setCell ⟨w.heap.size + 1 + 1, 4, none⟩ (.slice (some ⟨g', 0, none⟩) (xs.length + 1) cap') = wz at D3 ⊢
              obtain ⟨b0, b1, b2, b3, b4, bf, bl⟩ := cells5 D3.out.msg
              obtain ⟨g0, g1, g2, g3, g4, gf, gl⟩ := cells5 D3.out.res
              obtain ⟨aF, capF, hvF, hcF, hgF, hfin⟩ := D3.out.fin msgNeSeal
              have HFin := (show Hid _ from hfin)
              have HG := (show Hid (_ ∧ _) from ⟨hcF, hgF⟩)
              clear hgF hcF
              clear hfin D3
              rw [hvF] at b4
              go_wp2_with fail
              refine bodyPost_ret (v := .agg #[.int .i64 (1 + u1), .int .i64 n, .int .i64 k, .int .i64 f, .slice aF (xs ++ [s]).length capF]) (by simp [results, Tryz.results25, go_sem, *]) rfl ?_
              obtain ⟨hF1, hF2, hF3⟩ := HFin.out _ _ _ _ _ _ rfl
              exact ⟨⟨_, _, _, _, _, (xs ++ [s]), _, rfl, hF1, by have := HX.out; simp; omega, HG.out.1, HG.out.2⟩, _, by omega, by omega, hF2, hF3⟩
              
            · go_simp
              refine hK.out _ _ trivial (fun _ => ?_)
              clear hK K
              refine wpAnyH_ready (rs := [1]) (by kernel_rfl) (by simp) ?_
              refine AllReadyH.cons rfl (fun K hK => ?_) AllReadyH.nil
              have hld := HLD.out
              obtain ⟨hld, hll⟩ := hld
              go_simp
              refine hK.out _ _ trivial (fun _ => ?_)
              clear hK K hld
              refine wpAnyH_ready (rs := [5]) (by kernel_rfl) (by simp) ?_
              refine AllReadyH.cons rfl (fun K hK => ?_) AllReadyH.nil
              rw [if_pos (by rfl)]
              refine app_seal 93 rfl _ _ rfl w.heap.size v xs s rfl (D2.out.own.alloc _) w2.heap.size rfl ⟨by go_simp, by go_simp, by go_simp, by go_simp, by go_simp, by go_simp, by go_simp⟩ (by have := HX.out; omega) (by have := D2.out.grew.size; simp; omega) ?_
              intro g' cap' w3 hown' hgrow
              have hap := D2.out.append msgNeSeal hown' hgrow
              have D3 : Hid (Dm w br sv L (w.heap.size + 1 + 1) (w3.setCell ⟨w.heap.size + 1 + 1, 4, none⟩ (.slice (some ⟨g', 0, none⟩) (xs.length + 1) cap')) q2 (1 + u1) n k f (.slice (some ⟨g', 0, none⟩) (xs.length + 1) cap') (xs ++ [s])) := hap.2
              obtain ⟨y0, y1, y2, y3, y4, yf, yl⟩ := cells5 hap.1
              clear hap hown' hgrow D2 CD HC4
              refine hK.out _ _ trivial (fun _ => ?_)
              clear hK K
              simp only [Act.put, List.setIfInBounds_toArray, List.set_cons_zero, List.set_cons_succ]
              refine take1 6 94 (.pointer (some ⟨w.heap.size + 1 + 1, 4, none⟩)) rfl rfl (by kernel_rfl) (by kernel_rfl) (by kernel_rfl) (by rfl) (fun _ _ _ h => h) hS (fun w' hS' => ?_) ?_
              · go_simp
              simp only [Act.put, List.setIfInBounds_toArray, List.set_cons_zero, List.set_cons_succ]
              refine wpAnyH_ready (rs := [7]) (by kernel_rfl) (by simp) ?_
              refine AllReadyH.cons rfl (fun K hK => ?_) AllReadyH.nil
              go_simp
              refine hK.out _ _ trivial (fun _ => ?_)
              clear hK K
              refine wpAnyH_done (by kernel_rfl) ?_ _
              clear hS y0 y1 y2 y3 y4 yf yl
              generalize w3.setCell ⟨w.heap.size + 1 + 1, 4, none⟩ (.slice (some ⟨g', 0, none⟩) (xs.length + 1) cap') = wz at D3 ⊢
              obtain ⟨b0, b1, b2, b3, b4, bf, bl⟩ := cells5 D3.out.msg
              obtain ⟨g0, g1, g2, g3, g4, gf, gl⟩ := cells5 D3.out.res
              obtain ⟨aF, capF, hvF, hcF, hgF, hfin⟩ := D3.out.fin msgNeSeal
              have HFin := (show Hid _ from hfin)
              have HG := (show Hid (_ ∧ _) from ⟨hcF, hgF⟩)
              clear hgF hcF
              clear hfin D3
              rw [hvF] at b4
              go_wp2_with fail
              refine bodyPost_ret (v := .agg #[.int .i64 (1 + u1), .int .i64 n, .int .i64 k, .int .i64 f, .slice aF (xs ++ [s]).length capF]) (by simp [results, Tryz.results25, go_sem, *]) rfl ?_
              obtain ⟨hF1, hF2, hF3⟩ := HFin.out _ _ _ _ _ _ rfl
              exact ⟨⟨_, _, _, _, _, (xs ++ [s]), _, rfl, hF1, by have := HX.out; simp; omega, HG.out.1, HG.out.2⟩, _, by omega, by omega, hF2, hF3⟩
              
        · have hx0 : (x == 0) = false := by simpa using h0
          have hx1 : (x == 1) = false := by simpa using h1
          have hx2 : (x == 2) = false := by simpa using h2
          have hx3 : (x == 3) = false := by simpa using h3
          have hx4 : (x == 4) = false := by simpa using h4
          obtain ⟨b0, b1, b2, b3, b4, bf, bl⟩ := cells5 E.out.msg
          obtain ⟨g0, g1, g2, g3, g4, gf, gl⟩ := cells5 E.out.res
          obtain ⟨aF, capF, hvF, hcF, hgF, hfin⟩ := E.out.fin msgNeSeal
          have HFin := (show Hid _ from hfin)
          have HG := (show Hid (_ ∧ _) from ⟨hcF, hgF⟩)
          clear hgF hcF
          clear hfin E
          subst hvF
          go_wp2_with fail
          refine bodyPost_ret (v := .agg #[.int .i64 (1 + u1), .int .i64 n, .int .i64 k, .int .i64 f, .slice aF xs.length capF]) (by simp [results, Tryz.results25, go_sem, *]) rfl ?_
          obtain ⟨hF1, hF2, hF3⟩ := HFin.out _ _ _ _ _ _ rfl
          exact ⟨⟨_, _, _, _, _, xs, _, rfl, hF1, by have := HX.out; omega, HG.out.1, HG.out.2⟩, _, by omega, by omega, hF2, hF3⟩

theorem l71Msg_any (br : Nat) (sv : Value) (L : Nat) (w : World) (R : Rd w br sv L 0) :
    Calls Tryz.prog 25 #[.pointer (some ⟨br, 0, none⟩)] w fun r w' => (∃ (m n k f : Int) (a : Option Addr) (xs : List Sl) (cap : Nat), r = .returned (.agg #[.int .i64 m, .int .i64 n, .int .i64 k, .int .i64 f, .slice a xs.length cap]) ∧ SRow w' a xs ∧ xs.length ≤ 3 ∧ xs.length ≤ cap ∧ (xs ≠ [] → ∃ g, a = some ⟨g, 0, none⟩ ∧ w.heap.size ≤ g)) ∧ ∃ q, 0 ≤ q ∧ q ≤ 100 ∧ Rd w' br sv L q ∧ Grew br w w' :=
  (l71MsgAt_any br sv L 0 (by omega) (by omega) w R).mono fun _ _ ⟨⟨m, n, k, f, a, xs, cap, h, ho, hx⟩, q, h0, h1, h2⟩ => ⟨⟨m, n, k, f, a, xs, cap, h, by obtain ⟨a', c', e, _, r, _⟩ := own_row ho; injection e with e1 e2 e3; rw [e1]; exact r, hx⟩, q, h0, by omega, h2⟩

end Go.Proofs.YtopikapamfmalaaGreatDoor
