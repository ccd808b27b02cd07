/-
  A word is drawn from a list of bytes, of whatever kind: four numbers, and a row of at most three seals in new memory; nothing that was there is turned.
-/
import Derived.Test.YtimmfabaogeanaaDoorDrawMsg
namespace Go.Proofs.YtimmfabaogeanaaDoor
open Go.RowKit

theorem SRow.blocks {w w' : World} {a : Option Addr} {xs : List Sl} (h : SRow w a xs) (hb : ∀ g off, a = some ⟨g, off, none⟩ → xs ≠ [] → w'.heap[g]? = w.heap[g]?) (hs : w.heap.size ≤ w'.heap.size) : SRow w' a xs := by
  rcases h with h | ⟨b, off, rfl, hl, h⟩
  · exact Or.inl h
  · by_cases e : xs = []
    · exact Or.inl e
    · have hc := hb b off rfl e
      have hcell : ∀ q, w'.cell? ⟨b, q, none⟩ = w.cell? ⟨b, q, none⟩ := fun q => by simp [World.cell?, hc]
      refine Or.inr ⟨b, off, rfl, by omega, fun i s hs => ?_⟩
      have hd := h i s hs
      exact ⟨(hcell _).trans hd.c0, (hcell _).trans hd.c1, (hcell _).trans hd.c2, (hcell _).trans hd.c3, (hcell _).trans hd.c4, (hcell _).trans hd.c5, (hcell _).trans hd.c6⟩

/-- On the way: the reader, the answer's block still empty, the word's own block, its row apart from them. -/
structure Do (W : World) (Bm : Nat) (sv : Value) (L : Nat) (w : World) (p m n k f : Int) (a : Option Addr) (xs : List Sl) (cap : Nat) : Prop where
  rd : Rd w (W.heap.size + 1) sv L p
  below : Below W.heap.size W w
  res : w.heap[W.heap.size]? = some (.cells #[.int .i64 0, .int .i64 0, .int .i64 0, .int .i64 0, .slice none 0 0] 25 (0, 0))
  msg : w.heap[Bm]? = some (.cells #[.int .i64 m, .int .i64 n, .int .i64 k, .int .i64 f, .slice a xs.length cap] 25 (0, 0))
  row : SRow w a xs
  far : ∀ g off, a = some ⟨g, off, none⟩ → xs ≠ [] → W.heap.size + 1 < g ∧ g ≠ Bm
  lo : W.heap.size + 1 < Bm
theorem Do.only {W : World} {Bm : Nat} {sv : Value} {L : Nat} {w w' : World} {p q m n k f : Int} {a : Option Addr} {xs : List Sl} {cap : Nat} (D : Do W Bm sv L w p m n k f a xs cap) (R : Rd w' (W.heap.size + 1) sv L q) (h : Only (W.heap.size + 1) w w') : Do W Bm sv L w' q m n k f a xs cap :=
  ⟨R, D.below.trans ⟨h.os, h.tape, h.output, Nat.le_of_eq h.size.symm, fun b hb => h.block b (by omega)⟩, (h.block _ (by omega)).trans D.res, (h.block _ (by have := D.lo; omega)).trans D.msg, D.row.blocks (fun g off e hx => h.block g (by have := (D.far g off e hx).1; omega)) (Nat.le_of_eq h.size.symm), D.far, D.lo⟩
theorem pick_do (c : Int) (hc : 1 ≤ c) {W : World} {Bm : Nat} {sv : Value} {L : Nat} {w : World} {p m n k f : Int} {a : Option Addr} {xs : List Sl} {cap : Nat} (D : Do W Bm sv L w p m n k f a xs cap) (hp : 0 ≤ p) (hp2 : p ≤ 1000) :
    Calls Tryd.prog 11 #[.pointer (some ⟨W.heap.size + 1, 0, none⟩), .int .i64 c] w fun e w' => (∃ u : Int, 0 ≤ u ∧ u < c ∧ e = .returned (.int .i64 u)) ∧ Do W Bm sv L w' (p + 1) m n k f a xs cap :=
  (pick_any c hc _ sv L p w D.rd hp hp2).mono fun _ _ ⟨hv, R, h⟩ => ⟨hv, D.only R h⟩
theorem Do.put {W : World} {Bm : Nat} {sv : Value} {L : Nat} {w : World} {p m n k f m' : Int} {a : Option Addr} {xs : List Sl} {cap : Nat} (D : Do W Bm sv L w p m n k f a xs cap) : Do W Bm sv L (w.setCell ⟨Bm, 0, none⟩ (.int .i64 m')) p m' n k f a xs cap := by
  have hlo := D.lo
  refine ⟨D.rd.store (a := ⟨Bm, 0, none⟩) (by simp; omega) _, D.below.setCell (p := ⟨Bm, 0, none⟩) (by simp; omega) _, (heap_put_else (by omega)).trans D.res, ?_, D.row.put (fun g off e hx => (D.far g off e hx).2), D.far, hlo⟩
  rw [heap_put D.msg]; rfl
theorem Do.fin {W : World} {Bm : Nat} {sv : Value} {L : Nat} {w : World} {p m n k f : Int} {a : Option Addr} {xs : List Sl} {cap : Nat} (D : Do W Bm sv L w p m n k f a xs cap) (v0 v1 v2 v3 v4 : Value) :
    SRow (((((w.setCell ⟨W.heap.size, 0, none⟩ v0).setCell ⟨W.heap.size, 1, none⟩ v1).setCell ⟨W.heap.size, 2, none⟩ v2).setCell ⟨W.heap.size, 3, none⟩ v3).setCell ⟨W.heap.size, 4, none⟩ v4) a xs ∧
    Below W.heap.size W (((((w.setCell ⟨W.heap.size, 0, none⟩ v0).setCell ⟨W.heap.size, 1, none⟩ v1).setCell ⟨W.heap.size, 2, none⟩ v2).setCell ⟨W.heap.size, 3, none⟩ v3).setCell ⟨W.heap.size, 4, none⟩ v4) := by
  have hp : ∀ g off, a = some ⟨g, off, none⟩ → xs ≠ [] → g ≠ W.heap.size := fun g off e hx => by have := (D.far g off e hx).1; omega
  exact ⟨((((D.row.put hp).put hp).put hp).put hp).put hp, ((((D.below.setCell (p := ⟨_, _, none⟩) (Nat.le_refl _) _).setCell (p := ⟨_, _, none⟩) (Nat.le_refl _) _).setCell (p := ⟨_, _, none⟩) (Nat.le_refl _) _).setCell (p := ⟨_, _, none⟩) (Nat.le_refl _) _).setCell (p := ⟨_, _, none⟩) (Nat.le_refl _) _⟩

set_option maxHeartbeats 1000000 in
set_option maxRecDepth 100000 in
theorem drawMsgOk_any (a : Option Addr) (len cap : Nat) (w : World) (h : Code w a len cap) :
    Calls Tryd.prog 4 #[.slice a len cap] w fun r w' => (∃ (m n k f : Int) (a : Option Addr) (xs : List Sl) (cap : Nat), r = .returned (.agg #[.int .i64 m, .int .i64 n, .int .i64 k, .int .i64 f, .slice a xs.length cap]) ∧ SRow w' a xs ∧ xs.length ≤ 3 ∧ xs.length ≤ cap ∧ (∀ g off, a = some ⟨g, off, none⟩ → xs ≠ [] → w.heap.size ≤ g)) ∧ Below w.heap.size w w' := by
  have HC : Hid (Code w a len cap) := h
  clear h
  go_enter Tryd.func4, Tryd.ntmps4
  go_wp2_with fail
  refine (l6Open_any a len cap _ (HC.out.below ((Below.refl _ _).alloc (Nat.le_refl _) _))).mono ?_
  rintro e1 w1 ⟨rfl, ⟨sv, L, R1⟩, b1⟩
  have R1' : Rd w1 (w.heap.size + 1) sv L 0 := by simpa using R1
  have hz1 : w.heap.size + 1 < w1.heap.size := R1'.lt
  have c1 : w1.heap[w.heap.size]? = some (.cells #[.int .i64 0, .int .i64 0, .int .i64 0, .int .i64 0, .slice none 0 0] 25 (0, 0)) := (b1.block _ (by simp)).trans (heap_alloc_new w _)
  have H1 : Hid (Rd w1 (w.heap.size + 1) sv L 0 ∧ Below w.heap.size w w1 ∧ w1.heap[w.heap.size]? = some (.cells #[.int .i64 0, .int .i64 0, .int .i64 0, .int .i64 0, .slice none 0 0] 25 (0, 0))) := ⟨R1', ((Below.refl _ _).alloc (Nat.le_refl _) _).trans (b1.mono (by simp)), c1⟩
  clear R1 R1' b1 c1 HC
  go_wp2_with fail
  refine (l71Msg_any _ sv L _ H1.out.1).mono ?_
  rintro e2 w2 ⟨⟨m, n, k, f, a', xs, cap', rfl, hr, hx3, hxc, hg⟩, q, q0, q1, R2, G2⟩
  have hz2 : w1.heap.size ≤ w2.heap.size := G2.size
  have D0 : Hid (Do w w2.heap.size sv L (w2.alloc (.cells #[.int .i64 m, .int .i64 n, .int .i64 k, .int .i64 f, .slice a' xs.length cap'] 25)) q m n k f a' xs cap') := by
    refine ⟨R2.alloc _, (H1.out.2.1.trans (G2.below (by omega) (by omega))).alloc (by omega) _, ?_, heap_alloc_new _ _, hr.later ((Below.refl _ _).alloc (Nat.le_refl _) _), ?_, by omega⟩
    · rw [heap_alloc_old _ _ (by omega), G2.block _ (by omega) (by omega), H1.out.2.2]
    · rintro g off rfl hx
      obtain ⟨g', e, hg'⟩ := hg hx
      have e' : g = g' := by simpa using congrArg (fun z : Option Addr => z.map (·.block)) e
      rcases hr with hr | ⟨b, off', e2, hl, _⟩
      · exact absurd hr hx
      · have e2' : g = b := by simpa using congrArg (fun z : Option Addr => z.map (·.block)) e2
        omega
  have HX : Hid (∀ g off, a' = some ⟨g, off, none⟩ → xs ≠ [] → w.heap.size ≤ g) := by
    rintro g off rfl hx
    obtain ⟨g', e, hg'⟩ := hg hx
    have e' : g = g' := by simpa using congrArg (fun z : Option Addr => z.map (·.block)) e
    omega
  clear R2 G2 H1 hr hg
  go_wp2_with fail
  refine (pick_do 5 (by omega) D0.out q0 (by omega)).mono ?_
  rintro e3 w3 ⟨⟨u, u0, u1, rfl⟩, D1⟩
  have E1 : Hid (Do w w2.heap.size sv L w3 (q + 1) m n k f a' xs cap') := D1
  clear D1 D0
  by_cases hu : u = 0
  · subst hu
    go_wp2_with fail
    refine (pick_do 8 (by omega) E1.out (by omega) (by omega)).mono ?_
    rintro e4 w4 ⟨⟨v, v0, v1, rfl⟩, D2⟩
    have E2 : Hid (Do w w2.heap.size sv L (w4.setCell ⟨w2.heap.size, 0, none⟩ (.int .i64 v)) (q + 1 + 1) v n k f a' xs cap') := D2.put
    obtain ⟨y0, y1, y2, y3, y4, yf, yl⟩ := cells5 D2.msg
    obtain ⟨z0, z1, z2, z3, z4, zf, zl⟩ := cells5 D2.res
    clear D2 E1
    go_wp2_with fail
    refine bodyPost_ret (v := .agg #[.int .i64 v, .int .i64 n, .int .i64 k, .int .i64 f, .slice a' xs.length cap']) (by simp [results, Tryd.results4, go_sem, *]) rfl ⟨⟨v, n, k, f, a', xs, cap', rfl, (E2.out.fin _ _ _ _ _).1, hx3, hxc, HX.out⟩, (E2.out.fin _ _ _ _ _).2⟩
  · have hub : (u == 0) = false := by simpa using hu
    obtain ⟨y0, y1, y2, y3, y4, yf, yl⟩ := cells5 E1.out.msg
    obtain ⟨z0, z1, z2, z3, z4, zf, zl⟩ := cells5 E1.out.res
    go_wp2_with fail
    refine bodyPost_ret (v := .agg #[.int .i64 m, .int .i64 n, .int .i64 k, .int .i64 f, .slice a' xs.length cap']) (by simp [results, Tryd.results4, go_sem, *]) rfl ⟨⟨m, n, k, f, a', xs, cap', rfl, (E1.out.fin _ _ _ _ _).1, hx3, hxc, HX.out⟩, (E1.out.fin _ _ _ _ _).2⟩

end Go.Proofs.YtimmfabaogeanaaDoor
