/-
  A seal is drawn from a list of bytes, its kind drawn anew now and then: seven numbers; nothing that was there is turned.
-/
import Derived.Test.YthekgdenplcnoaaDoorDrawSeal
namespace Go.Proofs.YthekgdenplcnoaaDoor
open Go.RowKit

/-- On the way: the reader, the answer's block, the seal's block, and what was there. -/
structure Dk (W : World) (sv : Value) (L B : Nat) (o : Obj) (w : World) (p : Int) : Prop where
  rd : Rd w (W.heap.size + 1) sv L p
  below : Below W.heap.size W w
  res : w.heap[W.heap.size]? = some (.cells #[.int .i64 0, .int .i64 0, .int .i64 0, .int .i64 0, .int .i64 0, .int .i64 0, .int .i64 0] 24 (0, 0))
  sealed : w.heap[B]? = some o
  gt : W.heap.size + 1 < B
theorem Dk.only {W : World} {sv : Value} {L B : Nat} {o : Obj} {w w' : World} {p q : Int} (h : Dk W sv L B o w p) (R : Rd w' (W.heap.size + 1) sv L q) (g : Only (W.heap.size + 1) w w') : Dk W sv L B o w' q :=
  ⟨R, h.below.trans (g.grew.below (by omega) h.below.size), (g.block _ (by omega)).trans h.res, (g.block _ (by have := h.gt; omega)).trans h.sealed, h.gt⟩
theorem Dk.grew {W : World} {sv : Value} {L B : Nat} {o : Obj} {w w' : World} {p q : Int} (h : Dk W sv L B o w p) (R : Rd w' (W.heap.size + 1) sv L q) (g : Grew (W.heap.size + 1) w w') : Dk W sv L B o w' q :=
  ⟨R, h.below.trans (g.below (by omega) h.below.size), (g.block _ (Array.getElem?_eq_some_iff.1 h.res).1 (by omega)).trans h.res, (g.block _ (Array.getElem?_eq_some_iff.1 h.sealed).1 (by have := h.gt; omega)).trans h.sealed, h.gt⟩

/-- What is known when a seal has been drawn and laid into a block of its own. -/
theorem dk_start {w w1 w2 : World} {sv : Value} {L : Nat} {q : Int} {o : Obj} (R2 : Rd w2 (w.heap.size + 1) sv L q) (B1 : Below w.heap.size w w1) (c1 : w1.heap[w.heap.size]? = some (.cells #[.int .i64 0, .int .i64 0, .int .i64 0, .int .i64 0, .int .i64 0, .int .i64 0, .int .i64 0] 24 (0, 0))) (G2 : Grew (w.heap.size + 1) w1 w2) :
    Dk w sv L w2.heap.size o (w2.alloc o) q := by
  have hlt := R2.lt
  have hc2 := (G2.block _ (Array.getElem?_eq_some_iff.1 c1).1 (by omega)).trans c1
  exact ⟨R2.alloc o, (B1.trans (G2.below (by omega) B1.size)).alloc (by omega) o, (Below.heap_alloc w2 _ _ (by omega)).trans hc2, heap_alloc_new w2 o, by omega⟩

set_option maxHeartbeats 1000000 in
set_option maxRecDepth 100000 in
theorem drawSealOk_any (a : Option Addr) (len cap : Nat) (w : World) (h : Code w a len cap) :
    Calls Tryd.prog 13 #[.slice a len cap] w fun r w' => (∃ k t a b c d e : Int, r = .returned (.agg #[.int .i64 k, .int .i64 t, .int .i64 a, .int .i64 b, .int .i64 c, .int .i64 d, .int .i64 e])) ∧ Below w.heap.size w w' := by
  have HC : Hid (Code w a len cap) := h
  clear h
  go_enter Tryd.func13, Tryd.ntmps13
  go_wp2_with fail
  refine (l6Open_any a len cap _ (HC.out.below ((Below.refl _ _).alloc (Nat.le_refl _) _))).mono ?_
  rintro e1 w1 ⟨rfl, ⟨sv, L, R1⟩, b1⟩
  have c1 : w1.heap[w.heap.size]? = some (.cells #[.int .i64 0, .int .i64 0, .int .i64 0, .int .i64 0, .int .i64 0, .int .i64 0, .int .i64 0] 24 (0, 0)) := (b1.block _ (by simp)).trans (heap_alloc_new w _)
  have H1 : Hid (Rd w1 (w.heap.size + 1) sv L 0 ∧ Below w.heap.size w w1 ∧ w1.heap[w.heap.size]? = some (.cells #[.int .i64 0, .int .i64 0, .int .i64 0, .int .i64 0, .int .i64 0, .int .i64 0, .int .i64 0] 24 (0, 0))) := ⟨by simpa using R1, ((Below.refl _ _).alloc (Nat.le_refl _) _).trans (b1.mono (by simp)), c1⟩
  clear R1 b1 c1 HC
  go_wp2_with fail
  refine (l71Seal_any _ sv L 0 _ H1.out.1 (by omega) (by omega)).mono ?_
  rintro e2 w2 ⟨⟨k, t, a', b, c, d, e, rfl⟩, q, q0, q1, R2, G2⟩
  have H2 : Hid (Dk w sv L w2.heap.size (.cells #[.int .i64 k, .int .i64 t, .int .i64 a', .int .i64 b, .int .i64 c, .int .i64 d, .int .i64 e] 24 (0, 0)) (w2.alloc (.cells #[.int .i64 k, .int .i64 t, .int .i64 a', .int .i64 b, .int .i64 c, .int .i64 d, .int .i64 e] 24)) q) := dk_start R2 H1.out.2.1 H1.out.2.2 G2
  clear R2 G2 H1
  go_wp2_with fail
  refine (pick_any 4 (by omega) _ sv L q _ H2.out.rd q0 (by omega)).mono ?_
  rintro e3 w3 ⟨⟨v, v0, v1, rfl⟩, R3, G3⟩
  have H3 : Hid (Dk w sv L w2.heap.size (.cells #[.int .i64 k, .int .i64 t, .int .i64 a', .int .i64 b, .int .i64 c, .int .i64 d, .int .i64 e] 24 (0, 0)) w3 (q + 1)) := H2.out.only R3 G3
  clear R3 G3 H2
  by_cases hv : v = 0
  · subst hv
    go_wp2_with fail
    refine (pick_any 6 (by omega) _ sv L (q + 1) _ H3.out.rd (by omega) (by omega)).mono ?_
    rintro e4 w4 ⟨⟨u, u0, u1, rfl⟩, R4, G4⟩
    have H4 : Hid (Dk w sv L w2.heap.size (.cells #[.int .i64 k, .int .i64 t, .int .i64 a', .int .i64 b, .int .i64 c, .int .i64 d, .int .i64 e] 24 (0, 0)) w4 (q + 1 + 1)) := H3.out.only R4 G4
    clear R4 G4 H3
    have hgt := H4.out.gt
    have hne : ¬ w2.heap.size = w.heap.size := by omega
    have hne2 : ¬ w.heap.size = w2.heap.size := by omega
    obtain ⟨m0, m1, m2, m3, m4, m5, m6, mf⟩ := cells7 H4.out.sealed
    obtain ⟨z0, z1, z2, z3, z4, z5, z6, zf⟩ := cells7 H4.out.res
    go_wp2
    exact bodyPost_ret (v := .agg #[_, _, _, _, _, _, _]) (by simp [results, Tryd.results13, go_sem, z0, z1, z2, z3, z4, z5, z6]; exact ⟨rfl, rfl, rfl, rfl, rfl, rfl, rfl⟩) rfl ⟨⟨_, _, _, _, _, _, _, rfl⟩, (((((((H4.out.below.setCell (by simp; omega) _).setCell (Nat.le_refl _) _).setCell (Nat.le_refl _) _).setCell (Nat.le_refl _) _).setCell (Nat.le_refl _) _).setCell (Nat.le_refl _) _).setCell (Nat.le_refl _) _).setCell (Nat.le_refl _) _⟩
  · have hv' : (v == 0) = false := by simpa using hv
    have hgt := H3.out.gt
    have hne : ¬ w2.heap.size = w.heap.size := by omega
    have hne2 : ¬ w.heap.size = w2.heap.size := by omega
    obtain ⟨m0, m1, m2, m3, m4, m5, m6, mf⟩ := cells7 H3.out.sealed
    obtain ⟨z0, z1, z2, z3, z4, z5, z6, zf⟩ := cells7 H3.out.res
    go_wp2
    exact bodyPost_ret (v := .agg #[_, _, _, _, _, _, _]) (by simp [results, Tryd.results13, go_sem, z0, z1, z2, z3, z4, z5, z6]; exact ⟨rfl, rfl, rfl, rfl, rfl, rfl, rfl⟩) rfl ⟨⟨_, _, _, _, _, _, _, rfl⟩, ((((((H3.out.below.setCell (Nat.le_refl _) _).setCell (Nat.le_refl _) _).setCell (Nat.le_refl _) _).setCell (Nat.le_refl _) _).setCell (Nat.le_refl _) _).setCell (Nat.le_refl _) _).setCell (Nat.le_refl _) _⟩

end Go.Proofs.YthekgdenplcnoaaDoor
