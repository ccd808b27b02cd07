/-
  A row of numbers of a call's own, and the way through 61 truth values.
-/
import Derived.Test.YthgglnjjbpjonaaKnowSpec
import Derived.OwnWalk
import Derived.Maps.AppendAt
namespace Go.Proofs.Ythgglnjjbpjonaa
open Go.RowKit

/-- A row of numbers of the call's own. -/
def OwnI (w : World) (base : Nat) (v : Value) (zs : List Int) : Prop := w.ownsRow base 3 1 v zs.length (zs.map (Value.int .i64))
theorem OwnI.row {w : World} {base : Nat} {v : Value} {zs : List Int} (h : OwnI w base v zs) : ∃ a cap, v = .slice a zs.length cap ∧ IRow w a zs := by
  rcases h.2 with ⟨rfl, h0⟩ | ⟨g, cap, cur, rfl, _, hg, _⟩
  · have e : zs = [] := List.length_eq_zero_iff.1 h0
    subst e
    exact ⟨none, 0, rfl, Or.inl rfl⟩
  · refine ⟨_, cap, rfl, Or.inr ⟨g, 0, rfl, (Array.getElem?_eq_some_iff.1 hg).1, fun i n hn => ?_⟩⟩
    have hi := (List.getElem?_eq_some_iff.1 hn).1
    have := World.ownsRow.cellAt h i (by omega)
    rw [Nat.zero_add, this]
    simp [hn]
theorem OwnI.later {w w' : World} {base : Nat} {v : Value} {zs : List Int} (h : OwnI w base v zs) (hb : Below w.heap.size w w') : OwnI w' base v zs := by
  refine ⟨h.1, h.2.imp id ?_⟩
  rintro ⟨b, cap, cur, h1, h2, h3, h4⟩
  exact ⟨b, cap, cur, h1, h2, (hb.block b (Array.getElem?_eq_some_iff.1 h3).1).trans h3, h4⟩
theorem OwnI.less {w : World} {base base' : Nat} {v : Value} {zs : List Int} (h : OwnI w base v zs) (hb : base' ≤ base) : OwnI w base' v zs :=
  ⟨h.1, h.2.imp id fun ⟨g, cap, cur, q1, q2, q3⟩ => ⟨g, cap, cur, q1, Nat.le_trans hb q2, q3⟩⟩

/-- On the way through the 61 truth values. -/
structure Kk (W : World) (B : Nat) (H : List Bool) (j : Nat) (v : Value) (w : World) : Prop where
  own : OwnI w (B + 1) v (keysOf H j)
  bits : Bits w B H
  below : Below W.heap.size W w

theorem Kk.step {W : World} {B : Nat} {H : List Bool} {j : Nat} {v v' : Value} {w w1 : World} {o : Obj} (h : Kk W B H j v w) (hb : H.getD j false = true) (hW : W.heap.size ≤ B)
    (ho : w1.ownsRow (B + 1) 3 1 v' ((keysOf H j).length + 1) ((keysOf H j).map (Value.int .i64) ++ [.int .i64 j])) (hg : (w.alloc o).grownBy w1 v.ownBlock) : Kk W B H (j + 1) v' w1 := by
  have hal := (World.grownBy_alloc w o v.ownBlock).trans hg
  refine ⟨?_, h.bits.same (hal.block _ h.bits.lt (fun e => ?_)), h.below.grown hal h.below.size (fun k hk => ?_)⟩
  · rw [keysOf_succ, hb]
    simpa [OwnI] using ho
  · have := (World.ownsRow.lt h.own B e.symm).1
    omega
  · have := (World.ownsRow.lt h.own k hk).1
    omega

theorem ints_one (q : IntKind) (x : Int) : ∀ u ∈ [Value.int q x], u.oneCell' = true := by
  intro u hu
  simp at hu
  subst hu
  rfl
theorem OwnI.zero (w : World) (t : TypeId) (ht : t = 3) {base : Nat} (hb : base ≤ w.heap.size) : OwnI (w.alloc (.cells #[] t)) base (.slice (some ⟨w.heap.size, 0, none⟩) 0 0) [] := by
  subst ht
  exact ⟨rfl, Or.inr ⟨w.heap.size, 0, #[], rfl, hb, heap_alloc_new _ _, Nat.le_refl _, Nat.zero_le _, rfl, rfl⟩⟩

end Go.Proofs.Ythgglnjjbpjonaa
