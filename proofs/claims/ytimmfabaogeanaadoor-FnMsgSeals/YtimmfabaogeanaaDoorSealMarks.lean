/-
  Marks in a row of seals of the call's own, nil or not: they are held there.
-/
import Derived.Test.YtimmfabaogeanaaDoorSealMk
import Derived.Test.YtimmfabaogeanaaDoorSOwn
namespace Go.Proofs.YtimmfabaogeanaaDoor
open Go.RowKit

/-- The marks lie in the row. -/
def Mk7 (w : World) (v : Value) (n : Nat) (k0 : Int) : Prop := ∃ a cap, v = .slice a n cap ∧ (n = 0 ∨ ∃ g, a = some ⟨g, 0, none⟩ ∧ g < w.heap.size ∧ ∀ i, i < n * 7 → w.cell? ⟨g, i, none⟩ = some (.int .i64 (k0 + i)))
theorem Mk7.later {w w' : World} {v : Value} {n : Nat} {k0 : Int} (h : Mk7 w v n k0) (hb : Below w.heap.size w w') : Mk7 w' v n k0 := by
  obtain ⟨a, cap, rfl, h | ⟨g, rfl, hg, h⟩⟩ := h
  · exact ⟨a, cap, rfl, Or.inl h⟩
  · exact ⟨_, cap, rfl, Or.inr ⟨g, rfl, Nat.lt_of_lt_of_le hg hb.size, fun i hi => ((bcell hb).1 _ _ hg).trans (h i hi)⟩⟩
theorem OwnS.touch {w w' : World} {base g : Nat} {v : Value} {zs : List Sl} (h : OwnS w base v zs) (ht : Touch g w w') (hg : g < base) : OwnS w' base v zs := by
  refine ⟨h.1, h.2.imp id ?_⟩
  rintro ⟨b, cap, cur, h1, h2, h3, h4⟩
  exact ⟨b, cap, cur, h1, h2, (ht.block b (by omega)).trans h3, h4⟩

end Go.Proofs.YtimmfabaogeanaaDoor
