/-
  All keys from 1 on, and a row of them on the way.
-/
import Derived.Test.YtadjphljohdieaaKAppW
namespace Go.Proofs.Ytadjphljohdieaa
open Go.RowKit

/-- The keys from 1 on. -/
def everyL (m : Nat) : List Int := List.map (fun n : Nat => (n : Int) + 1) (List.range m)
theorem everyL_len (m : Nat) : (everyL m).length = m := by simp [everyL]
theorem everyL_succ (m : Nat) : everyL (m + 1) = everyL m ++ [(m : Int) + 1] := by unfold everyL; rw [List.range_succ, List.map_append]; rfl
theorem mem_everyL {m : Nat} {n : Int} : n ∈ everyL m ↔ 1 ≤ n ∧ n ≤ m := by
  unfold everyL
  rw [List.mem_map]
  constructor
  · rintro ⟨k, hk, rfl⟩
    have := List.mem_range.1 hk
    omega
  · rintro ⟨h1, h2⟩
    exact ⟨(n - 1).toNat, List.mem_range.2 (by omega), by omega⟩
/-- On the way: a row of numbers of the call's own. -/
structure Ev (W : World) (m : Nat) (v : Value) (w : World) : Prop where
  own : OwnI w W.heap.size v (everyL m)
  below : Below W.heap.size W w

end Go.Proofs.Ytadjphljohdieaa
