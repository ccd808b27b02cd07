/-
  Two seals are the same, or not.
-/
import Derived.Test.YtnipdklaonjinaaGreatDoorKRow
namespace Go.Proofs.YtnipdklaonjinaaGreatDoor

deriving instance DecidableEq for Sl

theorem sl_eq {s u : Sl} (h : s.k = u.k ∧ s.t = u.t ∧ s.a = u.a ∧ s.b = u.b ∧ s.c = u.c ∧ s.d = u.d ∧ s.e = u.e) : s = u := by
  obtain ⟨h1, h2, h3, h4, h5, h6, h7⟩ := h
  cases s; cases u; simp_all
theorem not_in_take {xs : List Sl} {j : Nat} {s u : Sl} (hu : xs[j]? = some u) (h : ¬ s ∈ xs.take j) (hne : ¬ u = s) : ¬ s ∈ xs.take (j + 1) := by
  rw [List.take_add_one, hu, Option.toList_some, List.mem_append, List.mem_singleton]
  rintro (q | q)
  · exact h q
  · exact hne q.symm

end Go.Proofs.YtnipdklaonjinaaGreatDoor
