/-
  Two seals are the same, or not.
-/
import Derived.Test.YtopikapamfmalaaGreatDoorBaseJ
namespace Go.Proofs.YtopikapamfmalaaGreatDoor

/-- Two seals have the same seven numbers. -/
def sameS (s u : Sl) : Bool := s.k == u.k && s.t == u.t && s.a == u.a && s.b == u.b && s.c == u.c && s.d == u.d && s.e == u.e
/-- A seal is among seals. -/
def inS (s : Sl) (xs : List Sl) : Bool := xs.any (sameS s)
/-- Two rows of seals are the same. -/
def eqS : List Sl → List Sl → Bool
  | [], [] => true
  | s :: xs, u :: ys => sameS s u && eqS xs ys
  | [], _ :: _ => false
  | _ :: _, [] => false

theorem sl_eq {s u : Sl} (h : s.k = u.k ∧ s.t = u.t ∧ s.a = u.a ∧ s.b = u.b ∧ s.c = u.c ∧ s.d = u.d ∧ s.e = u.e) : s = u := by
  obtain ⟨h1, h2, h3, h4, h5, h6, h7⟩ := h
  cases s; cases u; simp_all
theorem sameS_iff {s u : Sl} : sameS s u = true ↔ s = u := by
  constructor
  · intro h
    simp only [sameS, Bool.and_eq_true, beq_iff_eq] at h
    obtain ⟨⟨⟨⟨⟨⟨h1, h2⟩, h3⟩, h4⟩, h5⟩, h6⟩, h7⟩ := h
    exact sl_eq ⟨h1, h2, h3, h4, h5, h6, h7⟩
  · rintro rfl
    simp [sameS]
theorem inS_iff {s : Sl} {xs : List Sl} : inS s xs = true ↔ s ∈ xs := by
  unfold inS
  rw [List.any_eq_true]
  constructor
  · rintro ⟨u, hu, h⟩
    rw [sameS_iff.1 h]; exact hu
  · intro h
    exact ⟨s, h, sameS_iff.2 rfl⟩
theorem inS_true {s : Sl} {xs : List Sl} (h : s ∈ xs) : inS s xs = true := inS_iff.2 h
theorem inS_false {s : Sl} {xs : List Sl} (h : ¬ s ∈ xs) : inS s xs = false := by
  cases e : inS s xs
  · rfl
  · exact absurd (inS_iff.1 e) h
theorem eqS_iff : ∀ {xs ys : List Sl}, eqS xs ys = true ↔ xs = ys
  | [], [] => by simp [eqS]
  | s :: xs, u :: ys => by rw [eqS, Bool.and_eq_true, sameS_iff, eqS_iff, List.cons.injEq]
  | [], _ :: _ => by simp [eqS]
  | _ :: _, [] => by simp [eqS]
theorem eqS_true {xs ys : List Sl} (h : xs = ys) : eqS xs ys = true := eqS_iff.2 h
theorem eqS_false {xs ys : List Sl} (h : ¬ xs = ys) : eqS xs ys = false := by
  cases e : eqS xs ys
  · rfl
  · exact absurd (eqS_iff.1 e) h
theorem not_in_take {xs : List Sl} {j : Nat} {s u : Sl} (hu : xs[j]? = some u) (h : ¬ s ∈ xs.take j) (hne : ¬ u = s) : ¬ s ∈ xs.take (j + 1) := by
  rw [List.take_add_one, hu, Option.toList_some, List.mem_append, List.mem_singleton]
  rintro (q | q)
  · exact h q
  · exact hne q.symm

end Go.Proofs.YtopikapamfmalaaGreatDoor
