/-
  What a seal that is ok holds, kind by kind.
-/
import Derived.Test.YthekgdenplcnoaaDoorSealMath
namespace Go.Proofs.YthekgdenplcnoaaDoor

theorem inB_iff {n lo hi : Int} : inB n lo hi = true ↔ lo ≤ n ∧ n ≤ hi := by simp [inB]
theorem ok_cases {k t a b c d e : Int} (h : okB k t a b c d e = true) :
    (t = 1 ∧ k = b ∧ 4 ≤ b ∧ b ≤ 6 ∧ 1 ≤ a ∧ a ≤ 3 ∧ 10 ≤ c ∧ c ≤ 60 ∧ 0 ≤ d ∧ d ≤ 100 ∧ 0 ≤ e ∧ e ≤ 100) ∨
    (t = 2 ∧ (1 ≤ k ∧ k ≤ 3 ∨ 10 ≤ k ∧ k ≤ 60) ∧ 4 ≤ a ∧ a ≤ 6 ∧ 10 ≤ b ∧ b ≤ 60 ∧ 1 ≤ c ∧ c ≤ 60 ∧ 0 ≤ d ∧ d ≤ 100 ∧ e = 0) ∨
    (t = 3 ∧ 10 ≤ k ∧ k ≤ 60 ∧ 1 ≤ a ∧ a ≤ 3 ∧ 0 ≤ b ∧ b ≤ 100 ∧ 1 ≤ c ∧ c ≤ 60 ∧ d = 0 ∧ e = 0) ∨
    (t = 4 ∧ 10 ≤ k ∧ k ≤ 60 ∧ 0 ≤ a ∧ a ≤ 100 ∧ 1 ≤ b ∧ b ≤ 60 ∧ c = 0 ∧ d = 0 ∧ e = 0) := by
  unfold okB at h
  by_cases h1 : t = 1
  · subst h1; simp [ok1, inB_iff] at h; omega
  by_cases h2 : t = 2
  · subst h2; simp [ok2, inB_iff] at h; omega
  by_cases h3 : t = 3
  · subst h3; simp [ok3, inB_iff] at h; omega
  by_cases h4 : t = 4
  · subst h4; simp [ok4, inB_iff] at h; omega
  · simp [h1, h2, h3, h4] at h
theorem ok_iff1 {k a b c d e : Int} : okB k 1 a b c d e = true ↔ (k = b ∧ 4 ≤ b ∧ b ≤ 6 ∧ 1 ≤ a ∧ a ≤ 3 ∧ 10 ≤ c ∧ c ≤ 60 ∧ 0 ≤ d ∧ d ≤ 100 ∧ 0 ≤ e ∧ e ≤ 100) := by
  simp [okB, ok1, inB_iff, and_assoc]
theorem ok_iff2 {k a b c d e : Int} : okB k 2 a b c d e = true ↔ ((1 ≤ k ∧ k ≤ 3 ∨ 10 ≤ k ∧ k ≤ 60) ∧ 4 ≤ a ∧ a ≤ 6 ∧ 10 ≤ b ∧ b ≤ 60 ∧ 1 ≤ c ∧ c ≤ 60 ∧ 0 ≤ d ∧ d ≤ 100 ∧ e = 0) := by
  simp [okB, ok2, inB_iff, and_assoc]
theorem ok_iff3 {k a b c d e : Int} : okB k 3 a b c d e = true ↔ (10 ≤ k ∧ k ≤ 60 ∧ 1 ≤ a ∧ a ≤ 3 ∧ 0 ≤ b ∧ b ≤ 100 ∧ 1 ≤ c ∧ c ≤ 60 ∧ d = 0 ∧ e = 0) := by
  simp [okB, ok3, inB_iff, and_assoc]
theorem ok_iff4 {k a b c d e : Int} : okB k 4 a b c d e = true ↔ (10 ≤ k ∧ k ≤ 60 ∧ 0 ≤ a ∧ a ≤ 100 ∧ 1 ≤ b ∧ b ≤ 60 ∧ c = 0 ∧ d = 0 ∧ e = 0) := by
  simp [okB, ok4, inB_iff, and_assoc]

end Go.Proofs.YthekgdenplcnoaaDoor
