/-
  The program's SealRead and the specification's agree, as plain mathematics.
-/
import Derived.Test.YtagbjbpkkdbpbaaDoorSpecRead
namespace Go.Proofs.YtagbjbpkkdbpbaaDoor

theorem read_agree {s : ByteArray} {k t a b c d e k' t' a' b' c' d' e' : Int} {ok ok' : Bool}
    (y : ok = true → okB k t a b c d e = true ∧ textB k t a b c d e = s) (n : ok = false → k = 0 ∧ t = 0 ∧ a = 0 ∧ b = 0 ∧ c = 0 ∧ d = 0 ∧ e = 0 ∧ NoSeal s)
    (y' : ok' = true → Par s k' t' a' b' c' d' e') (n' : ok' = false → k' = 0 ∧ t' = 0 ∧ a' = 0 ∧ b' = 0 ∧ c' = 0 ∧ d' = 0 ∧ e' = 0 ∧ ∀ k t a b c d e, ¬ Par s k t a b c d e) :
    ok' = ok ∧ k' = k ∧ t' = t ∧ a' = a ∧ b' = b ∧ c' = c ∧ d' = d ∧ e' = e := by
  cases ok
  · obtain ⟨rfl, rfl, rfl, rfl, rfl, rfl, rfl, hno⟩ := n rfl
    cases ok'
    · obtain ⟨rfl, rfl, rfl, rfl, rfl, rfl, rfl, _⟩ := n' rfl
      exact ⟨rfl, rfl, rfl, rfl, rfl, rfl, rfl, rfl⟩
    · obtain ⟨_, _, _, _, _, _, _, _, _, _, _, _, _, _, _, ho, ht⟩ := y' rfl
      exact absurd ht (hno _ _ _ _ _ _ _ ho)
  · obtain ⟨ho, ht⟩ := y rfl
    cases ok'
    · obtain ⟨_, _, _, _, _, _, _, hno⟩ := n' rfl
      exact absurd (ht ▸ par_of ho) (hno _ _ _ _ _ _ _)
    · obtain ⟨_, _, _, _, _, _, _, _, _, _, _, _, _, _, _, ho', ht'⟩ := y' rfl
      obtain ⟨rfl, rfl, rfl, rfl, rfl, rfl, rfl⟩ := text_inj ho' ho (ht'.trans ht.symm)
      exact ⟨rfl, rfl, rfl, rfl, rfl, rfl, rfl, rfl⟩

end Go.Proofs.YtagbjbpkkdbpbaaDoor
