/-
  What is cut is no seal, as plain mathematics: a seal's text without its last letter is that of another one, or of none; without its first one of none; with a blank more of none.
-/
import Derived.Test.YtopikapamfmalaaGreatDoorOneMath
import Derived.Test.YtopikapamfmalaaGreatDoorReadImpl
import Derived.Lib.IndexBytes
namespace Go.Proofs.YtopikapamfmalaaGreatDoor

theorem cut_last {k t a b c d e k' t' a' b' c' d' e' : Int} {X : ByteArray} (hX : X = textB k t a b c d e) (h : okB k t a b c d e = true) (p : Par (X.extract 0 (X.size - 1)) k' t' a' b' c' d' e') :
    ¬ (k' = k ∧ t' = t ∧ a' = a ∧ b' = b ∧ c' = c ∧ d' = d ∧ e' = e) := by
  rintro ⟨rfl, rfl, rfl, rfl, rfl, rfl, rfl⟩
  obtain ⟨q0, q1, q2, q3, q4, q5, q6, _, _, _, _, _, _, _, _, _, ht⟩ := p
  have := text_size h
  rw [← hX] at ht this
  have hs := congrArg ByteArray.size ht
  simp [ByteArray.size_extract] at hs
  omega
theorem name_tail {t t' : Int} (h : t = 1 ∨ t = 2 ∨ t = 3 ∨ t = 4) (h' : t' = 1 ∨ t' = 2 ∨ t' = 3 ∨ t' = 4) : (nameB t).data.toList.drop 1 ≠ (nameB t').data.toList := by
  rcases h with rfl | rfl | rfl | rfl <;> rcases h' with rfl | rfl | rfl | rfl <;> decide
theorem cut_first {k t a b c d e : Int} {X : ByteArray} (hX : X = textB k t a b c d e) (h : okB k t a b c d e = true) : ∀ k' t' a' b' c' d' e', ¬ Par (X.extract 1 X.size) k' t' a' b' c' d' e' := by
  rintro k' t' a' b' c' d' e' ⟨q0, q1, q2, q3, q4, q5, q6, _, _, _, _, _, _, _, _, ho, ht⟩
  have hl : (textB k' t' a' b' c' d' e').data.toList = X.data.toList.drop 1 := by rw [ht]; exact Lib.extract_to_end X 1
  rw [hX, text_list ho, text_list h] at hl
  have hn : 1 ≤ (nameB t).data.toList.length := by rcases ok_kinds h with rfl | rfl | rfl | rfl <;> decide
  rw [List.drop_append_of_le_length hn] at hl
  have hb : (32 : UInt8) ∉ (nameB t).data.toList.drop 1 := fun m => name_blank t (List.mem_of_mem_drop m)
  exact name_tail (ok_kinds h) (ok_kinds ho) (cut_unique (name_blank t') hb hl).1.symm
theorem cut_more {k t a b c d e : Int} {X : ByteArray} (hX : X = textB k t a b c d e) (h : okB k t a b c d e = true) : ∀ k' t' a' b' c' d' e', ¬ Par (X ++ ⟨#[32]⟩) k' t' a' b' c' d' e' := by
  rintro k' t' a' b' c' d' e' ⟨q0, q1, q2, q3, q4, q5, q6, _, _, _, _, _, _, _, _, ho, ht⟩
  obtain ⟨⟨k0, k1⟩, ⟨a0, a1⟩, ⟨b0, b1⟩, ⟨c0, c1⟩, ⟨d0, d1⟩, ⟨e0, e1⟩⟩ := ok_bounds h
  obtain ⟨⟨k2, k3⟩, ⟨a2, a3⟩, ⟨b2, b3⟩, ⟨c2, c3⟩, ⟨d2, d3⟩, ⟨e2, e3⟩⟩ := ok_bounds ho
  have hl : (textB k' t' a' b' c' d' e').data.toList = X.data.toList ++ [32] := by rw [ht, Joins.data_append]
  rw [hX, text_list ho, text_list h] at hl
  simp only [List.append_assoc, List.cons_append] at hl
  obtain ⟨_, hl⟩ := cut_unique (name_blank t') (name_blank t) hl
  obtain ⟨_, hl⟩ := cut_unique (digL_blank k2 (by omega)) (digL_blank k0 (by omega)) hl
  obtain ⟨_, hl⟩ := cut_unique (digL_blank a2 (by omega)) (digL_blank a0 (by omega)) hl
  obtain ⟨_, hl⟩ := cut_unique (digL_blank b2 (by omega)) (digL_blank b0 (by omega)) hl
  obtain ⟨_, hl⟩ := cut_unique (digL_blank c2 (by omega)) (digL_blank c0 (by omega)) hl
  obtain ⟨_, hl⟩ := cut_unique (digL_blank d2 (by omega)) (digL_blank d0 (by omega)) hl
  exact digL_blank e2 (by omega) (by rw [hl]; simp)

end Go.Proofs.YtopikapamfmalaaGreatDoor
