/-
  Of seals that are ok the texts are the same just if the seals are: as plain mathematics.
-/
import Derived.Test.YtopikapamfmalaaGreatDoorTextAny
namespace Go.Proofs.YtopikapamfmalaaGreatDoor

theorem cut_unique : ∀ {l1 l2 r1 r2 : List UInt8}, (32 : UInt8) ∉ l1 → (32 : UInt8) ∉ l2 → l1 ++ 32 :: r1 = l2 ++ 32 :: r2 → l1 = l2 ∧ r1 = r2
  | [], [], _, _, _, _, h => ⟨rfl, by simpa using h⟩
  | [], x :: l2, _, _, _, h2, h => by simp at h; exact absurd h.1.symm (by intro e; exact h2 (by simp [e]))
  | x :: l1, [], _, _, h1, _, h => by simp at h; exact absurd h.1 (by intro e; exact h1 (by simp [e]))
  | x :: l1, y :: l2, r1, r2, h1, h2, h => by
    simp only [List.cons_append, List.cons.injEq] at h
    have := cut_unique (l1 := l1) (l2 := l2) (r1 := r1) (r2 := r2) (fun m => h1 (by simp [m])) (fun m => h2 (by simp [m])) h.2
    exact ⟨by rw [h.1, this.1], this.2⟩

/-- The letters of a number's text. -/
def digL (n : Int) : List UInt8 := Lib.decDigits n.toNat
theorem digL_small {n : Int} (h0 : 0 ≤ n) (h1 : n < 10) : digL n = [fig n] := dec_small h0 h1
theorem digL_mid {n : Int} (h0 : 10 ≤ n) (h1 : n < 100) : digL n = [fig (n / 10), fig (n % 10)] := by
  unfold digL; rw [dec_great h0, dec_small (by omega) (by omega)]; rfl
theorem digL_great {n : Int} (h0 : 100 ≤ n) (h1 : n < 1000) : digL n = [fig (n / 10 / 10), fig (n / 10 % 10), fig (n % 10)] := by
  unfold digL; rw [dec_great (by omega), dec_great (by omega), dec_small (by omega) (by omega)]; rfl
theorem fig_toNat {m : Int} (h0 : 0 ≤ m) (h1 : m < 10) : (fig m).toNat = 48 + m.toNat := by unfold fig; simp; omega
theorem fig_inj {m k : Int} (h0 : 0 ≤ m) (h1 : m < 10) (g0 : 0 ≤ k) (g1 : k < 10) (h : fig m = fig k) : m = k := by
  have := congrArg UInt8.toNat h
  rw [fig_toNat h0 h1, fig_toNat g0 g1] at this
  omega
theorem fig_ne {m : Int} (h0 : 0 ≤ m) (h1 : m < 10) : ¬ (32 : UInt8) = fig m := by
  intro h
  have := congrArg UInt8.toNat h
  rw [fig_toNat h0 h1] at this
  simp at this; omega
theorem digL_blank {n : Int} (h0 : 0 ≤ n) (h1 : n < 1000) : (32 : UInt8) ∉ digL n := by
  by_cases a : n < 10
  · rw [digL_small h0 a]; simp [fig_ne h0 a]
  by_cases b : n < 100
  · rw [digL_mid (by omega) b]; simp [fig_ne (m := n / 10) (by omega) (by omega), fig_ne (m := n % 10) (by omega) (by omega)]
  · rw [digL_great (by omega) h1]; simp [fig_ne (m := n / 10 / 10) (by omega) (by omega), fig_ne (m := n / 10 % 10) (by omega) (by omega), fig_ne (m := n % 10) (by omega) (by omega)]
theorem digL_inj {n m : Int} (h0 : 0 ≤ n) (h1 : n < 1000) (g0 : 0 ≤ m) (g1 : m < 1000) (h : digL n = digL m) : n = m := by
  by_cases a : n < 10
  · rw [digL_small h0 a] at h
    by_cases c : m < 10
    · rw [digL_small g0 c] at h; simp at h; exact fig_inj h0 a g0 c h
    by_cases d : m < 100
    · rw [digL_mid (by omega) d] at h; simp at h
    · rw [digL_great (by omega) g1] at h; simp at h
  by_cases b : n < 100
  · rw [digL_mid (by omega) b] at h
    by_cases c : m < 10
    · rw [digL_small g0 c] at h; simp at h
    by_cases d : m < 100
    · rw [digL_mid (by omega) d] at h
      simp at h
      have e1 := fig_inj (m := n / 10) (k := m / 10) (by omega) (by omega) (by omega) (by omega) h.1
      have e2 := fig_inj (m := n % 10) (k := m % 10) (by omega) (by omega) (by omega) (by omega) h.2
      omega
    · rw [digL_great (by omega) g1] at h; simp at h
  · rw [digL_great (by omega) h1] at h
    by_cases c : m < 10
    · rw [digL_small g0 c] at h; simp at h
    by_cases d : m < 100
    · rw [digL_mid (by omega) d] at h; simp at h
    · rw [digL_great (by omega) g1] at h
      simp at h
      have e1 := fig_inj (m := n / 10 / 10) (k := m / 10 / 10) (by omega) (by omega) (by omega) (by omega) h.1
      have e2 := fig_inj (m := n / 10 % 10) (k := m / 10 % 10) (by omega) (by omega) (by omega) (by omega) h.2.1
      have e3 := fig_inj (m := n % 10) (k := m % 10) (by omega) (by omega) (by omega) (by omega) h.2.2
      omega

/-- A seal's text as a list of letters: its word, and its numbers, a blank ahead of each. -/
theorem text_list {k t a b c d e : Int} (h : okB k t a b c d e = true) :
    (textB k t a b c d e).data.toList = (nameB t).data.toList ++ 32 :: (digL k ++ 32 :: (digL a ++ 32 :: (digL b ++ 32 :: (digL c ++ 32 :: (digL d ++ 32 :: digL e))))) := by
  unfold textB
  rw [if_pos h]
  simp [wordsOf, Lib.join, List.intercalate, decB, digL]

theorem name_blank (t : Int) : (32 : UInt8) ∉ (nameB t).data.toList := by
  unfold nameB
  by_cases h1 : t = 1
  · rw [if_pos h1]; decide
  by_cases h2 : t = 2
  · rw [if_neg h1, if_pos h2]; decide
  by_cases h3 : t = 3
  · rw [if_neg h1, if_neg h2, if_pos h3]; decide
  · rw [if_neg h1, if_neg h2, if_neg h3]; decide
theorem name_inj {t s : Int} (ht : t = 1 ∨ t = 2 ∨ t = 3 ∨ t = 4) (hs : s = 1 ∨ s = 2 ∨ s = 3 ∨ s = 4) (h : (nameB t).data.toList = (nameB s).data.toList) : t = s := by
  rcases ht with rfl | rfl | rfl | rfl <;> rcases hs with rfl | rfl | rfl | rfl <;> first | rfl | (exfalso; revert h; decide)

/-- Of seals that are ok the texts are the same just if they are. -/
theorem text_inj {k t a b c d e k' t' a' b' c' d' e' : Int} (h : okB k t a b c d e = true) (h' : okB k' t' a' b' c' d' e' = true) (hh : textB k t a b c d e = textB k' t' a' b' c' d' e') :
    k = k' ∧ t = t' ∧ a = a' ∧ b = b' ∧ c = c' ∧ d = d' ∧ e = e' := by
  obtain ⟨⟨k0, k1⟩, ⟨a0, a1⟩, ⟨b0, b1⟩, ⟨c0, c1⟩, ⟨d0, d1⟩, ⟨e0, e1⟩⟩ := ok_bounds h
  obtain ⟨⟨k2, k3⟩, ⟨a2, a3⟩, ⟨b2, b3⟩, ⟨c2, c3⟩, ⟨d2, d3⟩, ⟨e2, e3⟩⟩ := ok_bounds h'
  have hl : (textB k t a b c d e).data.toList = (textB k' t' a' b' c' d' e').data.toList := by rw [hh]
  rw [text_list h, text_list h'] at hl
  obtain ⟨p0, hl⟩ := cut_unique (name_blank t) (name_blank t') hl
  obtain ⟨p1, hl⟩ := cut_unique (digL_blank k0 (by omega)) (digL_blank k2 (by omega)) hl
  obtain ⟨p2, hl⟩ := cut_unique (digL_blank a0 (by omega)) (digL_blank a2 (by omega)) hl
  obtain ⟨p3, hl⟩ := cut_unique (digL_blank b0 (by omega)) (digL_blank b2 (by omega)) hl
  obtain ⟨p4, hl⟩ := cut_unique (digL_blank c0 (by omega)) (digL_blank c2 (by omega)) hl
  obtain ⟨p5, hl⟩ := cut_unique (digL_blank d0 (by omega)) (digL_blank d2 (by omega)) hl
  exact ⟨digL_inj k0 (by omega) k2 (by omega) p1, name_inj (ok_kinds h) (ok_kinds h') p0, digL_inj a0 (by omega) a2 (by omega) p2, digL_inj b0 (by omega) b2 (by omega) p3, digL_inj c0 (by omega) c2 (by omega) p4, digL_inj d0 (by omega) d2 (by omega) p5, digL_inj e0 (by omega) e2 (by omega) hl⟩
theorem text_empty {k t a b c d e : Int} : (textB k t a b c d e).data.toList = [] ↔ okB k t a b c d e = false := by
  cases h : okB k t a b c d e
  · simp [textB, h]
  · rw [text_list h]; simp

theorem text_size {k t a b c d e : Int} (h : okB k t a b c d e = true) : (textB k t a b c d e).size ≤ 100 ∧ 0 < (textB k t a b c d e).size := by
  obtain ⟨⟨k0, k1⟩, ⟨a0, a1⟩, ⟨b0, b1⟩, ⟨c0, c1⟩, ⟨d0, d1⟩, ⟨e0, e1⟩⟩ := ok_bounds h
  have hl := congrArg List.length (text_list h)
  have L : ∀ {n : Int}, 0 ≤ n → n < 1000 → (digL n).length ≤ 3 := fun {n} p q => by have := decB_size p q; simpa [decB, digL, ByteArray.size] using this
  have l1 := L k0 (by omega)
  have l2 := L a0 (by omega)
  have l3 := L b0 (by omega)
  have l4 := L c0 (by omega)
  have l5 := L d0 (by omega)
  have l6 := L e0 (by omega)
  have ln : (nameB t).data.toList.length ≤ 6 := by rcases ok_kinds h with rfl | rfl | rfl | rfl <;> decide
  have es : (textB k t a b c d e).data.toList.length = (textB k t a b c d e).size := by rw [Array.length_toList]; rfl
  rw [es] at hl
  simp only [List.length_append, List.length_cons] at hl
  omega

end Go.Proofs.YtopikapamfmalaaGreatDoor
