/-
  A word's text, cut, doubled, or with one more newline, is no word's text: as plain mathematics.
-/
import Derived.Test.YtopikapamfmalaaGreatDoorMsgOneMath
namespace Go.Proofs.YtopikapamfmalaaGreatDoor

theorem lines_count : ∀ {xs : List Sl}, (∀ s ∈ xs, s.ok = true) → (linesL [] xs).count 10 = xs.length
  | [], _ => rfl
  | s :: xs, h => by
    rw [linesL_cons, List.count_append, List.count_cons_self, lines_count (fun u hu => h u (List.mem_cons_of_mem _ hu)), List.count_eq_zero.2 (text_line (h s (List.mem_cons_self ..)))]
    simp
theorem lines_end : ∀ (xs : List Sl) (l : List UInt8), ∃ q, linesL (l ++ [10]) xs = q ++ [10]
  | [], l => ⟨l, rfl⟩
  | s :: xs, l => by
    obtain ⟨q, hq⟩ := lines_end xs (l ++ [10] ++ s.text.data.toList)
    refine ⟨q, ?_⟩
    rw [← hq]
    simp [linesL, List.append_assoc]
theorem msgT_list {m n k f : Int} {xs : List Sl} (h : msgB m n k f xs = true) : (msgT m n k f xs).data.toList = headL m n k f ++ linesL [] xs := by
  unfold msgT
  rw [if_pos h, tB_list, linesL_head]
theorem msg_end {m n k f : Int} {xs : List Sl} (h : msgB m n k f xs = true) : ∃ q, (msgT m n k f xs).data.toList = q ++ [10] := by
  obtain ⟨q, hq⟩ := lines_end xs (digL m ++ 32 :: (digL n ++ 32 :: (digL k ++ 32 :: digL f)))
  refine ⟨q, ?_⟩
  rw [← hq]
  unfold msgT
  rw [if_pos h, tB_list]
  simp [headL]
theorem msg_count {m n k f : Int} {xs : List Sl} (h : msgB m n k f xs = true) : (msgT m n k f xs).data.toList.count 10 = 1 + xs.length := by
  obtain ⟨⟨hm0, hm1⟩, ⟨hn0, hn1⟩, ⟨hk0, hk1⟩, ⟨hf0, hf1⟩⟩ := msg_bounds h
  have c1 := List.count_eq_zero.2 (digL_line (n := m) (by omega) (by omega))
  have c2 := List.count_eq_zero.2 (digL_line (n := n) (by omega) (by omega))
  have c3 := List.count_eq_zero.2 (digL_line (n := k) (by omega) (by omega))
  have c4 := List.count_eq_zero.2 (digL_line (n := f) (by omega) (by omega))
  rw [msgT_list h, List.count_append, lines_count (msg_seals h).2]
  have : (headL m n k f).count 10 = 1 := by
    unfold headL
    simp only [List.count_append, List.count_cons, List.count_nil, c1, c2, c3, c4]
    decide
  omega
/-- How many seals a kind has. -/
def kindN (m : Int) : Nat := if m = 1 then 0 else if m = 6 then 1 else 2
theorem msg_num {m n k f : Int} {xs : List Sl} (h : msgB m n k f xs = true) : xs.length = kindN m := by
  have sl : ∀ {q : Int}, slB xs q = true → (xs.length : Int) = q := by
    intro q hs
    simp only [slB, Bool.and_eq_true, List.all_eq_true, decide_eq_true_eq] at hs
    omega
  unfold msgB at h
  split at h
  · rename_i e; simp only [Bool.and_eq_true] at h; have := sl h.2; subst e; have hk : kindN 1 = 0 := rfl; omega
  split at h
  · rename_i e; simp only [Bool.and_eq_true] at h; have := sl h.2; subst e; have hk : kindN 2 = 2 := rfl; omega
  split at h
  · rename_i e; simp only [Bool.and_eq_true] at h; have := sl h.2; subst e; have hk : kindN 3 = 2 := rfl; omega
  split at h
  · rename_i e; simp only [Bool.and_eq_true] at h; have := sl h.2; subst e; have hk : kindN 4 = 2 := rfl; omega
  split at h
  · rename_i e; simp only [Bool.and_eq_true] at h; have := sl h.2; subst e; have hk : kindN 5 = 2 := rfl; omega
  split at h
  · rename_i e; simp only [Bool.and_eq_true] at h; have := sl h.2; subst e; have hk : kindN 6 = 1 := rfl; omega
  · cases h
theorem msg_first {m n k f : Int} {xs : List Sl} (h : msgB m n k f xs = true) : ∃ r, (msgT m n k f xs).data.toList = fig m :: 32 :: r := by
  obtain ⟨⟨hm0, hm1⟩, _⟩ := msg_bounds h
  have : digL m = [fig m] := by
    have hm : m = 1 ∨ m = 2 ∨ m = 3 ∨ m = 4 ∨ m = 5 ∨ m = 6 := by omega
    rcases hm with rfl | rfl | rfl | rfl | rfl | rfl <;> decide +kernel
  refine ⟨digL n ++ 32 :: (digL k ++ 32 :: (digL f ++ [10])) ++ linesL [] xs, ?_⟩
  rw [msgT_list h, headL, this]
  rfl
theorem fig_kind {m m' : Int} (h : 1 ≤ m ∧ m ≤ 6) (h' : 1 ≤ m' ∧ m' ≤ 6) (e : fig m = fig m') : m = m' := by
  have hm : m = 1 ∨ m = 2 ∨ m = 3 ∨ m = 4 ∨ m = 5 ∨ m = 6 := by omega
  have hm' : m' = 1 ∨ m' = 2 ∨ m' = 3 ∨ m' = 4 ∨ m' = 5 ∨ m' = 6 := by omega
  rcases hm with rfl | rfl | rfl | rfl | rfl | rfl <;> rcases hm' with rfl | rfl | rfl | rfl | rfl | rfl <;> first | rfl | (exact absurd e (by decide))
/-- Texts that begin alike have as many lines. -/
theorem msg_alike {m n k f m' n' k' f' : Int} {xs ys : List Sl} (h : msgB m n k f xs = true) (h' : msgB m' n' k' f' ys = true) {c : UInt8} {r r' : List UInt8}
    (e : (msgT m n k f xs).data.toList = c :: r) (e' : (msgT m' n' k' f' ys).data.toList = c :: r') : (msgT m n k f xs).data.toList.count 10 = (msgT m' n' k' f' ys).data.toList.count 10 := by
  obtain ⟨q, hq⟩ := msg_first h
  obtain ⟨q', hq'⟩ := msg_first h'
  have e1 : fig m = c := by rw [hq] at e; injection e
  have e2 : fig m' = c := by rw [hq'] at e'; injection e'
  have := fig_kind (msg_bounds h).1 (msg_bounds h').1 (e1.trans e2.symm)
  subst this
  rw [msg_count h, msg_count h', msg_num h, msg_num h']
theorem cut_one {m n k f m' n' k' f' : Int} {xs ys : List Sl} (h : msgB m n k f xs = true) (h' : msgB m' n' k' f' ys = true) : (msgT m' n' k' f' ys).data.toList ≠ (msgT m n k f xs).data.toList.dropLast := by
  intro e
  obtain ⟨r, hr⟩ := msg_first h
  obtain ⟨q, hq⟩ := msg_end h
  have e1 : (msgT m' n' k' f' ys).data.toList = fig m :: (32 :: r).dropLast := by rw [e, hr]; rfl
  have hc := msg_alike h h' hr e1
  rw [e, hq, List.dropLast_concat, List.count_append] at hc
  simp at hc
theorem cut_two {m n k f m' n' k' f' : Int} {xs ys : List Sl} (h : msgB m n k f xs = true) (h' : msgB m' n' k' f' ys = true) : (msgT m' n' k' f' ys).data.toList ≠ (msgT m n k f xs).data.toList ++ (msgT m n k f xs).data.toList := by
  intro e
  obtain ⟨r, hr⟩ := msg_first h
  have e1 : (msgT m' n' k' f' ys).data.toList = fig m :: (32 :: r ++ fig m :: 32 :: r) := e.trans (by rw [hr]; rfl)
  have hc := msg_alike h h' hr e1
  rw [e, List.count_append, msg_count h] at hc
  omega
theorem cut_three {m n k f m' n' k' f' : Int} {xs ys : List Sl} (h : msgB m n k f xs = true) (h' : msgB m' n' k' f' ys = true) : (msgT m' n' k' f' ys).data.toList ≠ (msgT m n k f xs).data.toList ++ [10] := by
  intro e
  obtain ⟨r, hr⟩ := msg_first h
  have e1 : (msgT m' n' k' f' ys).data.toList = fig m :: (32 :: r ++ [10]) := by rw [e, hr]; rfl
  have hc := msg_alike h h' hr e1
  rw [e, List.count_append, msg_count h] at hc
  simp at hc

end Go.Proofs.YtopikapamfmalaaGreatDoor
