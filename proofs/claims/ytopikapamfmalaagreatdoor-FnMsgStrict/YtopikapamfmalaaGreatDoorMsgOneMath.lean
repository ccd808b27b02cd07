/-
  Of words in form the texts are the same just if the words are: as plain mathematics.
-/
import Derived.Test.YtopikapamfmalaaGreatDoorMsgTextM
namespace Go.Proofs.YtopikapamfmalaaGreatDoor

theorem cut_at (c : UInt8) : ∀ {l1 l2 r1 r2 : List UInt8}, c ∉ l1 → c ∉ l2 → l1 ++ c :: r1 = l2 ++ c :: r2 → l1 = l2 ∧ r1 = r2
  | [], [], _, _, _, _, h => ⟨rfl, by simpa using h⟩
  | [], x :: l2, _, _, _, h2, h => by simp at h; exact absurd h.1.symm (by intro e; exact h2 (by simp [e]))
  | x :: l1, [], _, _, h1, _, h => by simp at h; exact absurd h.1 (by intro e; exact h1 (by simp [e]))
  | x :: l1, y :: l2, r1, r2, h1, h2, h => by
    simp only [List.cons_append, List.cons.injEq] at h
    obtain ⟨a, b⟩ := cut_at c (l1 := l1) (l2 := l2) (fun e => h1 (by simp [e])) (fun e => h2 (by simp [e])) h.2
    exact ⟨by rw [h.1, a], b⟩
theorem fig_ne10 {m : Int} (h0 : 0 ≤ m) (h1 : m < 10) : ¬ (10 : UInt8) = fig m := by
  intro h
  have := congrArg UInt8.toNat h
  rw [fig_toNat h0 h1] at this
  simp at this; omega
theorem digL_line {n : Int} (h0 : 0 ≤ n) (h1 : n < 1000) : (10 : UInt8) ∉ digL n := by
  by_cases a : n < 10
  · rw [digL_small h0 a]; simp [fig_ne10 h0 a]
  by_cases b : n < 100
  · rw [digL_mid (by omega) b]; simp [fig_ne10 (m := n / 10) (by omega) (by omega), fig_ne10 (m := n % 10) (by omega) (by omega)]
  · rw [digL_great (by omega) h1]; simp [fig_ne10 (m := n / 10 / 10) (by omega) (by omega), fig_ne10 (m := n / 10 % 10) (by omega) (by omega), fig_ne10 (m := n % 10) (by omega) (by omega)]
theorem name_line (t : Int) : (10 : UInt8) ∉ (nameB t).data.toList := by
  unfold nameB
  by_cases h1 : t = 1
  · rw [if_pos h1]; decide
  by_cases h2 : t = 2
  · rw [if_neg h1, if_pos h2]; decide
  by_cases h3 : t = 3
  · rw [if_neg h1, if_neg h2, if_pos h3]; decide
  · rw [if_neg h1, if_neg h2, if_neg h3]; decide
theorem text_line {s : Sl} (h : s.ok = true) : (10 : UInt8) ∉ s.text.data.toList := by
  obtain ⟨⟨k0, k1⟩, ⟨a0, a1⟩, ⟨b0, b1⟩, ⟨c0, c1⟩, ⟨d0, d1⟩, ⟨e0, e1⟩⟩ := ok_bounds h
  rw [Sl.text, text_list h]
  have p0 := name_line s.t
  have p1 := digL_line k0 (by omega)
  have p2 := digL_line a0 (by omega)
  have p3 := digL_line b0 (by omega)
  have p4 := digL_line c0 (by omega)
  have p5 := digL_line d0 (by omega)
  have p6 := digL_line e0 (by omega)
  simp only [List.mem_append, List.mem_cons, not_or]
  exact ⟨p0, by decide, p1, by decide, p2, by decide, p3, by decide, p4, by decide, p5, by decide, p6⟩
theorem linesL_head : ∀ (xs : List Sl) (l : List UInt8), linesL l xs = l ++ linesL [] xs
  | [], l => by simp [linesL]
  | s :: xs, l => by
    have h1 := linesL_head xs (l ++ (s.text.data.toList ++ [10]))
    have h2 := linesL_head xs ([] ++ (s.text.data.toList ++ [10]))
    simp only [linesL, List.foldl_cons] at h1 h2 ⊢
    rw [h1, h2]; simp
theorem linesL_cons (s : Sl) (xs : List Sl) : linesL [] (s :: xs) = s.text.data.toList ++ 10 :: linesL [] xs := by
  have h2 := linesL_head xs ([] ++ (s.text.data.toList ++ [10]))
  simp only [linesL, List.foldl_cons] at h2 ⊢
  rw [h2]; simp
theorem seal_text_inj {s u : Sl} (hs : s.ok = true) (hu : u.ok = true) (h : s.text.data.toList = u.text.data.toList) : s = u := by
  have e : s.text = u.text := ByteArray.ext (Array.toList_inj.1 h)
  obtain ⟨h1, h2, h3, h4, h5, h6, h7⟩ := text_inj hs hu e
  cases s; cases u; simp_all
theorem lines_inj : ∀ {xs ys : List Sl}, (∀ s ∈ xs, s.ok = true) → (∀ s ∈ ys, s.ok = true) → linesL [] xs = linesL [] ys → xs = ys
  | [], [], _, _, _ => rfl
  | [], u :: ys, _, _, h => by rw [linesL_cons] at h; simp [linesL] at h
  | s :: xs, [], _, _, h => by rw [linesL_cons] at h; simp [linesL] at h
  | s :: xs, u :: ys, hx, hy, h => by
    rw [linesL_cons, linesL_cons] at h
    have hs := hx s (by simp)
    have hu := hy u (by simp)
    obtain ⟨e1, e2⟩ := cut_at 10 (text_line hs) (text_line hu) h
    rw [seal_text_inj hs hu e1, lines_inj (fun s h => hx s (by simp [h])) (fun s h => hy s (by simp [h])) e2]

/-- Of words in form the texts are the same just if the words are. -/
theorem msgT_inj {m n k f m' n' k' f' : Int} {xs ys : List Sl} (h : msgB m n k f xs = true) (h' : msgB m' n' k' f' ys = true) (hh : msgT m n k f xs = msgT m' n' k' f' ys) :
    m = m' ∧ n = n' ∧ k = k' ∧ f = f' ∧ xs = ys := by
  obtain ⟨⟨m0, m1⟩, ⟨n0, n1⟩, ⟨k0, k1⟩, f0, f1⟩ := msg_bounds h
  obtain ⟨⟨m2, m3⟩, ⟨n2, n3⟩, ⟨k2, k3⟩, f2, f3⟩ := msg_bounds h'
  have hl : linesL (headL m n k f) xs = linesL (headL m' n' k' f') ys := by
    have := congrArg (fun x : ByteArray => x.data.toList) hh
    simpa [msgT, h, h', tB] using this
  rw [linesL_head xs, linesL_head ys, headL, headL] at hl
  simp only [List.append_assoc, List.cons_append, List.nil_append] at hl
  obtain ⟨p0, hl⟩ := cut_at 32 (digL_blank (by omega) (by omega)) (digL_blank (by omega) (by omega)) hl
  obtain ⟨p1, hl⟩ := cut_at 32 (digL_blank n0 (by omega)) (digL_blank n2 (by omega)) hl
  obtain ⟨p2, hl⟩ := cut_at 32 (digL_blank k0 (by omega)) (digL_blank k2 (by omega)) hl
  obtain ⟨p3, hl⟩ := cut_at 10 (digL_line f0 (by omega)) (digL_line f2 (by omega)) hl
  exact ⟨digL_inj (by omega) (by omega) (by omega) (by omega) p0, digL_inj n0 (by omega) n2 (by omega) p1, digL_inj k0 (by omega) k2 (by omega) p2, digL_inj f0 (by omega) f2 (by omega) p3, lines_inj (msg_seals h).2 (msg_seals h').2 hl⟩
theorem msgT_empty {m n k f : Int} {xs : List Sl} : (msgT m n k f xs).data.toList = [] ↔ msgB m n k f xs = false := by
  cases h : msgB m n k f xs
  · simp [msgT, h]
  · simp only [msgT, h, if_true, tB_list]
    rw [linesL_head, headL]; simp

end Go.Proofs.YtopikapamfmalaaGreatDoor
