/-
  The lines of a word's text are read as that word: as plain mathematics. Nothing of the program is walked here.
-/
import Derived.Test.YtopikapamfmalaaGreatDoorMsgCutMath
import Derived.Test.YtopikapamfmalaaGreatDoorReadLines
import Derived.Test.YtopikapamfmalaaGreatDoorReadMath
import Derived.Lib.SplitLaws
namespace Go.Proofs.YtopikapamfmalaaGreatDoor

theorem index_nl : ∀ (l r : List UInt8), (10 : UInt8) ∉ l → Lib.indexByte (l ++ 10 :: r) 10 = l.length
  | [], r, _ => by simp [Lib.indexByte]
  | a :: l, r, h => by
    have h1 : ¬ (a == 10) = true := fun e => h (by rw [beq_iff_eq.1 e]; simp)
    have ih := index_nl l r (fun e => h (List.mem_cons_of_mem _ e))
    rw [List.cons_append, Lib.indexByte, if_neg h1, ih, if_neg (by simp)]
    simp
theorem nl_cut {l r : List UInt8} (h : (10 : UInt8) ∉ l) : Lib.cut (l ++ 10 :: r) [10] = (l, r, true) := by
  unfold Lib.cut
  rw [Lib.index_one, index_nl l r h, if_pos (by omega)]
  simp
theorem lns_same {n : Nat} {s1 s2 : ByteArray} (e : s1 = s2) (h1 : s1.size ≤ 200) (h2 : s2.size ≤ 200) : lns n s1 h1 = lns n s2 h2 := by subst e; rfl
theorem lns_step {n : Nat} {s : ByteArray} (hs : s.size ≤ 200) {l r : List UInt8} (h : (10 : UInt8) ∉ l) (e : s.data.toList = l ++ 10 :: r) (hl : (tB l).size ≤ 200) (hr : (tB r).size ≤ 200) : lns (n + 1) s hs = (⟨tB l, hl⟩, false) :: lns n (tB r) hr := by
  have hc : Lib.cut s.data.toList [10] = (l, r, true) := by rw [e]; exact nl_cut h
  have hn : ¬ s.data.toList = [] := by rw [e]; simp
  have e1 : (Lib.cut s.data.toList [10]).2.2 = true := by rw [hc]
  have e2 : (⟨(Lib.cut s.data.toList [10]).1.toArray⟩ : ByteArray) = tB l := by rw [hc]; rfl
  have e3 : (⟨(Lib.cut s.data.toList [10]).2.1.toArray⟩ : ByteArray) = tB r := by rw [hc]; rfl
  rw [lns, if_neg hn, if_pos e1]
  rw [lns_same e3 _ hr]
  congr 1
  exact Prod.ext (Subtype.ext e2) rfl
theorem lns_none (n : Nat) (h : (tB []).size ≤ 200) : lns (n + 1) (tB []) h = [] := by rw [lns, if_pos (show (tB []).data.toList = [] from rfl)]
theorem sln_lines : ∀ {xs : List Sl} {n : Nat} (hs : (tB (linesL [] xs)).size ≤ 200), (∀ s ∈ xs, s.ok = true) → xs.length < n → SLn (lns n (tB (linesL [] xs)) hs) xs
  | [], n + 1, hs, _, _ => by rw [show lns (n + 1) (tB (linesL [] [])) hs = [] from lns_none n hs]; trivial
  | s :: xs, n + 1, hs, ho, hn => by
    have hsz : (tB (linesL [] (s :: xs))).size = s.text.data.toList.length + (1 + (linesL [] xs).length) := by
      rw [tB_size, linesL_cons, List.length_append, List.length_cons]; omega
    have hr : (tB (linesL [] xs)).size ≤ 200 := by rw [tB_size]; omega
    have hl : (tB s.text.data.toList).size ≤ 200 := by rw [tB_size]; omega
    rw [lns_step hs (text_line (ho s (List.mem_cons_self ..))) (by rw [tB_list, linesL_cons]) hl hr]
    refine ⟨⟨rfl, ?_⟩, sln_lines hr (fun u hu => ho u (List.mem_cons_of_mem _ hu)) (by simp only [List.length_cons] at hn; omega)⟩
    exact par_of (ho s (List.mem_cons_self ..))

theorem par_one {s : ByteArray} {u v : Sl} (h : Par s u.k u.t u.a u.b u.c u.d u.e) (h' : Par s v.k v.t v.a v.b v.c v.d v.e) : u = v := by
  obtain ⟨_, _, _, _, _, _, _, _, _, _, _, _, _, _, _, ho, ht⟩ := h
  obtain ⟨_, _, _, _, _, _, _, _, _, _, _, _, _, _, _, ho', ht'⟩ := h'
  exact seal_text_inj ho ho' (by show (textB u.k u.t u.a u.b u.c u.d u.e).data.toList = (textB v.k v.t v.a v.b v.c v.d v.e).data.toList; rw [ht, ht'])
theorem sln_one {t : List Ln} : ∀ {xs ys : List Sl}, SLn t xs → SLn t ys → xs = ys := by
  induction t with
  | nil => intro xs ys h h'; cases xs with
    | nil => cases ys with
      | nil => rfl
      | cons => exact h'.elim
    | cons => exact h.elim
  | cons y t ih => intro xs ys h h'; cases xs with
    | nil => exact h.elim
    | cons u xs => cases ys with
      | nil => exact h'.elim
      | cons v ys => rw [par_one h.1.2 h'.1.2, ih h.2 h'.2]
theorem nums_one {s : ByteArray} {m n k f m' n' k' f' : Int} (h : Nums s m n k f) (h' : Nums s m' n' k' f') : m = m' ∧ n = n' ∧ k = k' ∧ f = f' := by
  obtain ⟨q0, q1, q2, q3, e, a0, a1, a2, a3⟩ := h
  obtain ⟨r0, r1, r2, r3, e', b0, b1, b2, b3⟩ := h'
  rw [e] at e'
  injection e' with e0 e'
  injection e' with e1 e'
  injection e' with e2 e'
  injection e' with e3 _
  subst e0 e1 e2 e3
  rw [a0] at b0; rw [a1] at b1; rw [a2] at b2; rw [a3] at b3
  injection b0 with b0; injection b1 with b1; injection b2 with b2; injection b3 with b3
  exact ⟨b0, b1, b2, b3⟩
/-- Lines are read as one word. -/
theorem wrd_one {p : List Ln} {m n k f m' n' k' f' : Int} {xs ys : List Sl} (h : Wrd p m n k f xs) (h' : Wrd p m' n' k' f' ys) : m = m' ∧ n = n' ∧ k = k' ∧ f = f' ∧ xs = ys := by
  rcases h with ⟨rfl, rfl, rfl, rfl, rfl, rfl⟩ | ⟨x, t, rfl, _, h1, h2⟩
  · rcases h' with ⟨_, rfl, rfl, rfl, rfl, rfl⟩ | ⟨x, t, e, _⟩
    · exact ⟨rfl, rfl, rfl, rfl, rfl⟩
    · cases e
  · rcases h' with ⟨e, _⟩ | ⟨x', t', e, _, h3, h4⟩
    · cases e
    · injection e with e1 e2
      subst e1 e2
      obtain ⟨a, b, c, d⟩ := nums_one h1 h3
      exact ⟨a, b, c, d, sln_one h2 h4⟩

/-- A word's first line, without its newline. -/
def headN (m n k f : Int) : List UInt8 := digL m ++ 32 :: (digL n ++ 32 :: (digL k ++ 32 :: digL f))
theorem headL_N (m n k f : Int) : headL m n k f = headN m n k f ++ [10] := by simp [headL, headN]
theorem headN_line {m n k f : Int} {xs : List Sl} (h : msgB m n k f xs = true) : (10 : UInt8) ∉ headN m n k f := by
  obtain ⟨⟨hm0, hm1⟩, ⟨hn0, hn1⟩, ⟨hk0, hk1⟩, ⟨hf0, hf1⟩⟩ := msg_bounds h
  have c1 := digL_line (n := m) (by omega) (by omega)
  have c2 := digL_line (n := n) (by omega) (by omega)
  have c3 := digL_line (n := k) (by omega) (by omega)
  have c4 := digL_line (n := f) (by omega) (by omega)
  intro hh
  simp only [headN, List.mem_append, List.mem_cons] at hh
  rcases hh with hh | hh | hh | hh | hh | hh | hh
  · exact c1 hh
  · cases hh
  · exact c2 hh
  · cases hh
  · exact c3 hh
  · cases hh
  · exact c4 hh
theorem nums_of {m n k f : Int} {xs : List Sl} (h : msgB m n k f xs = true) : Nums (tB (headN m n k f)) m n k f := by
  obtain ⟨⟨hm0, hm1⟩, ⟨hn0, hn1⟩, ⟨hk0, hk1⟩, ⟨hf0, hf1⟩⟩ := msg_bounds h
  have b1 := digL_blank (n := m) (by omega) (by omega)
  have b2 := digL_blank (n := n) (by omega) (by omega)
  have b3 := digL_blank (n := k) (by omega) (by omega)
  have b4 := digL_blank (n := f) (by omega) (by omega)
  have hc : Lib.countB (tB (headN m n k f)) ⟨#[32]⟩ = 3 := by
    show Lib.count (headN m n k f) [32] = 3
    rw [Lib.count_one, headN]
    simp only [List.count_append, List.count_cons, List.count_eq_zero.2 b1, List.count_eq_zero.2 b2, List.count_eq_zero.2 b3, List.count_eq_zero.2 b4]
    decide
  refine ⟨decB m, decB n, decB k, decB f, ?_, atoi_back (by omega) (by omega), atoi_back (by omega) (by omega), atoi_back (by omega) (by omega), atoi_back (by omega) (by omega)⟩
  have hm : (wordsB (tB (headN m n k f))).map (·.data.toList) = ([decB m, decB n, decB k, decB f] : List ByteArray).map (·.data.toList) := by
    rw [wordsB, hc, Lib.splitB_data, tB_list]
    show Lib.splitK [32] 0 3 _ = _
    rw [headN, split_at _ _ _ b1, split_at _ _ _ b2, split_at _ _ _ b3]
    rfl
  exact (List.map_inj_right (fun x y hxy => ByteArray.ext (Array.toList_inj.1 hxy))).1 hm
/-- A word's own text is read as that word. -/
theorem wrd_of {m n k f : Int} {xs : List Sl} (h : msgB m n k f xs = true) (hs : (msgT m n k f xs).size ≤ 200) : Wrd (lns 201 (msgT m n k f xs) hs) m n k f xs := by
  have e : (msgT m n k f xs).data.toList = headN m n k f ++ 10 :: linesL [] xs := by rw [msgT_list h, headL_N, List.append_assoc]; rfl
  have hz : (headN m n k f).length + (1 + (linesL [] xs).length) ≤ 200 := by
    have := congrArg List.length e
    rw [len_size, List.length_append, List.length_cons] at this
    omega
  have hl : (tB (headN m n k f)).size ≤ 200 := by rw [tB_size]; omega
  have hr : (tB (linesL [] xs)).size ≤ 200 := by rw [tB_size]; omega
  rw [lns_step hs (headN_line h) e hl hr]
  exact .inr ⟨_, _, rfl, rfl, nums_of h, sln_lines hr (msg_seals h).2 (by have := (msg_seals h).1; omega)⟩

end Go.Proofs.YtopikapamfmalaaGreatDoor
