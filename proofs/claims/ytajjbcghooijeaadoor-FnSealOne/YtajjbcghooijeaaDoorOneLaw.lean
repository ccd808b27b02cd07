/-
  The law that of two seals the texts are the same just if they are, walked: it returns true at whatever two lists of bytes, and nothing that was in memory is turned.
-/
import Derived.Test.YtajjbcghooijeaaDoorOneMath
import Derived.Test.YtajjbcghooijeaaDoorDrawSeal
namespace Go.Proofs.YtajjbcghooijeaaDoor
open Go.RowKit

set_option maxHeartbeats 400000 in
theorem one_long (a1 a2 : Option Addr) (n1 c1 n2 c2 : Nat) (w : World) (h : 1048576 < (n1 : Int) ∨ 1048576 < (n2 : Int)) :
    Calls Tryd.prog 3 #[.slice a1 n1 c1, .slice a2 n2 c2] w fun r w' => r = .returned (.bool true) ∧ Below w.heap.size w w' := by
  by_cases g : 1048576 < (n1 : Int)
  · go_enter Tryd.func3, Tryd.ntmps3
    go_wp2
    go_ret
    exact ⟨rfl, Below.refl _ _⟩
  · have g' : decide (1048576 < (n1 : Int)) = false := by simpa using g
    have h2 : 1048576 < (n2 : Int) := by omega
    go_enter Tryd.func3, Tryd.ntmps3
    go_wp2
    go_ret
    exact ⟨rfl, Below.refl _ _⟩

/-- Of two seals whose texts are not empty: the texts are the same just if the seals are. -/
theorem one_final {k t a b c d e k' t' a' b' c' d' e' : Int} {X Y : ByteArray} (hX : X = textB k t a b c d e) (hY : Y = textB k' t' a' b' c' d' e') (ex : X.toList.isEmpty = false) (ey : Y.toList.isEmpty = false) :
    X.toList = Y.toList ↔ k = k' ∧ t = t' ∧ a = a' ∧ b = b' ∧ c = c' ∧ d = d' ∧ e = e' := by
  subst hX hY
  rw [ByteArray.toList_eq] at ex ey ⊢
  rw [ByteArray.toList_eq]
  have o1 : okB k t a b c d e = true := by
    cases h : okB k t a b c d e
    · rw [text_empty.2 h] at ex; simp at ex
    · rfl
  have o2 : okB k' t' a' b' c' d' e' = true := by
    cases h : okB k' t' a' b' c' d' e'
    · rw [text_empty.2 h] at ey; simp at ey
    · rfl
  constructor
  · intro h
    exact text_inj o1 o2 (ByteArray.ext (Array.toList_inj.1 h))
  · rintro ⟨rfl, rfl, rfl, rfl, rfl, rfl, rfl⟩
    rfl

/-- What is known on the way: two seals in blocks of their own, and the library's table. -/
structure Both (W : World) (B1 B2 : Nat) (o1 o2 : Obj) (w : World) : Prop where
  below : Below W.heap.size W w
  one : w.heap[B1]? = some o1
  two : w.heap[B2]? = some o2
theorem Both.next {W : World} {B1 B2 : Nat} {o1 o2 : Obj} {w w' : World} (h : Both W B1 B2 o1 o2 w) (hb : Below w.heap.size w w') : Both W B1 B2 o1 o2 w' :=
  ⟨h.below.trans (hb.mono h.below.size), (hb.block _ (Array.getElem?_eq_some_iff.1 h.one).1).trans h.one, (hb.block _ (Array.getElem?_eq_some_iff.1 h.two).1).trans h.two⟩

set_option maxHeartbeats 1000000 in
set_option maxRecDepth 100000 in
theorem one_short (a1 a2 : Option Addr) (n1 c1 n2 c2 : Nat) (w : World) (g1 : (n1 : Int) ≤ 1048576) (g2 : (n2 : Int) ≤ 1048576) (h1 : Code w a1 n1 c1) (h2 : Code w a2 n2 c2)
    (htab : Lib.TabIs Tryd.prog w "internal/strconv.uint64pow10" .u64 Lib.pow10Tab) :
    Calls Tryd.prog 3 #[.slice a1 n1 c1, .slice a2 n2 c2] w fun r w' => r = .returned (.bool true) ∧ Below w.heap.size w w' := by
  have HH : Hid (Code w a1 n1 c1 ∧ Code w a2 n2 c2 ∧ Lib.TabIs Tryd.prog w "internal/strconv.uint64pow10" .u64 Lib.pow10Tab) := ⟨h1, h2, htab⟩
  clear h1 h2 htab
  go_enter Tryd.func3, Tryd.ntmps3
  go_wp2_with fail
  refine (drawSealText_any a1 n1 c1 w HH.out.1).mono ?_
  rintro r1 w1 ⟨⟨k, t, a, b, c, d, e, rfl⟩, b1⟩
  have B1 : Hid (Below w.heap.size w w1) := b1
  have s1 : w.heap.size ≤ w1.heap.size := b1.size
  clear b1
  go_wp2_with fail
  refine (drawSealText_any a2 n2 c2 _ (HH.out.2.1.below (B1.out.alloc s1 _))).mono ?_
  rintro r2 w2 ⟨⟨k', t', a', b', c', d', e', rfl⟩, b2⟩
  have s2 : w1.heap.size < w2.heap.size := by have := b2.size; simp at this; omega
  have D2 : Hid (Both w w1.heap.size w2.heap.size (.cells #[.int .i64 k, .int .i64 t, .int .i64 a, .int .i64 b, .int .i64 c, .int .i64 d, .int .i64 e] 24 (0, 0)) (.cells #[.int .i64 k', .int .i64 t', .int .i64 a', .int .i64 b', .int .i64 c', .int .i64 d', .int .i64 e'] 24 (0, 0)) (w2.alloc (.cells #[.int .i64 k', .int .i64 t', .int .i64 a', .int .i64 b', .int .i64 c', .int .i64 d', .int .i64 e'] 24))) :=
    ⟨((B1.out.alloc s1 _).trans (b2.mono (by simp; omega))).alloc (by omega) _, (Below.heap_alloc w2 _ _ s2).trans ((b2.block _ (by simp)).trans (heap_alloc_new w1 _)), heap_alloc_new w2 _⟩
  obtain ⟨p0, p1, p2, p3, p4, p5, p6, pf⟩ := cells7 ((b2.block w1.heap.size (by simp)).trans (heap_alloc_new w1 _))
  clear b2 B1
  obtain ⟨X, hX⟩ : ∃ X, X = textB k t a b c d e := ⟨_, rfl⟩
  obtain ⟨Y, hY⟩ : ∃ Y, Y = textB k' t' a' b' c' d' e' := ⟨_, rfl⟩
  have IX : Hid (∀ w', Below w.heap.size w w' → Calls Tryd.prog 8 #[.agg #[.int .i64 k, .int .i64 t, .int .i64 a, .int .i64 b, .int .i64 c, .int .i64 d, .int .i64 e]] w' fun r w'' => r = .returned (.string X) ∧ Below w'.heap.size w' w'') := fun w' hb => by rw [hX]; exact implText_any k t a b c d e w' (Joins.tab_stays gPow HH.out.2.2 hb (Nat.le_refl _))
  have IY : Hid (∀ w', Below w.heap.size w w' → Calls Tryd.prog 8 #[.agg #[.int .i64 k', .int .i64 t', .int .i64 a', .int .i64 b', .int .i64 c', .int .i64 d', .int .i64 e']] w' fun r w'' => r = .returned (.string Y) ∧ Below w'.heap.size w' w'') := fun w' hb => by rw [hY]; exact implText_any k' t' a' b' c' d' e' w' (Joins.tab_stays gPow HH.out.2.2 hb (Nat.le_refl _))
  have SX : Hid (∀ w', Calls Tryd.prog 9 #[.agg #[.int .i64 k, .int .i64 t, .int .i64 a, .int .i64 b, .int .i64 c, .int .i64 d, .int .i64 e]] w' fun r w'' => r = .returned (.string X) ∧ Below w'.heap.size w' w'') := fun w' => by rw [hX]; exact specText_any k t a b c d e w'
  have SY : Hid (∀ w', Calls Tryd.prog 9 #[.agg #[.int .i64 k', .int .i64 t', .int .i64 a', .int .i64 b', .int .i64 c', .int .i64 d', .int .i64 e']] w' fun r w'' => r = .returned (.string Y) ∧ Below w'.heap.size w' w'') := fun w' => by rw [hY]; exact specText_any k' t' a' b' c' d' e' w'
  have EQ : Hid (X = textB k t a b c d e ∧ Y = textB k' t' a' b' c' d' e') := ⟨hX, hY⟩
  clear hX hY HH
  go_wp2_with fail
  refine (IX.out _ D2.out.below).mono ?_
  rintro r3 w3 ⟨rfl, b3⟩
  have D3 : Hid (Both w w1.heap.size w2.heap.size (.cells #[.int .i64 k, .int .i64 t, .int .i64 a, .int .i64 b, .int .i64 c, .int .i64 d, .int .i64 e] 24 (0, 0)) (.cells #[.int .i64 k', .int .i64 t', .int .i64 a', .int .i64 b', .int .i64 c', .int .i64 d', .int .i64 e'] 24 (0, 0)) w3) := D2.out.next b3
  clear b3 p0 p1 p2 p3 p4 p5 p6 pf D2
  obtain ⟨q0, q1, q2, q3, q4, q5, q6, qf⟩ := cells7 D3.out.two
  go_wp2_with fail
  refine (IY.out _ D3.out.below).mono ?_
  rintro r4 w4 ⟨rfl, b4⟩
  have D4 : Hid (Both w w1.heap.size w2.heap.size (.cells #[.int .i64 k, .int .i64 t, .int .i64 a, .int .i64 b, .int .i64 c, .int .i64 d, .int .i64 e] 24 (0, 0)) (.cells #[.int .i64 k', .int .i64 t', .int .i64 a', .int .i64 b', .int .i64 c', .int .i64 d', .int .i64 e'] 24 (0, 0)) w4) := D3.out.next b4
  clear b4 q0 q1 q2 q3 q4 q5 q6 qf D3
  obtain ⟨p0, p1, p2, p3, p4, p5, p6, pf⟩ := cells7 D4.out.one
  go_wp2_with fail
  refine (SX.out _).mono ?_
  rintro r5 w5 ⟨rfl, b5⟩
  have D5 : Hid (Both w w1.heap.size w2.heap.size (.cells #[.int .i64 k, .int .i64 t, .int .i64 a, .int .i64 b, .int .i64 c, .int .i64 d, .int .i64 e] 24 (0, 0)) (.cells #[.int .i64 k', .int .i64 t', .int .i64 a', .int .i64 b', .int .i64 c', .int .i64 d', .int .i64 e'] 24 (0, 0)) w5) := D4.out.next b5
  clear b5 p0 p1 p2 p3 p4 p5 p6 pf D4
  obtain ⟨q0, q1, q2, q3, q4, q5, q6, qf⟩ := cells7 D5.out.two
  go_wp2_with fail
  refine (SY.out _).mono ?_
  rintro r6 w6 ⟨rfl, b6⟩
  have D6 : Hid (Both w w1.heap.size w2.heap.size (.cells #[.int .i64 k, .int .i64 t, .int .i64 a, .int .i64 b, .int .i64 c, .int .i64 d, .int .i64 e] 24 (0, 0)) (.cells #[.int .i64 k', .int .i64 t', .int .i64 a', .int .i64 b', .int .i64 c', .int .i64 d', .int .i64 e'] 24 (0, 0)) w6) := D5.out.next b6
  clear b6 q0 q1 q2 q3 q4 q5 q6 qf D5
  obtain ⟨p0, p1, p2, p3, p4, p5, p6, pf⟩ := cells7 D6.out.one
  obtain ⟨q0, q1, q2, q3, q4, q5, q6, qf⟩ := cells7 D6.out.two
  have HF := one_final EQ.out.1 EQ.out.2
  have HF' : Hid (X.toList.isEmpty = false → Y.toList.isEmpty = false → (X.toList = Y.toList ↔ k = k' ∧ t = t' ∧ a = a' ∧ b = b' ∧ c = c' ∧ d = d' ∧ e = e')) := HF
  clear HF EQ IX IY
  cases ex : X.toList.isEmpty
  cases ey : Y.toList.isEmpty
  · have HG : Hid (X.toList = Y.toList ↔ k = k' ∧ t = t' ∧ a = a' ∧ b = b' ∧ c = c' ∧ d = d' ∧ e = e') := HF'.out ex ey
    clear HF' SX SY
    go_wp2_with fail
    all_goals go_ret
    all_goals
      have hg := HG.out
      refine ⟨ret_bool ?_, D6.out.below⟩
      simp_all
  · have ex' : ¬ X.toList = [] := by intro h; rw [h] at ex; simp at ex
    go_wp2_with fail
    refine (SX.out _).mono ?_
    rintro r7 w7 ⟨rfl, b7⟩
    have D7 : Hid (Both w w1.heap.size w2.heap.size (.cells #[.int .i64 k, .int .i64 t, .int .i64 a, .int .i64 b, .int .i64 c, .int .i64 d, .int .i64 e] 24 (0, 0)) (.cells #[.int .i64 k', .int .i64 t', .int .i64 a', .int .i64 b', .int .i64 c', .int .i64 d', .int .i64 e'] 24 (0, 0)) w7) := D6.out.next b7
    clear b7 p0 p1 p2 p3 p4 p5 p6 pf q0 q1 q2 q3 q4 q5 q6 qf D6
    obtain ⟨q0, q1, q2, q3, q4, q5, q6, qf⟩ := cells7 D7.out.two
    go_wp2_with fail
    refine (SY.out _).mono ?_
    rintro r8 w8 ⟨rfl, b8⟩
    have D8 : Hid (Below w.heap.size w w8) := (D7.out.next b8).below
    clear b8 q0 q1 q2 q3 q4 q5 q6 qf D7
    go_wp2_with fail
    go_ret
    exact ⟨ret_bool (by simp), D8.out⟩
  · have ex' : X.toList = [] := by simpa using ex
    go_wp2_with fail
    refine (SX.out _).mono ?_
    rintro r7 w7 ⟨rfl, b7⟩
    have D7 : Hid (Both w w1.heap.size w2.heap.size (.cells #[.int .i64 k, .int .i64 t, .int .i64 a, .int .i64 b, .int .i64 c, .int .i64 d, .int .i64 e] 24 (0, 0)) (.cells #[.int .i64 k', .int .i64 t', .int .i64 a', .int .i64 b', .int .i64 c', .int .i64 d', .int .i64 e'] 24 (0, 0)) w7) := D6.out.next b7
    clear b7 p0 p1 p2 p3 p4 p5 p6 pf q0 q1 q2 q3 q4 q5 q6 qf D6
    obtain ⟨q0, q1, q2, q3, q4, q5, q6, qf⟩ := cells7 D7.out.two
    go_wp2_with fail
    refine (SY.out _).mono ?_
    rintro r8 w8 ⟨rfl, b8⟩
    have D8 : Hid (Below w.heap.size w w8) := (D7.out.next b8).below
    clear b8 q0 q1 q2 q3 q4 q5 q6 qf D7
    go_wp2_with fail
    go_ret
    exact ⟨ret_bool (by simp), D8.out⟩

end Go.Proofs.YtajjbcghooijeaaDoor
