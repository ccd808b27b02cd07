/-
  The law that what is cut is no seal, walked: it returns true at whatever list of bytes, and nothing that was in memory is turned.
-/
import Derived.Test.YtagbjbpkkdbpbaaDoorCutMath
import Derived.Test.YtagbjbpkkdbpbaaDoorDrawText
import Derived.Test.YtagbjbpkkdbpbaaDoorBlocks
namespace Go.Proofs.YtagbjbpkkdbpbaaDoor
open Go.RowKit

set_option maxHeartbeats 400000 in
theorem cut_long (a1 : Option Addr) (n1 c1 : Nat) (w : World) (h : 1048576 < (n1 : Int)) :
    Calls Tryd.prog 4 #[.slice a1 n1 c1] w fun r w' => r = .returned (.bool true) ∧ Below w.heap.size w w' := by
  go_enter Tryd.func4, Tryd.ntmps4
  go_wp2
  go_ret
  exact ⟨rfl, Below.refl _ _⟩

set_option maxHeartbeats 1000000 in
set_option maxRecDepth 100000 in
theorem cut_short (a1 : Option Addr) (n1 c1 : Nat) (w : World) (g1 : (n1 : Int) ≤ 1048576) (h1 : Code w a1 n1 c1) (hl : Lb w) :
    Calls Tryd.prog 4 #[.slice a1 n1 c1] w fun r w' => r = .returned (.bool true) ∧ Below w.heap.size w w' := by
  have HH : Hid (Code w a1 n1 c1 ∧ Lb w) := ⟨h1, hl⟩
  clear h1 hl
  go_enter Tryd.func4, Tryd.ntmps4
  go_wp2_with fail
  refine (drawSealText_any a1 n1 c1 w HH.out.1).mono ?_
  rintro r1 w1 ⟨⟨k, t, a, b, c, d, e, rfl⟩, b1⟩
  have s1 : w.heap.size ≤ w1.heap.size := b1.size
  have D1 : Hid (Ones w w1.heap.size (.cells #[.int .i64 k, .int .i64 t, .int .i64 a, .int .i64 b, .int .i64 c, .int .i64 d, .int .i64 e] 23 (0, 0)) (w1.alloc (.cells #[.int .i64 k, .int .i64 t, .int .i64 a, .int .i64 b, .int .i64 c, .int .i64 d, .int .i64 e] 23))) := ⟨b1.alloc s1 _, heap_alloc_new w1 _⟩
  clear b1
  obtain ⟨X, hX⟩ : ∃ X, X = textB k t a b c d e := ⟨_, rfl⟩
  have SX : Hid (∀ w', Calls Tryd.prog 12 #[.agg #[.int .i64 k, .int .i64 t, .int .i64 a, .int .i64 b, .int .i64 c, .int .i64 d, .int .i64 e]] w' fun r w'' => r = .returned (.string X) ∧ Below w'.heap.size w' w'') := fun w' => by rw [hX]; exact specText_any k t a b c d e w'
  have HX : Hid (X = textB k t a b c d e) := hX
  go_wp2_with fail
  refine (read_text hX (HH.out.2.below D1.out.below).tab).mono ?_
  rintro r2 w2 ⟨rfl, b2⟩
  have D2 : Hid (Ones w w1.heap.size (.cells #[.int .i64 k, .int .i64 t, .int .i64 a, .int .i64 b, .int .i64 c, .int .i64 d, .int .i64 e] 23 (0, 0)) w2) := D1.out.next b2
  clear b2 D1 hX
  obtain ⟨p0, p1, p2, p3, p4, p5, p6, pf⟩ := cells7 D2.out.one
  go_wp2_with fail
  refine (SX.out _).mono ?_
  rintro r3 w3 ⟨rfl, b3⟩
  have D3 : Hid (Ones w w1.heap.size (.cells #[.int .i64 k, .int .i64 t, .int .i64 a, .int .i64 b, .int .i64 c, .int .i64 d, .int .i64 e] 23 (0, 0)) w3) := D2.out.next b3
  clear b3 D2 p0 p1 p2 p3 p4 p5 p6 pf
  obtain ⟨p0, p1, p2, p3, p4, p5, p6, pf⟩ := cells7 D3.out.one
  cases ex : X.toList.isEmpty
  · have hx0 := HX.out
    have ho : okB k t a b c d e = true := by
      cases h : okB k t a b c d e
      · rw [ByteArray.toList_eq, hx0, text_empty.2 h] at ex; simp at ex
      · rfl
    have hsz := text_size ho
    rw [← hx0] at hsz
    have hs1 : X.size ≤ 100 := hsz.1
    have hs2 : 0 < X.size := hsz.2
    have hs3 : (0 : Int) < (X.size : Int) := by omega
    have HO : Hid (okB k t a b c d e = true) := ho
    clear hsz hx0 ho
    clear SX
    go_wp2_with fail
    refine (read_any _ (by simp [ByteArray.size_extract]; omega) _ (HH.out.2.below D3.out.below)).mono ?_
    rintro r4 w4 ⟨⟨k1, t1, a1', b1, c1', d1, e1, o1, rfl, y1, _⟩, b4⟩
    have D4 : Hid (Pair w w1.heap.size w4.heap.size (.cells #[.int .i64 k, .int .i64 t, .int .i64 a, .int .i64 b, .int .i64 c, .int .i64 d, .int .i64 e] 23 (0, 0)) (.cells #[.int .i64 k1, .int .i64 t1, .int .i64 a1', .int .i64 b1, .int .i64 c1', .int .i64 d1, .int .i64 e1] 23 (0, 0)) (w4.alloc (.cells #[.int .i64 k1, .int .i64 t1, .int .i64 a1', .int .i64 b1, .int .i64 c1', .int .i64 d1, .int .i64 e1] 23))) := (D3.out.next b4).pair
    have Y1 : Hid (o1 = true → ¬ (k1 = k ∧ t1 = t ∧ a1' = a ∧ b1 = b ∧ c1' = c ∧ d1 = d ∧ e1 = e)) := fun h => cut_last HX.out HO.out (y1 h)
    clear b4 D3 p0 p1 p2 p3 p4 p5 p6 pf y1
    go_wp2_with fail
    refine (read_any _ (by simp [ByteArray.size_extract]; omega) _ (HH.out.2.below D4.out.below)).mono ?_
    rintro r5 w5 ⟨⟨k2, t2, a2', b2, c2', d2, e2, o2, rfl, y2, _⟩, b5⟩
    have ho2 : o2 = false := by
      cases o2
      · rfl
      · exact absurd (y2 rfl) (cut_first HX.out HO.out _ _ _ _ _ _ _)
    subst ho2
    have D5 : Hid (Pair w w1.heap.size w4.heap.size (.cells #[.int .i64 k, .int .i64 t, .int .i64 a, .int .i64 b, .int .i64 c, .int .i64 d, .int .i64 e] 23 (0, 0)) (.cells #[.int .i64 k1, .int .i64 t1, .int .i64 a1', .int .i64 b1, .int .i64 c1', .int .i64 d1, .int .i64 e1] 23 (0, 0)) w5) := D4.out.next b5
    clear b5 D4 y2
    go_wp2_with fail
    refine (read_any _ (by rw [ByteArray.size_append, size1]; omega) _ (HH.out.2.below (D5.out.below.alloc D5.out.below.size _))).mono ?_
    rintro r6 w6 ⟨⟨k3, t3, a3', b3, c3', d3, e3, o3, rfl, y3, _⟩, b6⟩
    have ho3 : o3 = false := by
      cases o3
      · rfl
      · exact absurd (y3 rfl) (cut_more HX.out HO.out _ _ _ _ _ _ _)
    subst ho3
    have D6 : Hid (Pair w w1.heap.size w4.heap.size (.cells #[.int .i64 k, .int .i64 t, .int .i64 a, .int .i64 b, .int .i64 c, .int .i64 d, .int .i64 e] 23 (0, 0)) (.cells #[.int .i64 k1, .int .i64 t1, .int .i64 a1', .int .i64 b1, .int .i64 c1', .int .i64 d1, .int .i64 e1] 23 (0, 0)) w6) := (D5.out.alloc _).next b6
    clear b6 D5 y3
    obtain ⟨p0, p1, p2, p3, p4, p5, p6, pf⟩ := cells7 D6.out.one
    obtain ⟨q0, q1, q2, q3, q4, q5, q6, qf⟩ := cells7 D6.out.two
    have hlt1 : w1.heap.size < w6.heap.size := (Array.getElem?_eq_some_iff.1 D6.out.one).1
    have hlt4 : w4.heap.size < w6.heap.size := (Array.getElem?_eq_some_iff.1 D6.out.two).1
    cases o1
    · go_wp2_with fail
      go_ret
      exact ⟨rfl, D6.out.below.alloc D6.out.below.size _⟩
    · have Y2 : Hid (¬ (k1 = k ∧ t1 = t ∧ a1' = a ∧ b1 = b ∧ c1' = c ∧ d1 = d ∧ e1 = e)) := Y1.out rfl
      clear Y1
      go_wp2_with fail
      all_goals go_ret
      all_goals first | exact ⟨rfl, D6.out.below.alloc D6.out.below.size _⟩ | (exfalso; have y := Y2.out; simp_all)
  · go_wp2_with fail
    refine (SX.out _).mono ?_
    rintro r4 w4 ⟨rfl, b4⟩
    have D4 : Hid (Below w.heap.size w w4) := (D3.out.next b4).below
    clear b4 p0 p1 p2 p3 p4 p5 p6 pf D3
    go_wp2_with fail
    go_ret
    exact ⟨ret_bool (by simp), D4.out⟩

end Go.Proofs.YtagbjbpkkdbpbaaDoor
