/-
  The law that a seal is read back from its text, walked: it returns true at whatever list of bytes, and nothing that was in memory is turned.
-/
import Derived.Test.YtagbjbpkkdbpbaaDoorReadMath
import Derived.Test.YtagbjbpkkdbpbaaDoorDrawText
import Derived.Test.YtagbjbpkkdbpbaaDoorBlocks
namespace Go.Proofs.YtagbjbpkkdbpbaaDoor
open Go.RowKit

theorem back_same {X : ByteArray} {k t a b c d e k' t' a' b' c' d' e' : Int} {ok' : Bool} (hX : X = textB k t a b c d e) (ho : okB k t a b c d e = true)
    (y' : ok' = true → Par X k' t' a' b' c' d' e') (n' : ok' = false → k' = 0 ∧ t' = 0 ∧ a' = 0 ∧ b' = 0 ∧ c' = 0 ∧ d' = 0 ∧ e' = 0 ∧ ∀ k t a b c d e, ¬ Par X k t a b c d e) :
    ok' = true ∧ k' = k ∧ t' = t ∧ a' = a ∧ b' = b ∧ c' = c ∧ d' = d ∧ e' = e := by
  cases ok'
  · obtain ⟨_, _, _, _, _, _, _, hno⟩ := n' rfl
    exact absurd (hX ▸ par_of ho) (hno _ _ _ _ _ _ _)
  · obtain ⟨_, _, _, _, _, _, _, _, _, _, _, _, _, _, _, ho', ht'⟩ := y' rfl
    obtain ⟨rfl, rfl, rfl, rfl, rfl, rfl, rfl⟩ := text_inj ho' ho (ht'.trans hX)
    exact ⟨rfl, rfl, rfl, rfl, rfl, rfl, rfl, rfl⟩

set_option maxHeartbeats 400000 in
theorem back_long (a1 : Option Addr) (n1 c1 : Nat) (w : World) (h : 1048576 < (n1 : Int)) :
    Calls Tryd.prog 5 #[.slice a1 n1 c1] w fun r w' => r = .returned (.bool true) ∧ Below w.heap.size w w' := by
  go_enter Tryd.func5, Tryd.ntmps5
  go_wp2
  go_ret
  exact ⟨rfl, Below.refl _ _⟩

set_option maxHeartbeats 1000000 in
set_option maxRecDepth 100000 in
theorem back_short (a1 : Option Addr) (n1 c1 : Nat) (w : World) (g1 : (n1 : Int) ≤ 1048576) (h1 : Code w a1 n1 c1) (hl : Lb w) :
    Calls Tryd.prog 5 #[.slice a1 n1 c1] w fun r w' => r = .returned (.bool true) ∧ Below w.heap.size w w' := by
  have HH : Hid (Code w a1 n1 c1 ∧ Lb w) := ⟨h1, hl⟩
  clear h1 hl
  go_enter Tryd.func5, Tryd.ntmps5
  go_wp2_with fail
  refine (drawSealText_any a1 n1 c1 w HH.out.1).mono ?_
  rintro r1 w1 ⟨⟨k, t, a, b, c, d, e, rfl⟩, b1⟩
  have D1 : Hid (Ones w w1.heap.size (.cells #[.int .i64 k, .int .i64 t, .int .i64 a, .int .i64 b, .int .i64 c, .int .i64 d, .int .i64 e] 23 (0, 0)) (w1.alloc (.cells #[.int .i64 k, .int .i64 t, .int .i64 a, .int .i64 b, .int .i64 c, .int .i64 d, .int .i64 e] 23))) := ⟨b1.alloc b1.size _, heap_alloc_new w1 _⟩
  clear b1
  obtain ⟨X, hX⟩ : ∃ X, X = textB k t a b c d e := ⟨_, rfl⟩
  have SX : Hid (∀ w', Calls Tryd.prog 12 #[.agg #[.int .i64 k, .int .i64 t, .int .i64 a, .int .i64 b, .int .i64 c, .int .i64 d, .int .i64 e]] w' fun r w'' => r = .returned (.string X) ∧ Below w'.heap.size w' w'') := fun w' => by rw [hX]; exact specText_any k t a b c d e w'
  have HX : Hid (X = textB k t a b c d e) := hX
  go_wp2_with fail
  refine (read_text hX (HH.out.2.below D1.out.below).tab).mono ?_
  rintro r2 w2 ⟨rfl, b2⟩
  have D2 : Hid (Ones w w1.heap.size (.cells #[.int .i64 k, .int .i64 t, .int .i64 a, .int .i64 b, .int .i64 c, .int .i64 d, .int .i64 e] 23 (0, 0)) w2) := D1.out.next b2
  clear b2 D1 hX
  obtain ⟨p0, p1, p2, p3, p4, p5, p6, pf⟩ := cells7 D2.out.one
  go_wp2_with fail
  refine (SX.out _).mono ?_
  rintro r3 w3 ⟨rfl, b3⟩
  have D3 : Hid (Ones w w1.heap.size (.cells #[.int .i64 k, .int .i64 t, .int .i64 a, .int .i64 b, .int .i64 c, .int .i64 d, .int .i64 e] 23 (0, 0)) w3) := D2.out.next b3
  clear b3 D2 p0 p1 p2 p3 p4 p5 p6 pf
  obtain ⟨p0, p1, p2, p3, p4, p5, p6, pf⟩ := cells7 D3.out.one
  cases ex : X.toList.isEmpty
  · have ho : okB k t a b c d e = true := by
      cases h : okB k t a b c d e
      · rw [ByteArray.toList_eq, HX.out, text_empty.2 h] at ex; simp at ex
      · rfl
    have hsz : X.size ≤ 60 := by rw [HX.out]; exact (text_60 ho).1
    have HO : Hid (okB k t a b c d e = true) := ho
    clear ho SX
    go_wp2_with fail
    refine (read_any X (by omega) _ (HH.out.2.below D3.out.below)).mono ?_
    rintro r4 w4 ⟨⟨k1, t1, a1', b1, c1', d1, e1, o1, rfl, y1, n1'⟩, b4⟩
    obtain ⟨rfl, rfl, rfl, rfl, rfl, rfl, rfl, rfl⟩ := back_same HX.out HO.out y1 n1'
    have D4 : Hid (Pair w w1.heap.size w4.heap.size (.cells #[.int .i64 k1, .int .i64 t1, .int .i64 a1', .int .i64 b1, .int .i64 c1', .int .i64 d1, .int .i64 e1] 23 (0, 0)) (.cells #[.int .i64 k1, .int .i64 t1, .int .i64 a1', .int .i64 b1, .int .i64 c1', .int .i64 d1, .int .i64 e1] 23 (0, 0)) (w4.alloc (.cells #[.int .i64 k1, .int .i64 t1, .int .i64 a1', .int .i64 b1, .int .i64 c1', .int .i64 d1, .int .i64 e1] 23))) := (D3.out.next b4).pair
    have hlt : w1.heap.size < w4.heap.size := (Array.getElem?_eq_some_iff.1 (D3.out.next b4).one).1
    clear b4 D3 p0 p1 p2 p3 p4 p5 p6 pf y1 n1'
    obtain ⟨p0, p1, p2, p3, p4, p5, p6, pf⟩ := cells7 D4.out.one
    obtain ⟨q0, q1, q2, q3, q4, q5, q6, qf⟩ := cells7 D4.out.two
    go_wp2_with fail
    refine (implOk_any _ _ _ _ _ _ _ _).mono ?_
    rintro r5 w5 ⟨rfl, b5⟩
    have D5 : Hid (Below w.heap.size w w5) := (D4.out.next b5).below
    rw [HO.out]
    clear b5 D4 p0 p1 p2 p3 p4 p5 p6 pf q0 q1 q2 q3 q4 q5 q6 qf
    go_wp2_with fail
    go_ret
    exact ⟨rfl, D5.out⟩
  · go_wp2_with fail
    refine (SX.out _).mono ?_
    rintro r4 w4 ⟨rfl, b4⟩
    have D4 : Hid (Below w.heap.size w w4) := (D3.out.next b4).below
    clear b4 p0 p1 p2 p3 p4 p5 p6 pf D3
    go_wp2_with fail
    go_ret
    exact ⟨ret_bool (by simp), D4.out⟩

end Go.Proofs.YtagbjbpkkdbpbaaDoor
