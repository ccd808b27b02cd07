/-
  The law that a seal is written in one way, walked: it returns true at whatever list of bytes, and nothing that was in memory is turned.
-/
import Derived.Test.YtagbjbpkkdbpbaaDoorSpecRead
import Derived.Test.YtagbjbpkkdbpbaaDoorDrawRead
import Derived.Test.YtagbjbpkkdbpbaaDoorBlocks
import Derived.Test.YtagbjbpkkdbpbaaDoorReadAgree
namespace Go.Proofs.YtagbjbpkkdbpbaaDoor
open Go.RowKit

set_option maxHeartbeats 400000 in
theorem strict_long (a1 : Option Addr) (n1 c1 : Nat) (w : World) (h : 1048576 < (n1 : Int)) :
    Calls Tryd.prog 6 #[.slice a1 n1 c1] w fun r w' => r = .returned (.bool true) ∧ Below w.heap.size w w' := by
  go_enter Tryd.func6, Tryd.ntmps6
  go_wp2
  go_ret
  exact ⟨rfl, Below.refl _ _⟩

set_option maxHeartbeats 1000000 in
set_option maxRecDepth 100000 in
theorem strict_short (a1 : Option Addr) (n1 c1 : Nat) (w : World) (g1 : (n1 : Int) ≤ 1048576) (h1 : Code w a1 n1 c1) (hl : Lb w) :
    Calls Tryd.prog 6 #[.slice a1 n1 c1] w fun r w' => r = .returned (.bool true) ∧ Below w.heap.size w w' := by
  have HH : Hid (Code w a1 n1 c1 ∧ Lb w) := ⟨h1, hl⟩
  clear h1 hl
  go_enter Tryd.func6, Tryd.ntmps6
  go_wp2_with fail
  refine (drawSealRead_any a1 n1 c1 w HH.out.1).mono ?_
  rintro r0 w0 ⟨⟨s, hs, rfl⟩, b0⟩
  have D0 : Hid (Below w.heap.size w w0) := b0
  clear b0
  go_wp2_with fail
  refine (specRead_any s (by omega) _).mono ?_
  rintro r1 w1 ⟨⟨k, t, a, b, c, d, e, ok, rfl, y, n⟩, b1⟩
  have YN : Hid ((ok = true → okB k t a b c d e = true ∧ textB k t a b c d e = s) ∧ (ok = false → k = 0 ∧ t = 0 ∧ a = 0 ∧ b = 0 ∧ c = 0 ∧ d = 0 ∧ e = 0 ∧ NoSeal s)) := ⟨y, n⟩
  have hb1 : Below w.heap.size w w1 := D0.out.trans (b1.mono D0.out.size)
  have D1 : Hid (Ones w w1.heap.size (.cells #[.int .i64 k, .int .i64 t, .int .i64 a, .int .i64 b, .int .i64 c, .int .i64 d, .int .i64 e] 23 (0, 0)) (w1.alloc (.cells #[.int .i64 k, .int .i64 t, .int .i64 a, .int .i64 b, .int .i64 c, .int .i64 d, .int .i64 e] 23))) := ⟨hb1.alloc hb1.size _, heap_alloc_new w1 _⟩
  clear y n b1 hb1 D0
  go_wp2_with fail
  refine (read_any s (by omega) _ (HH.out.2.below D1.out.below)).mono ?_
  rintro r2 w2 ⟨⟨k', t', a', b', c', d', e', ok', rfl, y', n'⟩, b2⟩
  obtain ⟨rfl, rfl, rfl, rfl, rfl, rfl, rfl, rfl⟩ := read_agree YN.out.1 YN.out.2 y' n'
  have D2 : Hid (Pair w w1.heap.size w2.heap.size (.cells #[.int .i64 k', .int .i64 t', .int .i64 a', .int .i64 b', .int .i64 c', .int .i64 d', .int .i64 e'] 23 (0, 0)) (.cells #[.int .i64 k', .int .i64 t', .int .i64 a', .int .i64 b', .int .i64 c', .int .i64 d', .int .i64 e'] 23 (0, 0)) (w2.alloc (.cells #[.int .i64 k', .int .i64 t', .int .i64 a', .int .i64 b', .int .i64 c', .int .i64 d', .int .i64 e'] 23))) := (D1.out.next b2).pair
  have hlt : w1.heap.size < w2.heap.size := (Array.getElem?_eq_some_iff.1 (D1.out.next b2).one).1
  clear D1 b2 y' n'
  obtain ⟨p0, p1, p2, p3, p4, p5, p6, pf⟩ := cells7 D2.out.one
  obtain ⟨q0, q1, q2, q3, q4, q5, q6, qf⟩ := cells7 D2.out.two
  cases ok'
  · clear YN
    go_wp2_with fail
    all_goals go_ret
    all_goals exact ⟨ret_bool (by simp), D2.out.below⟩
  · have hot := YN.out.1 rfl
    have ho := hot.1
    have HT : Hid (s = textB k' t' a' b' c' d' e') := hot.2.symm
    clear YN hot
    go_wp2_with fail
    refine (implOk_any _ _ _ _ _ _ _ _).mono ?_
    rintro r3 w3 ⟨rfl, b3⟩
    have D3 := D2.out.next b3
    have H3 : Hid (Below w.heap.size w w3) := D3.below
    rw [ho]
    clear p0 p1 p2 p3 p4 p5 p6 pf q0 q1 q2 q3 q4 q5 q6 qf
    obtain ⟨q0, q1, q2, q3, q4, q5, q6, qf⟩ := cells7 D3.two
    clear b3 D2 D3 ho
    go_wp2_with fail
    refine (read_text HT.out (HH.out.2.below H3.out).tab).mono ?_
    rintro r4 w4 ⟨rfl, b4⟩
    have H4 : Hid (Below w.heap.size w w4) := H3.out.trans (b4.mono H3.out.size)
    clear b4 q0 q1 q2 q3 q4 q5 q6 qf
    go_wp2_with fail
    go_ret
    exact ⟨ret_bool (by simp), H4.out⟩

end Go.Proofs.YtagbjbpkkdbpbaaDoor
