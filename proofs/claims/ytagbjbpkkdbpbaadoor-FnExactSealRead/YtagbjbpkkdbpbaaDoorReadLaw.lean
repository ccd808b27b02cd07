/-
  The law that SealRead answers as the specification's, walked: it returns true at whatever text, and nothing that was in memory is turned.
-/
import Derived.Test.YtagbjbpkkdbpbaaDoorReadAgree
import Derived.Test.YtagbjbpkkdbpbaaDoorBlocks
namespace Go.Proofs.YtagbjbpkkdbpbaaDoor
open Go.RowKit

set_option maxHeartbeats 400000 in
theorem eqSeal_same (k t a b c d e : Int) (w : World) :
    Calls Tryd.prog 9 #[.agg #[.int .i64 k, .int .i64 t, .int .i64 a, .int .i64 b, .int .i64 c, .int .i64 d, .int .i64 e], .agg #[.int .i64 k, .int .i64 t, .int .i64 a, .int .i64 b, .int .i64 c, .int .i64 d, .int .i64 e]] w fun r w' => r = .returned (.bool true) ∧ Below w.heap.size w w' := by
  go_enter Tryd.func9, Tryd.ntmps9
  go_wp2
  go_ret
  exact ⟨rfl, ((Below.refl _ _).alloc (Nat.le_refl _) _).alloc (by simp) _⟩

set_option maxHeartbeats 400000 in
theorem read_long (s : ByteArray) (w : World) (h : 1048576 < (s.size : Int)) :
    Calls Tryd.prog 3 #[.string s] w fun r w' => r = .returned (.bool true) ∧ Below w.heap.size w w' := by
  go_enter Tryd.func3, Tryd.ntmps3
  go_wp2
  go_ret
  exact ⟨rfl, Below.refl _ _⟩

set_option maxHeartbeats 1000000 in
set_option maxRecDepth 100000 in
theorem read_short (s : ByteArray) (w : World) (h : (s.size : Int) ≤ 1048576) (hl : Lb w) :
    Calls Tryd.prog 3 #[.string s] w fun r w' => r = .returned (.bool true) ∧ Below w.heap.size w w' := by
  have HL : Hid (Lb w) := hl
  clear hl
  go_enter Tryd.func3, Tryd.ntmps3
  go_wp2_with fail
  refine (specRead_any s (by omega) _).mono ?_
  rintro r1 w1 ⟨⟨k, t, a, b, c, d, e, ok, rfl, y, n⟩, b1⟩
  have YN : Hid ((ok = true → okB k t a b c d e = true ∧ textB k t a b c d e = s) ∧ (ok = false → k = 0 ∧ t = 0 ∧ a = 0 ∧ b = 0 ∧ c = 0 ∧ d = 0 ∧ e = 0 ∧ NoSeal s)) := ⟨y, n⟩
  have D1 : Hid (Ones w w1.heap.size (.cells #[.int .i64 k, .int .i64 t, .int .i64 a, .int .i64 b, .int .i64 c, .int .i64 d, .int .i64 e] 23 (0, 0)) (w1.alloc (.cells #[.int .i64 k, .int .i64 t, .int .i64 a, .int .i64 b, .int .i64 c, .int .i64 d, .int .i64 e] 23))) := ⟨b1.alloc b1.size _, heap_alloc_new w1 _⟩
  clear y n b1
  go_wp2_with fail
  refine (read_any s (by omega) _ (HL.out.below D1.out.below)).mono ?_
  rintro r2 w2 ⟨⟨k', t', a', b', c', d', e', ok', rfl, y', n'⟩, b2⟩
  obtain ⟨rfl, rfl, rfl, rfl, rfl, rfl, rfl, rfl⟩ := read_agree YN.out.1 YN.out.2 y' n'
  have D2 : Hid (Pair w w1.heap.size w2.heap.size (.cells #[.int .i64 k', .int .i64 t', .int .i64 a', .int .i64 b', .int .i64 c', .int .i64 d', .int .i64 e'] 23 (0, 0)) (.cells #[.int .i64 k', .int .i64 t', .int .i64 a', .int .i64 b', .int .i64 c', .int .i64 d', .int .i64 e'] 23 (0, 0)) (w2.alloc (.cells #[.int .i64 k', .int .i64 t', .int .i64 a', .int .i64 b', .int .i64 c', .int .i64 d', .int .i64 e'] 23))) := (D1.out.next b2).pair
  have hlt : w1.heap.size < w2.heap.size := (Array.getElem?_eq_some_iff.1 (D1.out.next b2).one).1
  clear D1 b2 y' n' YN
  obtain ⟨p0, p1, p2, p3, p4, p5, p6, pf⟩ := cells7 D2.out.one
  obtain ⟨q0, q1, q2, q3, q4, q5, q6, qf⟩ := cells7 D2.out.two
  go_wp2_with fail
  refine (eqSeal_same _ _ _ _ _ _ _ _).mono ?_
  rintro r3 w3 ⟨rfl, b3⟩
  have D3 : Hid (Below w.heap.size w w3) := (D2.out.next b3).below
  clear b3 D2 p0 p1 p2 p3 p4 p5 p6 pf q0 q1 q2 q3 q4 q5 q6 qf
  go_wp2_with fail
  go_ret
  exact ⟨rfl, D3.out⟩

end Go.Proofs.YtagbjbpkkdbpbaaDoor
