/-
  The law that what is sealed is such as its kind needs, walked: it returns true at whatever list of bytes, and nothing that was in memory is turned.
-/
import Derived.Test.YtdkkaipejpphmaaDrawOk
import Derived.Test.YtdkkaipejpphmaaBlocks
import Derived.Test.YtdkkaipejpphmaaSealSame
import Derived.Test.YtdkkaipejpphmaaSealCases
namespace Go.Proofs.Ytdkkaipejpphmaa
open Go.RowKit

set_option maxHeartbeats 400000 in
theorem form_long (a1 : Option Addr) (n1 c1 : Nat) (w : World) (h : 1048576 < (n1 : Int)) :
    Calls Try.prog 3 #[.slice a1 n1 c1] w fun r w' => r = .returned (.bool true) ∧ Below w.heap.size w w' := by
  go_enter Try.func3, Try.ntmps3
  go_wp2
  go_ret
  exact ⟨rfl, Below.refl _ _⟩

set_option maxHeartbeats 1000000 in
set_option maxRecDepth 100000 in
theorem form_short (a1 : Option Addr) (n1 c1 : Nat) (w : World) (g1 : (n1 : Int) ≤ 1048576) (h1 : Code w a1 n1 c1) :
    Calls Try.prog 3 #[.slice a1 n1 c1] w fun r w' => r = .returned (.bool true) ∧ Below w.heap.size w w' := by
  have HH : Hid (Code w a1 n1 c1) := h1
  clear h1
  go_enter Try.func3, Try.ntmps3
  go_wp2_with fail
  refine (drawSealOk_any a1 n1 c1 w HH.out).mono ?_
  rintro r1 w1 ⟨⟨k, t, a, b, c, d, e, rfl⟩, b1⟩
  have D1 : Hid (Ones w w1.heap.size (.cells #[.int .i64 k, .int .i64 t, .int .i64 a, .int .i64 b, .int .i64 c, .int .i64 d, .int .i64 e] 24 (0, 0)) (w1.alloc (.cells #[.int .i64 k, .int .i64 t, .int .i64 a, .int .i64 b, .int .i64 c, .int .i64 d, .int .i64 e] 24))) := ⟨b1.alloc b1.size _, heap_alloc_new w1 _⟩
  clear b1 HH
  go_wp2_with fail
  refine (implOk_any _ _ _ _ _ _ _ _).mono ?_
  rintro r2 w2 ⟨rfl, b2⟩
  have D2 : Hid (Ones w w1.heap.size (.cells #[.int .i64 k, .int .i64 t, .int .i64 a, .int .i64 b, .int .i64 c, .int .i64 d, .int .i64 e] 24 (0, 0)) w2) := D1.out.next b2
  clear b2 D1
  obtain ⟨p0, p1, p2, p3, p4, p5, p6, pf⟩ := cells7 D2.out.one
  go_wp2_with fail
  refine (specOk_any _ _ _ _ _ _ _ _).mono ?_
  rintro r3 w3 ⟨rfl, b3⟩
  have D3 : Hid (Ones w w1.heap.size (.cells #[.int .i64 k, .int .i64 t, .int .i64 a, .int .i64 b, .int .i64 c, .int .i64 d, .int .i64 e] 24 (0, 0)) w3) := D2.out.next b3
  clear b3 D2 p0 p1 p2 p3 p4 p5 p6 pf
  obtain ⟨p0, p1, p2, p3, p4, p5, p6, pf⟩ := cells7 D3.out.one
  cases ok : okB k t a b c d e
  · go_wp2_with fail
    refine (specOk_any _ _ _ _ _ _ _ _).mono ?_
    rintro r4 w4 ⟨rfl, b4⟩
    have D4 : Hid (Below w.heap.size w w4) := (D3.out.next b4).below
    rw [ok]
    clear b4 p0 p1 p2 p3 p4 p5 p6 pf D3 ok
    go_wp2_with fail
    go_ret
    exact ⟨rfl, D4.out⟩
  · go_wp2_with fail
    refine (implH_any _ _ _ _ _ _ _ _).mono ?_
    rintro r4 w4 ⟨rfl, b4⟩
    have D4 : Hid (Ones w w1.heap.size (.cells #[.int .i64 k, .int .i64 t, .int .i64 a, .int .i64 b, .int .i64 c, .int .i64 d, .int .i64 e] 24 (0, 0)) w4) := D3.out.next b4
    clear b4 p0 p1 p2 p3 p4 p5 p6 pf D3
    obtain ⟨p0, p1, p2, p3, p4, p5, p6, pf⟩ := cells7 D4.out.one
    rcases ok_cases ok with ⟨rfl, rfl, x0, x1, x2, x3, x4, x5, x6, x7, x8, x9⟩ | ⟨rfl, x0, x1, x2, x3, x4, x5, x6, x7, x8, rfl⟩ | ⟨rfl, x0, x1, x2, x3, x4, x5, x6, x7, rfl, rfl⟩ | ⟨rfl, x0, x1, x2, x3, x4, x5, rfl, rfl, rfl⟩
    · rw [show hK k 1 a k c d e = c from by simp [hK, ok, holdsI]]
      clear ok
      go_wp2_with fail
      all_goals go_ret
      all_goals exact ⟨ret_bool (by simp; try omega), D4.out.below⟩
    · rw [show hK k 2 a b c d 0 = b from by simp [hK, ok, holdsI]]
      clear ok
      go_wp2_with fail
      all_goals go_ret
      all_goals exact ⟨ret_bool (by simp; try omega), D4.out.below⟩
    · rw [show hK k 3 a b c 0 0 = 0 from by simp [hK, ok, holdsI]]
      clear ok
      go_wp2_with fail
      all_goals go_ret
      all_goals exact ⟨ret_bool (by simp; try omega), D4.out.below⟩
    · rw [show hK k 4 a b 0 0 0 = 0 from by simp [hK, ok, holdsI]]
      clear ok
      go_wp2_with fail
      all_goals go_ret
      all_goals exact ⟨ret_bool (by simp; try omega), D4.out.below⟩

end Go.Proofs.Ytdkkaipejpphmaa
