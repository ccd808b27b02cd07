/-
  The program's KdcOk: as the plain mathematics says; nothing that was in memory is turned.
-/
import Derived.Test.YtghajmfjekfdpaaDoorKdcJ
namespace Go.Proofs.YtghajmfjekfdpaaDoor
open Go.RowKit

set_option maxHeartbeats 1000000 in
theorem implKdcOk_any (n : Int) (a : Option Addr) (cap : Nat) (xs : List Sl) (w : World) (h : SRow w a xs) (hc : xs.length ≤ cap) :
    Calls Tryd.prog 30 #[.agg #[.int .i64 n, .slice a xs.length cap]] w fun r w' => r = .returned (.bool (kdcB n xs)) ∧ Below w.heap.size w w' := by
  go_enter Tryd.func30, Tryd.ntmps30
  by_cases h1 : 10 ≤ n
  · by_cases h2 : n ≤ 61
    · have E0 : kdcB n xs = cacheB xs := by simp [kdcB, inB, h1, h2]
      have E : Hid (kdcB n xs = cacheB xs) := E0
      clear E0
      go_wp2_with fail
      refine (isCache_any a cap xs _ (h.later (Below.alloc_ _ _)) hc).mono ?_
      rintro r w2 ⟨rfl, b2⟩
      go_wp2_with fail
      go_ret
      exact ⟨ret_bool E.out.symm, (Below.alloc_ _ _).trans (b2.mono (by simp))⟩
    · have E0 : kdcB n xs = false := by simp [kdcB, inB, h2]
      have E : Hid (kdcB n xs = false) := E0
      clear E0
      go_wp2_with fail
      go_ret
      exact ⟨ret_bool E.out.symm, Below.alloc_ _ _⟩
  · have E0 : kdcB n xs = false := by simp [kdcB, inB, h1]
    have E : Hid (kdcB n xs = false) := E0
    clear E0
    go_wp2_with fail
    go_ret
    exact ⟨ret_bool E.out.symm, Below.alloc_ _ _⟩

end Go.Proofs.YtghajmfjekfdpaaDoor
