/-
  The specification's KdcOk: as the plain mathematics says; nothing that was in memory is turned.
-/
import Derived.Test.YtghajmfjekfdpaaDoorKdcSpec
namespace Go.Proofs.YtghajmfjekfdpaaDoor
open Go.RowKit

set_option maxHeartbeats 1000000 in
theorem specKdcOk_any (n : Int) (a : Option Addr) (cap : Nat) (xs : List Sl) (w : World) (h : SRow w a xs) (hc : xs.length ≤ cap) (hx : xs.length ≤ 2000000) :
    Calls Tryd.prog 25 #[.agg #[.int .i64 n, .slice a xs.length cap]] w fun r w' => r = .returned (.bool (kdcB n xs)) ∧ Below w.heap.size w w' := by
  go_enter Tryd.func25, Tryd.ntmps25
  go_wp2_with fail
  refine (l6In_any n 10 61 _).mono ?_
  rintro r w2 ⟨rfl, rfl⟩
  cases hin : inB n 10 61
  · have E0 : kdcB n xs = false := by simp [kdcB, hin]
    have E : Hid (kdcB n xs = false) := E0
    clear E0
    go_wp2_with fail
    go_ret
    exact ⟨ret_bool E.out.symm, Below.alloc_ _ _⟩
  · have E0 : kdcB n xs = cacheB xs := by simp [kdcB, hin]
    have E : Hid (kdcB n xs = cacheB xs) := E0
    clear E0
    go_wp2_with fail
    refine (l11Cache_any a cap xs _ (h.later (Below.alloc_ _ _)) hx hc).mono ?_
    rintro r w2 ⟨rfl, b2⟩
    go_wp2_with fail
    go_ret
    exact ⟨ret_bool E.out.symm, (Below.alloc_ _ _).trans (b2.mono (by simp))⟩

end Go.Proofs.YtghajmfjekfdpaaDoor
