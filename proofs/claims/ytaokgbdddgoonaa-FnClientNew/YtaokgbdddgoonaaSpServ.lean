/-
  The specification's own look whether there is such a service.
-/
import Derived.Test.YtaokgbdddgoonaaSealWalks
namespace Go.Proofs.Ytaokgbdddgoonaa
open Go.RowKit

set_option maxHeartbeats 400000 in
theorem l1Serv_any' (n : Int) (w : World) :
    Calls Try.prog 19 #[.int .i64 n] w fun e w' => e = .returned (.bool (inB n 4 5)) ∧ w' = w := by
  go_enter Try.func19, Try.ntmps19
  go_wp2_with (go_at_call 35; refine (l6In_any _ _ _ _).mono ?_; rintro e w' ⟨rfl, rfl⟩)
  go_ret
  exact ⟨rfl, rfl⟩

end Go.Proofs.Ytaokgbdddgoonaa
