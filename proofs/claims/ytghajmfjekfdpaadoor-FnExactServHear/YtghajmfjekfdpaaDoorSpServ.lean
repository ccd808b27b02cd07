/-
  The specification's own look whether there is such a service.
-/
import Derived.Test.YtghajmfjekfdpaaDoorBaseJ
namespace Go.Proofs.YtghajmfjekfdpaaDoor
open Go.RowKit

set_option maxHeartbeats 400000 in
theorem l1Serv_any' (n : Int) (w : World) :
    Calls Tryd.prog 72 #[.int .i64 n] w fun e w' => e = .returned (.bool (inB n 4 5)) ∧ w' = w := by
  go_enter Tryd.func72, Tryd.ntmps72
  go_wp2_with (go_at_call 55; refine (l6In_any _ _ _ _).mono ?_; rintro e w' ⟨rfl, rfl⟩)
  go_ret
  exact ⟨rfl, rfl⟩

end Go.Proofs.YtghajmfjekfdpaaDoor
