/-
  The laws' own count of what they are handed.
-/
import Derived.Test.YtghajmfjekfdpaaDoorKRow
namespace Go.Proofs.YtghajmfjekfdpaaDoor
open Go.RowKit

/-- What is left behind so many. -/
def leftI (q : Int) (len : Nat) : Int := if q - len < 0 then -1 else q - len
set_option maxHeartbeats 400000 in
theorem szSealS_any (a : Option Addr) (len cap : Nat) (q : Int) (w : World) (hq : 0 ≤ q) (hq2 : q ≤ 1048576) (hm : len ≤ 9223372036854775807) :
    Calls Tryd.prog 24 #[.slice a len cap, .int .i64 q] w fun r w' => r = .returned (.int .i64 (leftI q len)) ∧ w' = w := by
  have hw : IntKind.i64.wrap (q - (len : Int)) = q - (len : Int) := wrapM (by omega) (by omega)
  unfold leftI
  by_cases hn : q - (len : Int) < 0
  · rw [if_pos hn]
    go_enter Tryd.func24, Tryd.ntmps24
    go_wp2_with fail
    go_ret
    exact ⟨rfl, rfl⟩
  · rw [if_neg hn]
    go_enter Tryd.func24, Tryd.ntmps24
    go_wp2_with fail
    go_ret
    exact ⟨rfl, rfl⟩

end Go.Proofs.YtghajmfjekfdpaaDoor
