/-
  The specification's ClientOk: as the plain mathematics says; nothing that was in memory is turned.
-/
import Derived.Test.YtaokgbdddgoonaaClSpecA
namespace Go.Proofs.Ytaokgbdddgoonaa
open Go.RowKit
attribute [local go_sem ↓] Go.wp_at_zero Go.wp_at_succ

/-- The number told last ahead of a place. -/
def lastW (ws : List Wn) (j : Nat) : Int := match ws[j - 1]? with
  | none => 0
  | some y => if j = 0 then 0 else y.n
def lastS (ss : List Ca) (j : Nat) : Int := match ss[j - 1]? with
  | none => 0
  | some y => if j = 0 then 0 else y.n
theorem lastW_zero (ws : List Wn) : lastW ws 0 = 0 := by unfold lastW; cases ws[0 - 1]? <;> rfl
theorem lastS_zero (ss : List Ca) : lastS ss 0 = 0 := by unfold lastS; cases ss[0 - 1]? <;> rfl
theorem lastW_succ {ws : List Wn} {j : Nat} {x : Wn} (h : ws[j]? = some x) : lastW ws (j + 1) = x.n := by unfold lastW; simp [h]
theorem lastS_succ {ss : List Ca} {j : Nat} {x : Ca} (h : ss[j]? = some x) : lastS ss (j + 1) = x.n := by unfold lastS; simp [h]

end Go.Proofs.Ytaokgbdddgoonaa
