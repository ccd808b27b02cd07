/-
  The laws' own copies of a Serv, whether two are the same, how long its lists are, and marks in them.
-/
import Derived.Test.YtaokgbdddgoonaaEx
import Derived.Test.YtaokgbdddgoonaaKdcLawJ
namespace Go.Proofs.Ytaokgbdddgoonaa
open Go.RowKit
attribute [local go_sem ↓] Go.wp_at_zero Go.wp_at_succ

/-- What is left behind the lists. -/
def restServ (q : Int) (l1 l2 : Nat) : Int := if q - (l1 : Int) < 0 then -1 else if q - (l1 : Int) - (l2 : Int) < 0 then -1 else q - (l1 : Int) - (l2 : Int)
theorem restServ_neg {q : Int} {l1 l2 : Nat} (h : ¬ restServ q l1 l2 < 0) : restServ q l1 l2 = q - (l1 : Int) - (l2 : Int) ∧ ¬ q - (l1 : Int) < 0 ∧ ¬ q - (l1 : Int) - (l2 : Int) < 0 := by
  unfold restServ at h ⊢
  (repeat' split at h) <;> first | omega | (refine ⟨?_, ?_, ?_⟩ <;> first | omega | ((repeat' split) <;> omega))
end Go.Proofs.Ytaokgbdddgoonaa
