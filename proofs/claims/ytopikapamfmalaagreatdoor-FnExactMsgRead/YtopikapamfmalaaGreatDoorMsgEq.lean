/-
  Two words that are the same, held against each other field by field, and how long a word is: nothing that was in memory is turned.
-/
import Derived.Test.YtopikapamfmalaaGreatDoorToJ
import Derived.Test.YtopikapamfmalaaGreatDoorKEq
namespace Go.Proofs.YtopikapamfmalaaGreatDoor
open Go.RowKit
attribute [local go_sem ↓] Go.wp_at_zero Go.wp_at_succ

set_option maxHeartbeats 1000000 in
theorem eqMsg_same (m n k f : Int) (a1 a2 : Option Addr) (p1 p2 : Nat) (xs : List Sl) (w : World) (h1 : SRow w a1 xs) (h2 : SRow w a2 xs) (hx : xs.length ≤ 2000000) :
    Calls Tryz.prog 7 #[.agg #[.int .i64 m, .int .i64 n, .int .i64 k, .int .i64 f, .slice a1 xs.length p1], .agg #[.int .i64 m, .int .i64 n, .int .i64 k, .int .i64 f, .slice a2 xs.length p2]] w fun r w' => r = .returned (.bool true) ∧ Below w.heap.size w w' := by
  go_enter Tryz.func7, Tryz.ntmps7
  go_wp2_with fail
  have hb1 := fun o1 o2 : Obj => ((Below.refl w.heap.size w).alloc (Nat.le_refl _) o1).alloc (by simp) o2
  refine (eqSealS_same a1 a2 p1 p2 xs _ (h1.later (hb1 _ _)) (h2.later (hb1 _ _)) hx).mono ?_
  rintro r w2 ⟨rfl, hb2⟩
  go_wp2_with fail
  go_ret
  exact ⟨rfl, (hb1 _ _).trans (hb2.mono (by simp; omega))⟩

end Go.Proofs.YtopikapamfmalaaGreatDoor
