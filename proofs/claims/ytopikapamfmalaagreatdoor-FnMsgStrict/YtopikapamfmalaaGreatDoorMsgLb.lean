/-
  Two words held against each other by the laws: true just if they are the same; nothing that was in memory is turned.
-/
import Derived.Test.YtopikapamfmalaaGreatDoorMsgRow
import Derived.Test.YtopikapamfmalaaGreatDoorSealLb
namespace Go.Proofs.YtopikapamfmalaaGreatDoor
open Go.RowKit
attribute [local go_sem ↓] Go.wp_at_zero Go.wp_at_succ

set_option maxHeartbeats 1000000 in
set_option maxRecDepth 100000 in
/-- Two words: the same kind, user, service, number, seals. -/
theorem lbMsg_any (m n k f m' n' k' f' : Int) (a1 a2 : Option Addr) (p1 p2 : Nat) (xs ys : List Sl) (w : World) (h1 : SRow w a1 xs) (h2 : SRow w a2 ys) (hx : xs.length ≤ 2000000) (hy : ys.length ≤ 2000000) :
    Calls Tryz.prog 11 #[.agg #[.int .i64 m, .int .i64 n, .int .i64 k, .int .i64 f, .slice a1 xs.length p1], .agg #[.int .i64 m', .int .i64 n', .int .i64 k', .int .i64 f', .slice a2 ys.length p2]] w fun r w' => r = .returned (.bool (m == m' && n == n' && k == k' && f == f' && eqS xs ys)) ∧ Below w.heap.size w w' := by
  have hb1 := fun o1 o2 : Obj => ((Below.refl w.heap.size w).alloc (Nat.le_refl _) o1).alloc (by simp) o2
  go_enter Tryz.func11, Tryz.ntmps11
  cases e1 : (m == m')
  · go_wp2_with fail
    go_ret
    exact ⟨ret_bool (by simp), hb1 _ _⟩
  cases e2 : (n == n')
  · go_wp2_with fail
    go_ret
    exact ⟨ret_bool (by simp), hb1 _ _⟩
  cases e3 : (k == k')
  · go_wp2_with fail
    go_ret
    exact ⟨ret_bool (by simp), hb1 _ _⟩
  cases e4 : (f == f')
  · go_wp2_with fail
    go_ret
    exact ⟨ret_bool (by simp), hb1 _ _⟩
  go_wp2_with fail
  refine (lbSeals_any a1 a2 p1 p2 xs ys _ (h1.later (hb1 _ _)) (h2.later (hb1 _ _)) hx hy).mono ?_
  rintro r w2 ⟨rfl, hb2⟩
  go_wp2_with fail
  go_ret
  exact ⟨ret_bool (by simp), (hb1 _ _).trans (hb2.mono (by simp; omega))⟩

end Go.Proofs.YtopikapamfmalaaGreatDoor
