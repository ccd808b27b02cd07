/-
  What the program's SealOk answers, for every seal: as the plain mathematics says; nothing that was in memory is turned.
-/
import Derived.Test.YtopikapamfmalaaGreatDoorBaseJ
namespace Go.Proofs.YtopikapamfmalaaGreatDoor
open Go.RowKit

set_option maxHeartbeats 400000 in
theorem implOk1_any (k a b c d e : Int) (w : World) :
    Calls Tryz.prog 59 #[.agg #[.int .i64 k, .int .i64 1, .int .i64 a, .int .i64 b, .int .i64 c, .int .i64 d, .int .i64 e]] w fun r w' => r = .returned (.bool (ok1 k a b c d e)) ∧ Below w.heap.size w w' := by
  cases h : ok1 k a b c d e
  all_goals
    go_enter Tryz.func59, Tryz.ntmps59
    go_wp2_with (go_at_call 62; refine (okSealed1_any _ _ _ _ _ _ _).mono ?_; rintro e w1 ⟨rfl, hb1⟩)
    go_ret
    exact ⟨rfl, ((Below.refl _ _).alloc (Nat.le_refl _) _).trans (hb1.mono (by simp))⟩

set_option maxHeartbeats 400000 in
theorem implOk2_any (k a b c d : Int) (w : World) :
    Calls Tryz.prog 59 #[.agg #[.int .i64 k, .int .i64 2, .int .i64 a, .int .i64 b, .int .i64 c, .int .i64 d, .int .i64 0]] w fun r w' => r = .returned (.bool (ok2 k a b c d 0)) ∧ Below w.heap.size w w' := by
  cases h : ok2 k a b c d 0
  all_goals
    go_enter Tryz.func59, Tryz.ntmps59
    go_wp2_with (go_at_call 62; refine (okSealed2_any _ _ _ _ _ _).mono ?_; rintro e w1 ⟨rfl, hb1⟩)
    go_ret
    exact ⟨rfl, ((Below.refl _ _).alloc (Nat.le_refl _) _).trans (hb1.mono (by simp))⟩

set_option maxHeartbeats 400000 in
theorem implOk3_any (k a b c : Int) (w : World) :
    Calls Tryz.prog 59 #[.agg #[.int .i64 k, .int .i64 3, .int .i64 a, .int .i64 b, .int .i64 c, .int .i64 0, .int .i64 0]] w fun r w' => r = .returned (.bool (ok3 k a b c 0 0)) ∧ Below w.heap.size w w' := by
  cases h : ok3 k a b c 0 0
  all_goals
    go_enter Tryz.func59, Tryz.ntmps59
    go_wp2_with (go_at_call 62; refine (okSealed3_any _ _ _ _ _).mono ?_; rintro e w1 ⟨rfl, hb1⟩)
    go_ret
    exact ⟨rfl, ((Below.refl _ _).alloc (Nat.le_refl _) _).trans (hb1.mono (by simp))⟩

set_option maxHeartbeats 400000 in
theorem implOk4_any (k a b : Int) (w : World) :
    Calls Tryz.prog 59 #[.agg #[.int .i64 k, .int .i64 4, .int .i64 a, .int .i64 b, .int .i64 0, .int .i64 0, .int .i64 0]] w fun r w' => r = .returned (.bool (ok4 k a b 0 0 0)) ∧ Below w.heap.size w w' := by
  cases h : ok4 k a b 0 0 0
  all_goals
    go_enter Tryz.func59, Tryz.ntmps59
    go_wp2_with (go_at_call 62; refine (okSealed4_any _ _ _ _).mono ?_; rintro e w1 ⟨rfl, hb1⟩)
    go_ret
    exact ⟨rfl, ((Below.refl _ _).alloc (Nat.le_refl _) _).trans (hb1.mono (by simp))⟩

set_option maxHeartbeats 400000 in
theorem implOk0_any (k t a b c d e : Int) (w : World) (h : odd t c d e = true) :
    Calls Tryz.prog 59 #[.agg #[.int .i64 k, .int .i64 t, .int .i64 a, .int .i64 b, .int .i64 c, .int .i64 d, .int .i64 e]] w fun r w' => r = .returned (.bool false) ∧ Below w.heap.size w w' := by
  go_enter Tryz.func59, Tryz.ntmps59
  go_wp2_with (go_at_call 62; refine (okSealed0_any _ _ _ _ _ _ _ _ h).mono ?_; rintro e w1 ⟨rfl, hb1⟩)
  go_ret
  exact ⟨rfl, ((Below.refl _ _).alloc (Nat.le_refl _) _).trans (hb1.mono (by simp))⟩

/-- The program's SealOk: what the mathematics says, whatever the seal. -/
theorem implOk_any (k t a b c d e : Int) (w : World) :
    Calls Tryz.prog 59 #[.agg #[.int .i64 k, .int .i64 t, .int .i64 a, .int .i64 b, .int .i64 c, .int .i64 d, .int .i64 e]] w fun r w' => r = .returned (.bool (okB k t a b c d e)) ∧ Below w.heap.size w w' := by
  cases h : odd t c d e
  · rcases not_odd h with rfl | ⟨rfl, rfl⟩ | ⟨rfl, rfl, rfl⟩ | ⟨rfl, rfl, rfl, rfl⟩
    · simpa [okB] using implOk1_any k a b c d e w
    · simpa [okB] using implOk2_any k a b c d w
    · simpa [okB] using implOk3_any k a b c w
    · simpa [okB] using implOk4_any k a b w
  · rw [odd_not_ok k a b h]
    exact implOk0_any k t a b c d e w h

end Go.Proofs.YtopikapamfmalaaGreatDoor
