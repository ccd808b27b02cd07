/-
  SealHolds, the specification's and the program's: the same number at every seal, and nothing that was in memory is turned.
-/
import Derived.Test.YtepnijocfilgoaaDoorSealHold
import Derived.Test.YtepnijocfilgoaaDoorTextRegion
namespace Go.Proofs.YtepnijocfilgoaaDoor
open Go.RowKit


set_option maxHeartbeats 400000 in
theorem l1Holds_any (k t a b c d e : Int) (w : World) :
    Calls Tryd.prog 28 #[.agg #[.int .i64 k, .int .i64 t, .int .i64 a, .int .i64 b, .int .i64 c, .int .i64 d, .int .i64 e]] w fun r w' => r = .returned (.int .i64 (holdsI t b c)) ∧ Below w.heap.size w w' := by
  go_enter Tryd.func28, Tryd.ntmps28
  go_wp2
  all_goals go_ret
  all_goals exact ⟨ret_int (by simp_all [holdsI]), (Below.refl _ _).alloc (Nat.le_refl _) _⟩

set_option maxHeartbeats 400000 in
/-- The specification's SealHolds: what the mathematics says, whatever the seal. -/
theorem specHolds_any (k t a b c d e : Int) (w : World) :
    Calls Tryd.prog 52 #[.agg #[.int .i64 k, .int .i64 t, .int .i64 a, .int .i64 b, .int .i64 c, .int .i64 d, .int .i64 e]] w fun r w' => r = .returned (.int .i64 (if okB k t a b c d e then holdsI t b c else 0)) ∧ Below w.heap.size w w' := by
  cases h : okB k t a b c d e
  · go_enter Tryd.func52, Tryd.ntmps52
    go_wp2_with (go_at_call 64; refine (specOk_any _ _ _ _ _ _ _ _).mono ?_; rintro e w1 ⟨rfl, hb1⟩)
    go_ret
    exact ⟨rfl, ((Below.refl _ _).alloc (Nat.le_refl _) _).trans (hb1.mono (by simp))⟩
  · go_enter Tryd.func52, Tryd.ntmps52
    go_wp2_with (first | (go_at_call 64; refine (specOk_any _ _ _ _ _ _ _ _).mono ?_; rintro e w1 ⟨rfl, hb1⟩; obtain ⟨hc1, hf1⟩ := bcell hb1) | (go_at_call 28; refine (l1Holds_any _ _ _ _ _ _ _ _).mono ?_; rintro e w2 ⟨rfl, hb2⟩))
    go_ret
    exact ⟨rfl, ((Below.refl _ _).alloc (Nat.le_refl _) _).trans ((hb1.mono (by simp)).trans (hb2.mono (by have := hb1.size; simp at this; omega)))⟩

/-- The key in a seal that is ok; 0, if there is none, or it is not ok. -/
def hK (k t a b c d e : Int) : Int := if okB k t a b c d e then holdsI t b c else 0
theorem specH_any (k t a b c d e : Int) (w : World) :
    Calls Tryd.prog 52 #[.agg #[.int .i64 k, .int .i64 t, .int .i64 a, .int .i64 b, .int .i64 c, .int .i64 d, .int .i64 e]] w fun r w' => r = .returned (.int .i64 (hK k t a b c d e)) ∧ Below w.heap.size w w' := specHolds_any k t a b c d e w
theorem implH_any (k t a b c d e : Int) (w : World) :
    Calls Tryd.prog 24 #[.agg #[.int .i64 k, .int .i64 t, .int .i64 a, .int .i64 b, .int .i64 c, .int .i64 d, .int .i64 e]] w fun r w' => r = .returned (.int .i64 (hK k t a b c d e)) ∧ Below w.heap.size w w' := implHolds_any k t a b c d e w

end Go.Proofs.YtepnijocfilgoaaDoor
