/-
  What the program's SealHolds answers, for every seal: as the plain mathematics says; nothing that was in memory is turned.
-/
import Derived.Test.YtepnijocfilgoaaDoorSealOkS
namespace Go.Proofs.YtepnijocfilgoaaDoor
open Go.RowKit

set_option maxHeartbeats 400000 in
theorem heldKey1_any (k a b c d e : Int) (w : World) :
    Calls Tryd.prog 46 #[.iface 96 (.agg #[.int .i64 k, .int .i64 a, .int .i64 b, .int .i64 c, .int .i64 d, .int .i64 e])] w fun r w' => r = .returned (.int .i64 c) ∧ Below w.heap.size w w' := by
  have q1 := asr11
  go_enter Tryd.func46, Tryd.ntmps46
  go_wp2
  go_ret
  exact ⟨rfl, (Below.refl _ _).alloc (Nat.le_refl _) _⟩

set_option maxHeartbeats 400000 in
theorem heldKey2_any (k a b c d : Int) (w : World) :
    Calls Tryd.prog 46 #[.iface 98 (.agg #[.int .i64 k, .int .i64 a, .int .i64 b, .int .i64 c, .int .i64 d])] w fun r w' => r = .returned (.int .i64 b) ∧ Below w.heap.size w w' := by
  have q1 := asr21
  have q2 := asr22
  go_enter Tryd.func46, Tryd.ntmps46
  go_wp2
  go_ret
  exact ⟨rfl, (Below.refl _ _).alloc (Nat.le_refl _) _⟩

set_option maxHeartbeats 400000 in
theorem heldKey3_any (k a b c : Int) (w : World) :
    Calls Tryd.prog 46 #[.iface 102 (.agg #[.int .i64 k, .int .i64 a, .int .i64 b, .int .i64 c])] w fun r w' => r = .returned (.int .i64 0) ∧ Below w.heap.size w w' := by
  have q1 := asr31
  have q2 := asr32
  go_enter Tryd.func46, Tryd.ntmps46
  go_wp2
  go_ret
  exact ⟨rfl, Below.refl _ _⟩

set_option maxHeartbeats 400000 in
theorem heldKey4_any (k a b : Int) (w : World) :
    Calls Tryd.prog 46 #[.iface 104 (.agg #[.int .i64 k, .int .i64 a, .int .i64 b])] w fun r w' => r = .returned (.int .i64 0) ∧ Below w.heap.size w w' := by
  have q1 := asr41
  have q2 := asr42
  go_enter Tryd.func46, Tryd.ntmps46
  go_wp2
  go_ret
  exact ⟨rfl, Below.refl _ _⟩

set_option maxHeartbeats 400000 in
theorem implHolds1_any (k a b c d e : Int) (w : World) :
    Calls Tryd.prog 24 #[.agg #[.int .i64 k, .int .i64 1, .int .i64 a, .int .i64 b, .int .i64 c, .int .i64 d, .int .i64 e]] w fun r w' => r = .returned (.int .i64 (if ok1 k a b c d e then c else 0)) ∧ Below w.heap.size w w' := by
  cases h : ok1 k a b c d e
  · go_enter Tryd.func24, Tryd.ntmps24
    go_wp2_with (go_at_call 45; refine (okSealed1_any _ _ _ _ _ _ _).mono ?_; rintro e w1 ⟨rfl, hb1⟩)
    go_ret
    exact ⟨rfl, ((Below.refl _ _).alloc (Nat.le_refl _) _).trans (hb1.mono (by simp))⟩
  · go_enter Tryd.func24, Tryd.ntmps24
    go_wp2_with (first | (go_at_call 45; refine (okSealed1_any _ _ _ _ _ _ _).mono ?_; rintro e w1 ⟨rfl, hb1⟩) | (go_at_call 46; refine (heldKey1_any _ _ _ _ _ _ _).mono ?_; rintro e w2 ⟨rfl, hb2⟩))
    go_ret
    exact ⟨rfl, ((Below.refl _ _).alloc (Nat.le_refl _) _).trans ((hb1.mono (by simp)).trans (hb2.mono (by have := hb1.size; simp at this; omega)))⟩

set_option maxHeartbeats 400000 in
theorem implHolds2_any (k a b c d : Int) (w : World) :
    Calls Tryd.prog 24 #[.agg #[.int .i64 k, .int .i64 2, .int .i64 a, .int .i64 b, .int .i64 c, .int .i64 d, .int .i64 0]] w fun r w' => r = .returned (.int .i64 (if ok2 k a b c d 0 then b else 0)) ∧ Below w.heap.size w w' := by
  cases h : ok2 k a b c d 0
  · go_enter Tryd.func24, Tryd.ntmps24
    go_wp2_with (go_at_call 45; refine (okSealed2_any _ _ _ _ _ _).mono ?_; rintro e w1 ⟨rfl, hb1⟩)
    go_ret
    exact ⟨rfl, ((Below.refl _ _).alloc (Nat.le_refl _) _).trans (hb1.mono (by simp))⟩
  · go_enter Tryd.func24, Tryd.ntmps24
    go_wp2_with (first | (go_at_call 45; refine (okSealed2_any _ _ _ _ _ _).mono ?_; rintro e w1 ⟨rfl, hb1⟩) | (go_at_call 46; refine (heldKey2_any _ _ _ _ _ _).mono ?_; rintro e w2 ⟨rfl, hb2⟩))
    go_ret
    exact ⟨rfl, ((Below.refl _ _).alloc (Nat.le_refl _) _).trans ((hb1.mono (by simp)).trans (hb2.mono (by have := hb1.size; simp at this; omega)))⟩

set_option maxHeartbeats 400000 in
theorem implHolds3_any (k a b c : Int) (w : World) :
    Calls Tryd.prog 24 #[.agg #[.int .i64 k, .int .i64 3, .int .i64 a, .int .i64 b, .int .i64 c, .int .i64 0, .int .i64 0]] w fun r w' => r = .returned (.int .i64 (if ok3 k a b c 0 0 then 0 else 0)) ∧ Below w.heap.size w w' := by
  cases h : ok3 k a b c 0 0
  · go_enter Tryd.func24, Tryd.ntmps24
    go_wp2_with (go_at_call 45; refine (okSealed3_any _ _ _ _ _).mono ?_; rintro e w1 ⟨rfl, hb1⟩)
    go_ret
    exact ⟨rfl, ((Below.refl _ _).alloc (Nat.le_refl _) _).trans (hb1.mono (by simp))⟩
  · go_enter Tryd.func24, Tryd.ntmps24
    go_wp2_with (first | (go_at_call 45; refine (okSealed3_any _ _ _ _ _).mono ?_; rintro e w1 ⟨rfl, hb1⟩) | (go_at_call 46; refine (heldKey3_any _ _ _ _ _).mono ?_; rintro e w2 ⟨rfl, hb2⟩))
    go_ret
    exact ⟨rfl, ((Below.refl _ _).alloc (Nat.le_refl _) _).trans ((hb1.mono (by simp)).trans (hb2.mono (by have := hb1.size; simp at this; omega)))⟩

set_option maxHeartbeats 400000 in
theorem implHolds4_any (k a b : Int) (w : World) :
    Calls Tryd.prog 24 #[.agg #[.int .i64 k, .int .i64 4, .int .i64 a, .int .i64 b, .int .i64 0, .int .i64 0, .int .i64 0]] w fun r w' => r = .returned (.int .i64 (if ok4 k a b 0 0 0 then 0 else 0)) ∧ Below w.heap.size w w' := by
  cases h : ok4 k a b 0 0 0
  · go_enter Tryd.func24, Tryd.ntmps24
    go_wp2_with (go_at_call 45; refine (okSealed4_any _ _ _ _).mono ?_; rintro e w1 ⟨rfl, hb1⟩)
    go_ret
    exact ⟨rfl, ((Below.refl _ _).alloc (Nat.le_refl _) _).trans (hb1.mono (by simp))⟩
  · go_enter Tryd.func24, Tryd.ntmps24
    go_wp2_with (first | (go_at_call 45; refine (okSealed4_any _ _ _ _).mono ?_; rintro e w1 ⟨rfl, hb1⟩) | (go_at_call 46; refine (heldKey4_any _ _ _ _).mono ?_; rintro e w2 ⟨rfl, hb2⟩))
    go_ret
    exact ⟨rfl, ((Below.refl _ _).alloc (Nat.le_refl _) _).trans ((hb1.mono (by simp)).trans (hb2.mono (by have := hb1.size; simp at this; omega)))⟩

set_option maxHeartbeats 400000 in
theorem implHolds0_any (k t a b c d e : Int) (w : World) (h : odd t c d e = true) :
    Calls Tryd.prog 24 #[.agg #[.int .i64 k, .int .i64 t, .int .i64 a, .int .i64 b, .int .i64 c, .int .i64 d, .int .i64 e]] w fun r w' => r = .returned (.int .i64 0) ∧ Below w.heap.size w w' := by
  go_enter Tryd.func24, Tryd.ntmps24
  go_wp2_with (go_at_call 45; refine (okSealed0_any _ _ _ _ _ _ _ _ h).mono ?_; rintro e w1 ⟨rfl, hb1⟩)
  go_ret
  exact ⟨rfl, ((Below.refl _ _).alloc (Nat.le_refl _) _).trans (hb1.mono (by simp))⟩

/-- The program's SealHolds: what the mathematics says, whatever the seal. -/
theorem implHolds_any (k t a b c d e : Int) (w : World) :
    Calls Tryd.prog 24 #[.agg #[.int .i64 k, .int .i64 t, .int .i64 a, .int .i64 b, .int .i64 c, .int .i64 d, .int .i64 e]] w fun r w' => r = .returned (.int .i64 (if okB k t a b c d e then holdsI t b c else 0)) ∧ Below w.heap.size w w' := by
  cases h : odd t c d e
  · rcases not_odd h with rfl | ⟨rfl, rfl⟩ | ⟨rfl, rfl, rfl⟩ | ⟨rfl, rfl, rfl, rfl⟩
    · simpa [okB, holdsI] using implHolds1_any k a b c d e w
    · simpa [okB, holdsI] using implHolds2_any k a b c d w
    · simpa [okB, holdsI] using implHolds3_any k a b c w
    · simpa [okB, holdsI] using implHolds4_any k a b w
  · rw [odd_not_ok k a b h]
    exact implHolds0_any k t a b c d e w h

end Go.Proofs.YtepnijocfilgoaaDoor
