/-
  One to whom nothing was told: the specification's, the program's; the law on it, walked.
-/
import Derived.Test.YtdogpkeolhonbaaKdcTo
namespace Go.Proofs.Ytdogpkeolhonbaa
open Go.RowKit

set_option maxHeartbeats 1000000 in
theorem specKdcNew_any (w : World) : Calls Try.prog 6 #[] w fun r w' => (∃ a, r = .returned (.agg #[.int .i64 10, .slice a 0 0])) ∧ Below w.heap.size w w' := by
  go_enter Try.func6, Try.ntmps6
  go_wp2_with fail
  exact bodyPost_ret (v := .agg #[.int .i64 10, .slice (some ⟨w.heap.size + 1, 0, none⟩) 0 0]) (by simp [results, Try.results6, go_sem]) rfl ⟨⟨_, rfl⟩, (Below.alloc_ _ _).trans ((Below.alloc_ _ _).mono (by simp))⟩
set_option maxHeartbeats 1000000 in
theorem implKdcNew_any (w : World) : Calls Try.prog 7 #[] w fun r w' => r = .returned (.agg #[.int .i64 10, .slice none 0 0]) ∧ Below w.heap.size w w' := by
  go_enter Try.func7, Try.ntmps7
  go_wp2_with fail
  exact bodyPost_ret (v := .agg #[.int .i64 10, .slice none 0 0]) (by simp [results, Try.results7, go_sem]) rfl ⟨rfl, Below.alloc_ _ _⟩

set_option maxHeartbeats 4000000 in
set_option maxRecDepth 100000 in
theorem lawKdcNew (w : World) : Calls Try.prog 3 #[] w fun r w' => r = .returned (.bool true) ∧ Below w.heap.size w w' := by
  go_enter Try.func3, Try.ntmps3
  go_wp2_with fail
  refine (specKdcNew_any _).mono ?_
  rintro r w1 ⟨⟨a, rfl⟩, b1⟩
  have H1 : Hid (KBlk (w1.alloc (.cells #[.int .i64 10, .slice a 0 0] 24)) w1.heap.size 10 (.slice a 0 0) ∧ Below w.heap.size w (w1.alloc (.cells #[.int .i64 10, .slice a 0 0] 24))) := ⟨KBlk.new _ _ _, b1.alloc b1.size _⟩
  clear b1
  go_wp2_with fail
  refine (implKdcNew_any _).mono ?_
  rintro r w2 ⟨rfl, b2⟩
  have L1 : w1.heap.size < w2.heap.size := by have := b2.size; simp at this; omega
  obtain ⟨p0, p1⟩ := (H1.out.1.later b2).cells
  have H2 : Hid (KBlk (w2.alloc (.cells #[.int .i64 10, .slice none 0 0] 24)) w1.heap.size 10 (.slice a 0 0) ∧ KBlk (w2.alloc (.cells #[.int .i64 10, .slice none 0 0] 24)) w2.heap.size 10 (.slice none 0 0) ∧ Below w.heap.size w (w2.alloc (.cells #[.int .i64 10, .slice none 0 0] 24))) :=
    ⟨(H1.out.1.later b2).later (Below.alloc_ _ _), KBlk.new _ _ _, (H1.out.2.trans (b2.mono H1.out.2.size)).trans ((Below.alloc_ _ _).mono (by have := H1.out.2.size; have := b2.size; simp at *; omega))⟩
  clear H1 b2
  go_wp2_with fail
  refine (eqKdc_same 10 none a 0 0 [] _ (Or.inl rfl) (Or.inl rfl) (by simp)).mono ?_
  rintro r w3 ⟨rfl, b3⟩
  have H3 : Hid (KBlk w3 w1.heap.size 10 (.slice a 0 0) ∧ KBlk w3 w2.heap.size 10 (.slice none 0 0) ∧ Below w.heap.size w w3) := ⟨H2.out.1.later b3, H2.out.2.1.later b3, H2.out.2.2.trans (b3.mono H2.out.2.2.size)⟩
  clear H2 b3 p0 p1
  obtain ⟨q0, q1⟩ := H3.out.2.1.cells
  go_wp2_with fail
  refine (markKdc_own 10 (zs := []) 1 (World.ownsRow_nil w3 w3.heap.size _ _) (Nat.le_refl _) (by simp) (by omega) (by omega)).mono ?_
  rintro r w4 ⟨rfl, b4, m4⟩
  have H4 : Hid (KBlk w4 w1.heap.size 10 (.slice a 0 0) ∧ KBlk w4 w2.heap.size 10 (.slice none 0 0) ∧ Below w.heap.size w w4 ∧ Mk7 w4 (.slice none 0 0) 0 1) := ⟨H3.out.1.later b4, H3.out.2.1.later b4, H3.out.2.2.trans (b4.mono H3.out.2.2.size), m4⟩
  clear H3 b4 q0 q1 m4
  obtain ⟨q0, q1⟩ := H4.out.2.1.cells
  go_wp2_with fail
  refine (heldKdc_own 10 1 H4.out.2.2.2 (by simp) (by omega) (by omega)).mono ?_
  rintro r w5 ⟨rfl, b5⟩
  have H5 : Hid (KBlk w5 w1.heap.size 10 (.slice a 0 0) ∧ KBlk w5 w2.heap.size 10 (.slice none 0 0) ∧ Below w.heap.size w w5 ∧ Mk7 w5 (.slice none 0 0) 0 1) := ⟨H4.out.1.later b5, H4.out.2.1.later b5, H4.out.2.2.1.trans (b5.mono H4.out.2.2.1.size), H4.out.2.2.2.later b5⟩
  clear H4 b5 q0 q1
  go_wp2_with fail
  refine (implKdcNew_any _).mono ?_
  rintro r w6 ⟨rfl, b6⟩
  have L6 : w5.heap.size ≤ w6.heap.size := b6.size
  obtain ⟨p0, p1⟩ := (H5.out.1.later b6).cells
  obtain ⟨q0, q1⟩ := (H5.out.2.1.later b6).cells
  have L61 := (H5.out.1.later b6).lt
  have L62 := (H5.out.2.1.later b6).lt
  have H6 : Hid (KBlk (w6.alloc (.cells #[.int .i64 10, .slice none 0 0] 24)) w1.heap.size 10 (.slice a 0 0) ∧ KBlk (w6.alloc (.cells #[.int .i64 10, .slice none 0 0] 24)) w2.heap.size 10 (.slice none 0 0) ∧ Below w.heap.size w (w6.alloc (.cells #[.int .i64 10, .slice none 0 0] 24)) ∧ Mk7 (w6.alloc (.cells #[.int .i64 10, .slice none 0 0] 24)) (.slice none 0 0) 0 1) := by
    have bb := b6.trans ((Below.alloc_ w6 (.cells #[.int .i64 10, .slice none 0 0] 24)).mono b6.size)
    exact ⟨H5.out.1.later bb, H5.out.2.1.later bb, H5.out.2.2.1.trans (bb.mono H5.out.2.2.1.size), H5.out.2.2.2.later bb⟩
  clear H5 b6
  go_wp2_with fail
  refine (eqKdc_same 10 none a 0 0 [] _ (Or.inl rfl) (Or.inl rfl) (by simp)).mono ?_
  rintro r w7 ⟨rfl, b7⟩
  have H7 : Hid (KBlk w7 w2.heap.size 10 (.slice none 0 0) ∧ Below w.heap.size w w7 ∧ Mk7 w7 (.slice none 0 0) 0 1) := ⟨H6.out.2.1.later b7, H6.out.2.2.1.trans (b7.mono H6.out.2.2.1.size), H6.out.2.2.2.later b7⟩
  clear H6 b7 p0 p1 q0 q1
  obtain ⟨q0, q1⟩ := H7.out.1.cells
  go_wp2_with fail
  refine (heldKdc_own 10 1 H7.out.2.2 (by simp) (by omega) (by omega)).mono ?_
  rintro r w8 ⟨rfl, b8⟩
  have H8 : Hid (Below w.heap.size w w8) := H7.out.2.1.trans (b8.mono H7.out.2.1.size)
  clear H7 b8 q0 q1
  go_wp2_with fail
  go_ret
  exact ⟨rfl, H8.out⟩

end Go.Proofs.Ytdogpkeolhonbaa
