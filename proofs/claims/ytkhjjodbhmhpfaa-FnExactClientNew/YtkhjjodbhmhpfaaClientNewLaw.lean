/-
  A user who has nothing: the specification's, the program's; the law on it, walked.
-/
import Derived.Test.YtkhjjodbhmhpfaaClientMk
namespace Go.Proofs.Ytkhjjodbhmhpfaa
open Go.RowKit
attribute [local go_sem ↓] Go.wp_at_zero Go.wp_at_succ

/-- Who a new user is. -/
def newId (id : Int) : Int := if inB id 1 3 = true then id else 0
set_option maxHeartbeats 1000000 in
set_option maxRecDepth 100000 in
theorem specClientNew_any (id : Int) (w : World) : Calls Try.prog 5 #[.int .i64 id] w fun r w' => (∃ a1 a2 a3 a4, r = .returned (.tuple #[.agg #[.int .i64 (newId id), .int .i64 0, .slice a1 0 0, .slice a2 0 0, .slice a3 0 0, .slice a4 0 0], .bool (inB id 1 3)])) ∧ Below w.heap.size w w' := by
  go_enter Try.func5, Try.ntmps5
  go_wp2_with fail
  refine (l1User_any _ _).mono ?_
  rintro r w2 ⟨rfl, rfl⟩
  cases hin : inB id 1 3
  · have E : Hid (newId id = 0) := Hid.mk' (by simp [newId, hin])
    go_wp2_with fail
    refine bodyPost_ret (v := .tuple #[.agg #[.int .i64 0, .int .i64 0, .slice none 0 0, .slice none 0 0, .slice none 0 0, .slice none 0 0], .bool false]) (by simp [results, Try.results5, go_sem]) rfl ⟨⟨none, none, none, none, by rw [E.out, hin]⟩, ?_⟩
    exact Below.alloc_ _ _
  · have E : Hid (newId id = id) := Hid.mk' (by simp [newId, hin])
    go_wp2_with fail
    refine bodyPost_ret (v := .tuple #[.agg #[.int .i64 id, .int .i64 0, .slice (some ⟨w.heap.size + 1, 0, none⟩) 0 0, .slice (some ⟨w.heap.size + 1 + 1, 0, none⟩) 0 0, .slice (some ⟨w.heap.size + 1 + 1 + 1, 0, none⟩) 0 0, .slice (some ⟨w.heap.size + 1 + 1 + 1 + 1, 0, none⟩) 0 0], .bool true]) (by simp [results, Try.results5, go_sem]) rfl ⟨⟨_, _, _, _, by rw [E.out, hin]⟩, ?_⟩
    exact (((((Below.refl _ _).alloc (Nat.le_refl _) _).alloc (by simp) _).alloc (by simp; omega) _).alloc (by simp; omega) _).alloc (by simp; omega) _
set_option maxHeartbeats 1000000 in
theorem implClientNew_any (id : Int) (w : World) : Calls Try.prog 6 #[.int .i64 id] w fun r w' => r = .returned (.tuple #[.agg #[.int .i64 (newId id), .int .i64 0, .slice none 0 0, .slice none 0 0, .slice none 0 0, .slice none 0 0], .bool (inB id 1 3)]) ∧ Below w.heap.size w w' := by
  go_enter Try.func6, Try.ntmps6
  go_wp2_with fail
  refine (isUser_any _ _).mono ?_
  rintro r w2 ⟨rfl, rfl⟩
  cases hin : inB id 1 3
  · have E : Hid (newId id = 0) := Hid.mk' (by simp [newId, hin])
    go_wp2_with fail
    refine bodyPost_ret (v := .tuple #[.agg #[.int .i64 0, .int .i64 0, .slice none 0 0, .slice none 0 0, .slice none 0 0, .slice none 0 0], .bool false]) (by simp [results, Try.results6, go_sem]) rfl ⟨by rw [E.out, hin], ?_⟩
    exact Below.alloc_ _ _
  · have E : Hid (newId id = id) := Hid.mk' (by simp [newId, hin])
    go_wp2_with fail
    refine bodyPost_ret (v := .tuple #[.agg #[.int .i64 id, .int .i64 0, .slice none 0 0, .slice none 0 0, .slice none 0 0, .slice none 0 0], .bool true]) (by simp [results, Try.results6, go_sem]) rfl ⟨by rw [E.out, hin], ?_⟩
    exact Below.alloc_ _ _
theorem own4_nil (w : World) (B : Nat) : Own4 w B (.slice none 0 0) (.slice none 0 0) (.slice none 0 0) (.slice none 0 0) [] [] [] [] := ⟨OwnN.zero _ _ _ _, OwnN.zero _ _ _ _, OwnN.zero _ _ _ _, OwnN.zero _ _ _ _, fun _ h => by cases h⟩

set_option maxHeartbeats 4000000 in
set_option maxRecDepth 100000 in
theorem lawClientNew (id : Int) (w : World) : Calls Try.prog 3 #[.int .i64 id] w fun r w' => r = .returned (.bool true) ∧ Below w.heap.size w w' := by
  go_enter Try.func3, Try.ntmps3
  go_wp2_with fail
  refine (specClientNew_any _ _).mono ?_
  rintro r w1 ⟨⟨a1, a2, a3, a4, rfl⟩, b1⟩
  have H1 : Hid (CBlk (w1.alloc (.cells #[.int .i64 (newId id), .int .i64 0, .slice a1 0 0, .slice a2 0 0, .slice a3 0 0, .slice a4 0 0] 26)) w1.heap.size (newId id) 0 (.slice a1 0 0) (.slice a2 0 0) (.slice a3 0 0) (.slice a4 0 0) ∧ Below w.heap.size w (w1.alloc (.cells #[.int .i64 (newId id), .int .i64 0, .slice a1 0 0, .slice a2 0 0, .slice a3 0 0, .slice a4 0 0] 26))) := ⟨CBlk.new _ _ _ _ _ _ _, b1.alloc b1.size _⟩
  clear b1
  go_wp2_with fail
  refine (implClientNew_any _ _).mono ?_
  rintro r w2 ⟨rfl, b2⟩
  have L1 : w1.heap.size < w2.heap.size := by have := b2.size; simp at this; omega
  obtain ⟨p0, p1, p2, p3, p4, p5⟩ := (H1.out.1.later b2).cells
  have H2 : Hid (CBlk (w2.alloc (.cells #[.int .i64 (newId id), .int .i64 0, .slice none 0 0, .slice none 0 0, .slice none 0 0, .slice none 0 0] 26)) w1.heap.size (newId id) 0 (.slice a1 0 0) (.slice a2 0 0) (.slice a3 0 0) (.slice a4 0 0) ∧ CBlk (w2.alloc (.cells #[.int .i64 (newId id), .int .i64 0, .slice none 0 0, .slice none 0 0, .slice none 0 0, .slice none 0 0] 26)) w2.heap.size (newId id) 0 (.slice none 0 0) (.slice none 0 0) (.slice none 0 0) (.slice none 0 0) ∧ Below w.heap.size w (w2.alloc (.cells #[.int .i64 (newId id), .int .i64 0, .slice none 0 0, .slice none 0 0, .slice none 0 0, .slice none 0 0] 26))) :=
    ⟨(H1.out.1.later b2).later (Below.alloc_ _ _), CBlk.new _ _ _ _ _ _ _, (H1.out.2.trans (b2.mono H1.out.2.size)).trans ((Below.alloc_ _ _).mono (by have := H1.out.2.size; have := b2.size; simp at *; omega))⟩
  clear H1 b2
  go_wp2_with fail
  refine (eqClient_same (newId id) 0 none none none none a1 a2 a3 a4 0 0 0 0 0 0 0 0 [] [] [] [] _ ⟨NRow.nil _ _ _, NRow.nil _ _ _, NRow.nil _ _ _, NRow.nil _ _ _⟩ ⟨NRow.nil _ _ _, NRow.nil _ _ _, NRow.nil _ _ _, NRow.nil _ _ _⟩ (by simp) (by simp) (by simp) (by simp)).mono ?_
  rintro r w3 ⟨rfl, b3⟩
  have H3 : Hid (CBlk w3 w1.heap.size (newId id) 0 (.slice a1 0 0) (.slice a2 0 0) (.slice a3 0 0) (.slice a4 0 0) ∧ CBlk w3 w2.heap.size (newId id) 0 (.slice none 0 0) (.slice none 0 0) (.slice none 0 0) (.slice none 0 0) ∧ Below w.heap.size w w3) := ⟨H2.out.1.later b3, H2.out.2.1.later b3, H2.out.2.2.trans (b3.mono H2.out.2.2.size)⟩
  clear H2 b3 p0 p1 p2 p3 p4 p5
  obtain ⟨q0, q1, q2, q3, q4, q5⟩ := H3.out.2.1.cells
  go_wp2_with fail
  refine (markClient_own (newId id) 0 1 (own4_nil w3 w3.heap.size) (by simp) (by simp) (by simp) (by simp) (by omega) (by omega)).mono ?_
  rintro r w4 ⟨rfl, g4, m4⟩
  have b4 : Below w3.heap.size w3 w4 := g4.below (Nat.le_refl _) (fun k hk => by simp [Value.ownBlock] at hk)
  have H4 : Hid (CBlk w4 w1.heap.size (newId id) 0 (.slice a1 0 0) (.slice a2 0 0) (.slice a3 0 0) (.slice a4 0 0) ∧ CBlk w4 w2.heap.size (newId id) 0 (.slice none 0 0) (.slice none 0 0) (.slice none 0 0) (.slice none 0 0) ∧ Below w.heap.size w w4 ∧ Mk4 w4 (.slice none 0 0) (.slice none 0 0) (.slice none 0 0) (.slice none 0 0) 0 0 0 0 1) := ⟨H3.out.1.later b4, H3.out.2.1.later b4, H3.out.2.2.trans (b4.mono H3.out.2.2.size), m4⟩
  clear H3 b4 g4 q0 q1 q2 q3 q4 q5 m4
  obtain ⟨q0, q1, q2, q3, q4, q5⟩ := H4.out.2.1.cells
  go_wp2_with fail
  refine (heldClient_own (newId id) 0 1 H4.out.2.2.2 (by simp) (by simp) (by simp) (by simp) (by omega) (by omega)).mono ?_
  rintro r w5 ⟨rfl, b5⟩
  have H5 : Hid (CBlk w5 w1.heap.size (newId id) 0 (.slice a1 0 0) (.slice a2 0 0) (.slice a3 0 0) (.slice a4 0 0) ∧ CBlk w5 w2.heap.size (newId id) 0 (.slice none 0 0) (.slice none 0 0) (.slice none 0 0) (.slice none 0 0) ∧ Below w.heap.size w w5 ∧ Mk4 w5 (.slice none 0 0) (.slice none 0 0) (.slice none 0 0) (.slice none 0 0) 0 0 0 0 1) := ⟨H4.out.1.later b5, H4.out.2.1.later b5, H4.out.2.2.1.trans (b5.mono H4.out.2.2.1.size), H4.out.2.2.2.later b5⟩
  clear H4 b5 q0 q1 q2 q3 q4 q5
  go_wp2_with fail
  refine (implClientNew_any _ _).mono ?_
  rintro r w6 ⟨rfl, b6⟩
  have L6 : w5.heap.size ≤ w6.heap.size := b6.size
  obtain ⟨p0, p1, p2, p3, p4, p5⟩ := (H5.out.1.later b6).cells
  obtain ⟨q0, q1, q2, q3, q4, q5⟩ := (H5.out.2.1.later b6).cells
  have L61 := (H5.out.1.later b6).lt
  have L62 := (H5.out.2.1.later b6).lt
  have H6 : Hid (CBlk (w6.alloc (.cells #[.int .i64 (newId id), .int .i64 0, .slice none 0 0, .slice none 0 0, .slice none 0 0, .slice none 0 0] 26)) w1.heap.size (newId id) 0 (.slice a1 0 0) (.slice a2 0 0) (.slice a3 0 0) (.slice a4 0 0) ∧ CBlk (w6.alloc (.cells #[.int .i64 (newId id), .int .i64 0, .slice none 0 0, .slice none 0 0, .slice none 0 0, .slice none 0 0] 26)) w2.heap.size (newId id) 0 (.slice none 0 0) (.slice none 0 0) (.slice none 0 0) (.slice none 0 0) ∧ Below w.heap.size w (w6.alloc (.cells #[.int .i64 (newId id), .int .i64 0, .slice none 0 0, .slice none 0 0, .slice none 0 0, .slice none 0 0] 26)) ∧ Mk4 (w6.alloc (.cells #[.int .i64 (newId id), .int .i64 0, .slice none 0 0, .slice none 0 0, .slice none 0 0, .slice none 0 0] 26)) (.slice none 0 0) (.slice none 0 0) (.slice none 0 0) (.slice none 0 0) 0 0 0 0 1) := by
    have bb := b6.trans ((Below.alloc_ w6 (.cells #[.int .i64 (newId id), .int .i64 0, .slice none 0 0, .slice none 0 0, .slice none 0 0, .slice none 0 0] 26)).mono b6.size)
    exact ⟨H5.out.1.later bb, H5.out.2.1.later bb, H5.out.2.2.1.trans (bb.mono H5.out.2.2.1.size), H5.out.2.2.2.later bb⟩
  clear H5 b6
  go_wp2_with fail
  refine (eqClient_same (newId id) 0 none none none none a1 a2 a3 a4 0 0 0 0 0 0 0 0 [] [] [] [] _ ⟨NRow.nil _ _ _, NRow.nil _ _ _, NRow.nil _ _ _, NRow.nil _ _ _⟩ ⟨NRow.nil _ _ _, NRow.nil _ _ _, NRow.nil _ _ _, NRow.nil _ _ _⟩ (by simp) (by simp) (by simp) (by simp)).mono ?_
  rintro r w7 ⟨rfl, b7⟩
  have H7 : Hid (CBlk w7 w2.heap.size (newId id) 0 (.slice none 0 0) (.slice none 0 0) (.slice none 0 0) (.slice none 0 0) ∧ Below w.heap.size w w7 ∧ Mk4 w7 (.slice none 0 0) (.slice none 0 0) (.slice none 0 0) (.slice none 0 0) 0 0 0 0 1) := ⟨H6.out.2.1.later b7, H6.out.2.2.1.trans (b7.mono H6.out.2.2.1.size), H6.out.2.2.2.later b7⟩
  clear H6 b7 p0 p1 p2 p3 p4 p5 q0 q1 q2 q3 q4 q5
  obtain ⟨q0, q1, q2, q3, q4, q5⟩ := H7.out.1.cells
  go_wp2_with fail
  refine (heldClient_own (newId id) 0 1 H7.out.2.2 (by simp) (by simp) (by simp) (by simp) (by omega) (by omega)).mono ?_
  rintro r w8 ⟨rfl, b8⟩
  have H8 : Hid (Below w.heap.size w w8) := H7.out.2.1.trans (b8.mono H7.out.2.1.size)
  clear H7 b8 q0 q1 q2 q3 q4 q5
  go_wp2_with fail
  go_ret
  exact ⟨rfl, H8.out⟩

end Go.Proofs.Ytkhjjodbhmhpfaa
