/-
  The text of a seal as the specification writes it: its word, and its six numbers, a blank between; nothing that was in memory is turned. The order in which Go evaluates the sum is left open; the text is the same in each.
-/
import Derived.Test.YtopikapamfmalaaGreatDoorTextDec
namespace Go.Proofs.YtopikapamfmalaaGreatDoor
open Go.RowKit
attribute [local go_sem ↓] Go.wp_at_zero Go.wp_at_succ

set_option maxHeartbeats 400000 in
theorem l1Names_any (w : World) :
    Calls Tryz.prog 40 #[] w fun e w' => e = .returned (.slice (some ⟨w.heap.size, 0, none⟩) 5 5) ∧ w' = w.alloc (.cells #[.string ⟨#[]⟩, .string ⟨#[116, 105, 99, 107, 101, 116]⟩, .string ⟨#[112, 97, 114, 116]⟩, .string ⟨#[97, 117, 116, 104]⟩, .string ⟨#[98, 97, 99, 107]⟩] 9) := by
  go_enter Tryz.func40, Tryz.ntmps40
  go_wp2
  go_ret
  exact ⟨rfl, rfl⟩
/-- The specification's names of kinds: a list in new memory. -/
theorem l1Names_at (w : World) (h : Nat) (hh : w.heap.size = h) :
    Calls Tryz.prog 40 #[] w fun e w' => e = .returned (.slice (some ⟨h, 0, none⟩) 5 5) ∧ Below h w w' ∧ w'.cell? ⟨h, 1, none⟩ = some (.string ⟨#[116, 105, 99, 107, 101, 116]⟩) ∧ w'.cell? ⟨h, 2, none⟩ = some (.string ⟨#[112, 97, 114, 116]⟩) ∧ w'.cell? ⟨h, 3, none⟩ = some (.string ⟨#[97, 117, 116, 104]⟩) ∧ w'.cell? ⟨h, 4, none⟩ = some (.string ⟨#[98, 97, 99, 107]⟩) := by
  subst hh
  refine (l1Names_any w).mono ?_
  rintro e w' ⟨rfl, rfl⟩
  exact ⟨rfl, (Below.refl _ _).alloc (Nat.le_refl _) _, by go_simp, by go_simp, by go_simp, by go_simp⟩

set_option maxHeartbeats 2000000 in
set_option maxRecDepth 100000 in
theorem specText1 (k a b c d e : Int) (w : World) (hok : okB k 1 a b c d e = true) (d0 d1 d2 d3 d4 d5 : ByteArray) (x1 x2 x3 x4 x5 x6 x7 x8 x9 x10 x11 x12 : ByteArray)
    (y0 : Hid (∀ w : World, Calls Tryz.prog 46 #[.int .i64 k] w fun e w' => e = .returned (.string d0) ∧ Below w.heap.size w w')) (y1 : Hid (∀ w : World, Calls Tryz.prog 46 #[.int .i64 a] w fun e w' => e = .returned (.string d1) ∧ Below w.heap.size w w')) (y2 : Hid (∀ w : World, Calls Tryz.prog 46 #[.int .i64 b] w fun e w' => e = .returned (.string d2) ∧ Below w.heap.size w w')) (y3 : Hid (∀ w : World, Calls Tryz.prog 46 #[.int .i64 c] w fun e w' => e = .returned (.string d3) ∧ Below w.heap.size w w')) (y4 : Hid (∀ w : World, Calls Tryz.prog 46 #[.int .i64 d] w fun e w' => e = .returned (.string d4) ∧ Below w.heap.size w w')) (y5 : Hid (∀ w : World, Calls Tryz.prog 46 #[.int .i64 e] w fun e w' => e = .returned (.string d5) ∧ Below w.heap.size w w'))
    (z1 : ∀ w : World, (Op.stringOp .add ⟨#[116, 105, 99, 107, 101, 116]⟩ ⟨#[32]⟩).run Tryz.prog w = .ok (.string x1) w) (z2 : ∀ w : World, (Op.stringOp .add x1 d0).run Tryz.prog w = .ok (.string x2) w) (z3 : ∀ w : World, (Op.stringOp .add x2 ⟨#[32]⟩).run Tryz.prog w = .ok (.string x3) w) (z4 : ∀ w : World, (Op.stringOp .add x3 d1).run Tryz.prog w = .ok (.string x4) w) (z5 : ∀ w : World, (Op.stringOp .add x4 ⟨#[32]⟩).run Tryz.prog w = .ok (.string x5) w) (z6 : ∀ w : World, (Op.stringOp .add x5 d2).run Tryz.prog w = .ok (.string x6) w) (z7 : ∀ w : World, (Op.stringOp .add x6 ⟨#[32]⟩).run Tryz.prog w = .ok (.string x7) w) (z8 : ∀ w : World, (Op.stringOp .add x7 d3).run Tryz.prog w = .ok (.string x8) w) (z9 : ∀ w : World, (Op.stringOp .add x8 ⟨#[32]⟩).run Tryz.prog w = .ok (.string x9) w) (z10 : ∀ w : World, (Op.stringOp .add x9 d4).run Tryz.prog w = .ok (.string x10) w) (z11 : ∀ w : World, (Op.stringOp .add x10 ⟨#[32]⟩).run Tryz.prog w = .ok (.string x11) w) (z12 : ∀ w : World, (Op.stringOp .add x11 d5).run Tryz.prog w = .ok (.string x12) w) :
    Calls Tryz.prog 41 #[.agg #[.int .i64 k, .int .i64 1, .int .i64 a, .int .i64 b, .int .i64 c, .int .i64 d, .int .i64 e]] w fun r w' => r = .returned (.string x12) ∧ Below w.heap.size w w' := by
  go_enter Tryz.func41, Tryz.ntmps41
  go_wp2_with (go_at_call 65; refine (specOk_any _ _ _ _ _ _ _ _).mono ?_; rintro r1 w1 ⟨rfl, hb1⟩)
  obtain ⟨hc1, hf1⟩ := bcell hb1
  have hB1 : Below w.heap.size w w1 := ((Below.refl _ _).alloc (Nat.le_refl _) _).trans (hb1.mono (by simp))
  clear hok
  have p0 : w1.cell? ⟨w.heap.size, 0, none⟩ = some (.int .i64 k) := (hc1 _ _ (by simp)).trans (by go_simp)
  have p1 : w1.cell? ⟨w.heap.size, 1, none⟩ = some (.int .i64 1) := (hc1 _ _ (by simp)).trans (by go_simp)
  have p2 : w1.cell? ⟨w.heap.size, 2, none⟩ = some (.int .i64 a) := (hc1 _ _ (by simp)).trans (by go_simp)
  have p3 : w1.cell? ⟨w.heap.size, 3, none⟩ = some (.int .i64 b) := (hc1 _ _ (by simp)).trans (by go_simp)
  have p4 : w1.cell? ⟨w.heap.size, 4, none⟩ = some (.int .i64 c) := (hc1 _ _ (by simp)).trans (by go_simp)
  have p5 : w1.cell? ⟨w.heap.size, 5, none⟩ = some (.int .i64 d) := (hc1 _ _ (by simp)).trans (by go_simp)
  have p6 : w1.cell? ⟨w.heap.size, 6, none⟩ = some (.int .i64 e) := (hc1 _ _ (by simp)).trans (by go_simp)
  clear hc1 hf1 hb1
  refine wp_region_held_drew (S := fun w' => w'.cell? ⟨w.heap.size, 0, none⟩ = some (.int .i64 k) ∧ w'.cell? ⟨w.heap.size, 1, none⟩ = some (.int .i64 1) ∧ w'.cell? ⟨w.heap.size, 2, none⟩ = some (.int .i64 a) ∧ w'.cell? ⟨w.heap.size, 3, none⟩ = some (.int .i64 b) ∧ w'.cell? ⟨w.heap.size, 4, none⟩ = some (.int .i64 c) ∧ w'.cell? ⟨w.heap.size, 5, none⟩ = some (.int .i64 d) ∧ w'.cell? ⟨w.heap.size, 6, none⟩ = some (.int .i64 e)) (by kernel_rfl) ⟨p0, p1, p2, p3, p4, p5, p6⟩ (fun hS => ?_)
  clear p0 p1 p2 p3 p4 p5 p6
  refine take1 1 7 (.pointer (some ⟨w.heap.size, 1, none⟩)) rfl rfl (by kernel_rfl) (by kernel_rfl) (by kernel_rfl) (by rfl) (fun _ _ _ h => h) hS (fun w' hS' => ?_) ?_
  · obtain ⟨q0, q1, q2, q3, q4, q5, q6⟩ := hS'; go_simp
  simp only [Act.put, List.setIfInBounds_toArray, List.set_cons_zero, List.set_cons_succ]
  refine take1 2 8 (.int .i64 1) rfl rfl (by kernel_rfl) (by kernel_rfl) (by kernel_rfl) (by rfl) (fun _ _ _ h => h) hS (fun w' hS' => ?_) ?_
  · obtain ⟨q0, q1, q2, q3, q4, q5, q6⟩ := hS'; go_simp
  simp only [Act.put, List.setIfInBounds_toArray, List.set_cons_zero, List.set_cons_succ]
  refine take1 6 12 (.pointer (some ⟨w.heap.size, 0, none⟩)) rfl rfl (by kernel_rfl) (by kernel_rfl) (by kernel_rfl) (by rfl) (fun _ _ _ h => h) hS (fun w' hS' => ?_) ?_
  · obtain ⟨q0, q1, q2, q3, q4, q5, q6⟩ := hS'; go_simp
  simp only [Act.put, List.setIfInBounds_toArray, List.set_cons_zero, List.set_cons_succ]
  refine take1 7 13 (.int .i64 k) rfl rfl (by kernel_rfl) (by kernel_rfl) (by kernel_rfl) (by rfl) (fun _ _ _ h => h) hS (fun w' hS' => ?_) ?_
  · obtain ⟨q0, q1, q2, q3, q4, q5, q6⟩ := hS'; go_simp
  simp only [Act.put, List.setIfInBounds_toArray, List.set_cons_zero, List.set_cons_succ]
  refine take1 11 17 (.pointer (some ⟨w.heap.size, 2, none⟩)) rfl rfl (by kernel_rfl) (by kernel_rfl) (by kernel_rfl) (by rfl) (fun _ _ _ h => h) hS (fun w' hS' => ?_) ?_
  · obtain ⟨q0, q1, q2, q3, q4, q5, q6⟩ := hS'; go_simp
  simp only [Act.put, List.setIfInBounds_toArray, List.set_cons_zero, List.set_cons_succ]
  refine take1 12 18 (.int .i64 a) rfl rfl (by kernel_rfl) (by kernel_rfl) (by kernel_rfl) (by rfl) (fun _ _ _ h => h) hS (fun w' hS' => ?_) ?_
  · obtain ⟨q0, q1, q2, q3, q4, q5, q6⟩ := hS'; go_simp
  simp only [Act.put, List.setIfInBounds_toArray, List.set_cons_zero, List.set_cons_succ]
  refine take1 16 22 (.pointer (some ⟨w.heap.size, 3, none⟩)) rfl rfl (by kernel_rfl) (by kernel_rfl) (by kernel_rfl) (by rfl) (fun _ _ _ h => h) hS (fun w' hS' => ?_) ?_
  · obtain ⟨q0, q1, q2, q3, q4, q5, q6⟩ := hS'; go_simp
  simp only [Act.put, List.setIfInBounds_toArray, List.set_cons_zero, List.set_cons_succ]
  refine take1 17 23 (.int .i64 b) rfl rfl (by kernel_rfl) (by kernel_rfl) (by kernel_rfl) (by rfl) (fun _ _ _ h => h) hS (fun w' hS' => ?_) ?_
  · obtain ⟨q0, q1, q2, q3, q4, q5, q6⟩ := hS'; go_simp
  simp only [Act.put, List.setIfInBounds_toArray, List.set_cons_zero, List.set_cons_succ]
  refine take1 21 27 (.pointer (some ⟨w.heap.size, 4, none⟩)) rfl rfl (by kernel_rfl) (by kernel_rfl) (by kernel_rfl) (by rfl) (fun _ _ _ h => h) hS (fun w' hS' => ?_) ?_
  · obtain ⟨q0, q1, q2, q3, q4, q5, q6⟩ := hS'; go_simp
  simp only [Act.put, List.setIfInBounds_toArray, List.set_cons_zero, List.set_cons_succ]
  refine take1 22 28 (.int .i64 c) rfl rfl (by kernel_rfl) (by kernel_rfl) (by kernel_rfl) (by rfl) (fun _ _ _ h => h) hS (fun w' hS' => ?_) ?_
  · obtain ⟨q0, q1, q2, q3, q4, q5, q6⟩ := hS'; go_simp
  simp only [Act.put, List.setIfInBounds_toArray, List.set_cons_zero, List.set_cons_succ]
  refine take1 26 32 (.pointer (some ⟨w.heap.size, 5, none⟩)) rfl rfl (by kernel_rfl) (by kernel_rfl) (by kernel_rfl) (by rfl) (fun _ _ _ h => h) hS (fun w' hS' => ?_) ?_
  · obtain ⟨q0, q1, q2, q3, q4, q5, q6⟩ := hS'; go_simp
  simp only [Act.put, List.setIfInBounds_toArray, List.set_cons_zero, List.set_cons_succ]
  refine take1 27 33 (.int .i64 d) rfl rfl (by kernel_rfl) (by kernel_rfl) (by kernel_rfl) (by rfl) (fun _ _ _ h => h) hS (fun w' hS' => ?_) ?_
  · obtain ⟨q0, q1, q2, q3, q4, q5, q6⟩ := hS'; go_simp
  simp only [Act.put, List.setIfInBounds_toArray, List.set_cons_zero, List.set_cons_succ]
  refine take1 31 37 (.pointer (some ⟨w.heap.size, 6, none⟩)) rfl rfl (by kernel_rfl) (by kernel_rfl) (by kernel_rfl) (by rfl) (fun _ _ _ h => h) hS (fun w' hS' => ?_) ?_
  · obtain ⟨q0, q1, q2, q3, q4, q5, q6⟩ := hS'; go_simp
  simp only [Act.put, List.setIfInBounds_toArray, List.set_cons_zero, List.set_cons_succ]
  refine take1 32 38 (.int .i64 e) rfl rfl (by kernel_rfl) (by kernel_rfl) (by kernel_rfl) (by rfl) (fun _ _ _ h => h) hS (fun w' hS' => ?_) ?_
  · obtain ⟨q0, q1, q2, q3, q4, q5, q6⟩ := hS'; go_simp
  simp only [Act.put, List.setIfInBounds_toArray, List.set_cons_zero, List.set_cons_succ]
  refine wpAnyH_ready (rs := [0]) (by kernel_rfl) (by simp) ?_
  refine AllReadyH.cons rfl (fun K hK => ?_) AllReadyH.nil
  go_simp
  refine (l1Names_at w1.drew w1.heap.size rfl).mono ?_
  rintro r2 w2 ⟨rfl, hb2, n1, n2, n3, n4⟩
  have hB2 : Below w.heap.size w w2 := hB1.drew.trans (hb2.mono hB1.size)
  have hT2 : w2.cell? ⟨w.heap.size, 0, none⟩ = some (.int .i64 k) ∧ w2.cell? ⟨w.heap.size, 1, none⟩ = some (.int .i64 1) ∧ w2.cell? ⟨w.heap.size, 2, none⟩ = some (.int .i64 a) ∧ w2.cell? ⟨w.heap.size, 3, none⟩ = some (.int .i64 b) ∧ w2.cell? ⟨w.heap.size, 4, none⟩ = some (.int .i64 c) ∧ w2.cell? ⟨w.heap.size, 5, none⟩ = some (.int .i64 d) ∧ w2.cell? ⟨w.heap.size, 6, none⟩ = some (.int .i64 e) ∧ w2.cell? ⟨w1.heap.size, 1, none⟩ = some (.string ⟨#[116, 105, 99, 107, 101, 116]⟩) := by
    obtain ⟨q0, q1, q2, q3, q4, q5, q6⟩ := hS
    exact ⟨cell_later hb2 q0, cell_later hb2 q1, cell_later hb2 q2, cell_later hb2 q3, cell_later hb2 q4, cell_later hb2 q5, cell_later hb2 q6, n1⟩
  refine hK.out _ _ ⟨hT2.1, hT2.2.1, hT2.2.2.1, hT2.2.2.2.1, hT2.2.2.2.2.1, hT2.2.2.2.2.2.1, hT2.2.2.2.2.2.2.1⟩ (fun _ => ?_)
  clear hK K hS n1 n2 n3 n4 hB1 hb2
  refine held_mono (S' := fun w' => w'.cell? ⟨w.heap.size, 0, none⟩ = some (.int .i64 k) ∧ w'.cell? ⟨w.heap.size, 1, none⟩ = some (.int .i64 1) ∧ w'.cell? ⟨w.heap.size, 2, none⟩ = some (.int .i64 a) ∧ w'.cell? ⟨w.heap.size, 3, none⟩ = some (.int .i64 b) ∧ w'.cell? ⟨w.heap.size, 4, none⟩ = some (.int .i64 c) ∧ w'.cell? ⟨w.heap.size, 5, none⟩ = some (.int .i64 d) ∧ w'.cell? ⟨w.heap.size, 6, none⟩ = some (.int .i64 e) ∧ w'.cell? ⟨w1.heap.size, 1, none⟩ = some (.string ⟨#[116, 105, 99, 107, 101, 116]⟩)) (fun _ h => ⟨h.1, h.2.1, h.2.2.1, h.2.2.2.1, h.2.2.2.2.1, h.2.2.2.2.2.1, h.2.2.2.2.2.2.1⟩) _ _ _ _ ?_
  refine take1 3 9 (.pointer (some ⟨w1.heap.size, 1, none⟩)) rfl rfl (by kernel_rfl) (by kernel_rfl) (by kernel_rfl) (by rfl) (fun _ _ _ h => h) hT2 (fun w' hS' => ?_) ?_
  · obtain ⟨q0, q1, q2, q3, q4, q5, q6, q7⟩ := hS'; go_simp
  simp only [Act.put, List.setIfInBounds_toArray, List.set_cons_zero, List.set_cons_succ]
  refine take1 4 10 (.string ⟨#[116, 105, 99, 107, 101, 116]⟩) rfl rfl (by kernel_rfl) (by kernel_rfl) (by kernel_rfl) (by rfl) (fun _ _ _ h => h) hT2 (fun w' hS' => ?_) ?_
  · obtain ⟨q0, q1, q2, q3, q4, q5, q6, q7⟩ := hS'; go_simp
  simp only [Act.put, List.setIfInBounds_toArray, List.set_cons_zero, List.set_cons_succ]
  refine take1 5 11 (.string x1) rfl rfl (by kernel_rfl) (by kernel_rfl) (by kernel_rfl) (by rfl) (fun _ _ _ h => h) hT2 (fun w' hS' => ?_) ?_
  · obtain ⟨q0, q1, q2, q3, q4, q5, q6, q7⟩ := hS'; go_simp
  simp only [Act.put, List.setIfInBounds_toArray, List.set_cons_zero, List.set_cons_succ]
  refine wpAnyH_ready (rs := [8]) (by kernel_rfl) (by simp) ?_
  refine AllReadyH.cons rfl (fun K hK => ?_) AllReadyH.nil
  go_simp
  refine (y0.out _).mono ?_
  rintro r3 w3 ⟨rfl, hb3⟩
  have hB3 : Below w.heap.size w w3 := hB2.trans (hb3.mono hB2.size)
  have hT3 : w3.cell? ⟨w.heap.size, 0, none⟩ = some (.int .i64 k) ∧ w3.cell? ⟨w.heap.size, 1, none⟩ = some (.int .i64 1) ∧ w3.cell? ⟨w.heap.size, 2, none⟩ = some (.int .i64 a) ∧ w3.cell? ⟨w.heap.size, 3, none⟩ = some (.int .i64 b) ∧ w3.cell? ⟨w.heap.size, 4, none⟩ = some (.int .i64 c) ∧ w3.cell? ⟨w.heap.size, 5, none⟩ = some (.int .i64 d) ∧ w3.cell? ⟨w.heap.size, 6, none⟩ = some (.int .i64 e) ∧ w3.cell? ⟨w1.heap.size, 1, none⟩ = some (.string ⟨#[116, 105, 99, 107, 101, 116]⟩) := by
    obtain ⟨q0, q1, q2, q3, q4, q5, q6, q7⟩ := hT2
    exact ⟨cell_later hb3 q0, cell_later hb3 q1, cell_later hb3 q2, cell_later hb3 q3, cell_later hb3 q4, cell_later hb3 q5, cell_later hb3 q6, cell_later hb3 q7⟩
  refine hK.out _ _ hT3 (fun _ => ?_)
  clear hK K hT2 hB2 hb3
  refine take1 9 15 (.string x2) rfl rfl (by kernel_rfl) (by kernel_rfl) (by kernel_rfl) (by rfl) (fun _ _ _ h => h) hT3 (fun w' hS' => ?_) ?_
  · obtain ⟨q0, q1, q2, q3, q4, q5, q6, q7⟩ := hS'; go_simp
  simp only [Act.put, List.setIfInBounds_toArray, List.set_cons_zero, List.set_cons_succ]
  refine take1 10 16 (.string x3) rfl rfl (by kernel_rfl) (by kernel_rfl) (by kernel_rfl) (by rfl) (fun _ _ _ h => h) hT3 (fun w' hS' => ?_) ?_
  · obtain ⟨q0, q1, q2, q3, q4, q5, q6, q7⟩ := hS'; go_simp
  simp only [Act.put, List.setIfInBounds_toArray, List.set_cons_zero, List.set_cons_succ]
  refine wpAnyH_ready (rs := [13]) (by kernel_rfl) (by simp) ?_
  refine AllReadyH.cons rfl (fun K hK => ?_) AllReadyH.nil
  go_simp
  refine (y1.out _).mono ?_
  rintro r4 w4 ⟨rfl, hb4⟩
  have hB4 : Below w.heap.size w w4 := hB3.trans (hb4.mono hB3.size)
  have hT4 : w4.cell? ⟨w.heap.size, 0, none⟩ = some (.int .i64 k) ∧ w4.cell? ⟨w.heap.size, 1, none⟩ = some (.int .i64 1) ∧ w4.cell? ⟨w.heap.size, 2, none⟩ = some (.int .i64 a) ∧ w4.cell? ⟨w.heap.size, 3, none⟩ = some (.int .i64 b) ∧ w4.cell? ⟨w.heap.size, 4, none⟩ = some (.int .i64 c) ∧ w4.cell? ⟨w.heap.size, 5, none⟩ = some (.int .i64 d) ∧ w4.cell? ⟨w.heap.size, 6, none⟩ = some (.int .i64 e) ∧ w4.cell? ⟨w1.heap.size, 1, none⟩ = some (.string ⟨#[116, 105, 99, 107, 101, 116]⟩) := by
    obtain ⟨q0, q1, q2, q3, q4, q5, q6, q7⟩ := hT3
    exact ⟨cell_later hb4 q0, cell_later hb4 q1, cell_later hb4 q2, cell_later hb4 q3, cell_later hb4 q4, cell_later hb4 q5, cell_later hb4 q6, cell_later hb4 q7⟩
  refine hK.out _ _ hT4 (fun _ => ?_)
  clear hK K hT3 hB3 hb4
  refine take1 14 20 (.string x4) rfl rfl (by kernel_rfl) (by kernel_rfl) (by kernel_rfl) (by rfl) (fun _ _ _ h => h) hT4 (fun w' hS' => ?_) ?_
  · obtain ⟨q0, q1, q2, q3, q4, q5, q6, q7⟩ := hS'; go_simp
  simp only [Act.put, List.setIfInBounds_toArray, List.set_cons_zero, List.set_cons_succ]
  refine take1 15 21 (.string x5) rfl rfl (by kernel_rfl) (by kernel_rfl) (by kernel_rfl) (by rfl) (fun _ _ _ h => h) hT4 (fun w' hS' => ?_) ?_
  · obtain ⟨q0, q1, q2, q3, q4, q5, q6, q7⟩ := hS'; go_simp
  simp only [Act.put, List.setIfInBounds_toArray, List.set_cons_zero, List.set_cons_succ]
  refine wpAnyH_ready (rs := [18]) (by kernel_rfl) (by simp) ?_
  refine AllReadyH.cons rfl (fun K hK => ?_) AllReadyH.nil
  go_simp
  refine (y2.out _).mono ?_
  rintro r5 w5 ⟨rfl, hb5⟩
  have hB5 : Below w.heap.size w w5 := hB4.trans (hb5.mono hB4.size)
  have hT5 : w5.cell? ⟨w.heap.size, 0, none⟩ = some (.int .i64 k) ∧ w5.cell? ⟨w.heap.size, 1, none⟩ = some (.int .i64 1) ∧ w5.cell? ⟨w.heap.size, 2, none⟩ = some (.int .i64 a) ∧ w5.cell? ⟨w.heap.size, 3, none⟩ = some (.int .i64 b) ∧ w5.cell? ⟨w.heap.size, 4, none⟩ = some (.int .i64 c) ∧ w5.cell? ⟨w.heap.size, 5, none⟩ = some (.int .i64 d) ∧ w5.cell? ⟨w.heap.size, 6, none⟩ = some (.int .i64 e) ∧ w5.cell? ⟨w1.heap.size, 1, none⟩ = some (.string ⟨#[116, 105, 99, 107, 101, 116]⟩) := by
    obtain ⟨q0, q1, q2, q3, q4, q5, q6, q7⟩ := hT4
    exact ⟨cell_later hb5 q0, cell_later hb5 q1, cell_later hb5 q2, cell_later hb5 q3, cell_later hb5 q4, cell_later hb5 q5, cell_later hb5 q6, cell_later hb5 q7⟩
  refine hK.out _ _ hT5 (fun _ => ?_)
  clear hK K hT4 hB4 hb5
  refine take1 19 25 (.string x6) rfl rfl (by kernel_rfl) (by kernel_rfl) (by kernel_rfl) (by rfl) (fun _ _ _ h => h) hT5 (fun w' hS' => ?_) ?_
  · obtain ⟨q0, q1, q2, q3, q4, q5, q6, q7⟩ := hS'; go_simp
  simp only [Act.put, List.setIfInBounds_toArray, List.set_cons_zero, List.set_cons_succ]
  refine take1 20 26 (.string x7) rfl rfl (by kernel_rfl) (by kernel_rfl) (by kernel_rfl) (by rfl) (fun _ _ _ h => h) hT5 (fun w' hS' => ?_) ?_
  · obtain ⟨q0, q1, q2, q3, q4, q5, q6, q7⟩ := hS'; go_simp
  simp only [Act.put, List.setIfInBounds_toArray, List.set_cons_zero, List.set_cons_succ]
  refine wpAnyH_ready (rs := [23]) (by kernel_rfl) (by simp) ?_
  refine AllReadyH.cons rfl (fun K hK => ?_) AllReadyH.nil
  go_simp
  refine (y3.out _).mono ?_
  rintro r6 w6 ⟨rfl, hb6⟩
  have hB6 : Below w.heap.size w w6 := hB5.trans (hb6.mono hB5.size)
  have hT6 : w6.cell? ⟨w.heap.size, 0, none⟩ = some (.int .i64 k) ∧ w6.cell? ⟨w.heap.size, 1, none⟩ = some (.int .i64 1) ∧ w6.cell? ⟨w.heap.size, 2, none⟩ = some (.int .i64 a) ∧ w6.cell? ⟨w.heap.size, 3, none⟩ = some (.int .i64 b) ∧ w6.cell? ⟨w.heap.size, 4, none⟩ = some (.int .i64 c) ∧ w6.cell? ⟨w.heap.size, 5, none⟩ = some (.int .i64 d) ∧ w6.cell? ⟨w.heap.size, 6, none⟩ = some (.int .i64 e) ∧ w6.cell? ⟨w1.heap.size, 1, none⟩ = some (.string ⟨#[116, 105, 99, 107, 101, 116]⟩) := by
    obtain ⟨q0, q1, q2, q3, q4, q5, q6, q7⟩ := hT5
    exact ⟨cell_later hb6 q0, cell_later hb6 q1, cell_later hb6 q2, cell_later hb6 q3, cell_later hb6 q4, cell_later hb6 q5, cell_later hb6 q6, cell_later hb6 q7⟩
  refine hK.out _ _ hT6 (fun _ => ?_)
  clear hK K hT5 hB5 hb6
  refine take1 24 30 (.string x8) rfl rfl (by kernel_rfl) (by kernel_rfl) (by kernel_rfl) (by rfl) (fun _ _ _ h => h) hT6 (fun w' hS' => ?_) ?_
  · obtain ⟨q0, q1, q2, q3, q4, q5, q6, q7⟩ := hS'; go_simp
  simp only [Act.put, List.setIfInBounds_toArray, List.set_cons_zero, List.set_cons_succ]
  refine take1 25 31 (.string x9) rfl rfl (by kernel_rfl) (by kernel_rfl) (by kernel_rfl) (by rfl) (fun _ _ _ h => h) hT6 (fun w' hS' => ?_) ?_
  · obtain ⟨q0, q1, q2, q3, q4, q5, q6, q7⟩ := hS'; go_simp
  simp only [Act.put, List.setIfInBounds_toArray, List.set_cons_zero, List.set_cons_succ]
  refine wpAnyH_ready (rs := [28]) (by kernel_rfl) (by simp) ?_
  refine AllReadyH.cons rfl (fun K hK => ?_) AllReadyH.nil
  go_simp
  refine (y4.out _).mono ?_
  rintro r7 w7 ⟨rfl, hb7⟩
  have hB7 : Below w.heap.size w w7 := hB6.trans (hb7.mono hB6.size)
  have hT7 : w7.cell? ⟨w.heap.size, 0, none⟩ = some (.int .i64 k) ∧ w7.cell? ⟨w.heap.size, 1, none⟩ = some (.int .i64 1) ∧ w7.cell? ⟨w.heap.size, 2, none⟩ = some (.int .i64 a) ∧ w7.cell? ⟨w.heap.size, 3, none⟩ = some (.int .i64 b) ∧ w7.cell? ⟨w.heap.size, 4, none⟩ = some (.int .i64 c) ∧ w7.cell? ⟨w.heap.size, 5, none⟩ = some (.int .i64 d) ∧ w7.cell? ⟨w.heap.size, 6, none⟩ = some (.int .i64 e) ∧ w7.cell? ⟨w1.heap.size, 1, none⟩ = some (.string ⟨#[116, 105, 99, 107, 101, 116]⟩) := by
    obtain ⟨q0, q1, q2, q3, q4, q5, q6, q7⟩ := hT6
    exact ⟨cell_later hb7 q0, cell_later hb7 q1, cell_later hb7 q2, cell_later hb7 q3, cell_later hb7 q4, cell_later hb7 q5, cell_later hb7 q6, cell_later hb7 q7⟩
  refine hK.out _ _ hT7 (fun _ => ?_)
  clear hK K hT6 hB6 hb7
  refine take1 29 35 (.string x10) rfl rfl (by kernel_rfl) (by kernel_rfl) (by kernel_rfl) (by rfl) (fun _ _ _ h => h) hT7 (fun w' hS' => ?_) ?_
  · obtain ⟨q0, q1, q2, q3, q4, q5, q6, q7⟩ := hS'; go_simp
  simp only [Act.put, List.setIfInBounds_toArray, List.set_cons_zero, List.set_cons_succ]
  refine take1 30 36 (.string x11) rfl rfl (by kernel_rfl) (by kernel_rfl) (by kernel_rfl) (by rfl) (fun _ _ _ h => h) hT7 (fun w' hS' => ?_) ?_
  · obtain ⟨q0, q1, q2, q3, q4, q5, q6, q7⟩ := hS'; go_simp
  simp only [Act.put, List.setIfInBounds_toArray, List.set_cons_zero, List.set_cons_succ]
  refine wpAnyH_ready (rs := [33]) (by kernel_rfl) (by simp) ?_
  refine AllReadyH.cons rfl (fun K hK => ?_) AllReadyH.nil
  go_simp
  refine (y5.out _).mono ?_
  rintro r8 w8 ⟨rfl, hb8⟩
  have hB8 : Below w.heap.size w w8 := hB7.trans (hb8.mono hB7.size)
  have hT8 : w8.cell? ⟨w.heap.size, 0, none⟩ = some (.int .i64 k) ∧ w8.cell? ⟨w.heap.size, 1, none⟩ = some (.int .i64 1) ∧ w8.cell? ⟨w.heap.size, 2, none⟩ = some (.int .i64 a) ∧ w8.cell? ⟨w.heap.size, 3, none⟩ = some (.int .i64 b) ∧ w8.cell? ⟨w.heap.size, 4, none⟩ = some (.int .i64 c) ∧ w8.cell? ⟨w.heap.size, 5, none⟩ = some (.int .i64 d) ∧ w8.cell? ⟨w.heap.size, 6, none⟩ = some (.int .i64 e) ∧ w8.cell? ⟨w1.heap.size, 1, none⟩ = some (.string ⟨#[116, 105, 99, 107, 101, 116]⟩) := by
    obtain ⟨q0, q1, q2, q3, q4, q5, q6, q7⟩ := hT7
    exact ⟨cell_later hb8 q0, cell_later hb8 q1, cell_later hb8 q2, cell_later hb8 q3, cell_later hb8 q4, cell_later hb8 q5, cell_later hb8 q6, cell_later hb8 q7⟩
  refine hK.out _ _ hT8 (fun _ => ?_)
  clear hK K hT7 hB7 hb8
  refine take1 34 40 (.string x12) rfl rfl (by kernel_rfl) (by kernel_rfl) (by kernel_rfl) (by rfl) (fun _ _ _ h => h) hT8 (fun w' hS' => ?_) ?_
  · obtain ⟨q0, q1, q2, q3, q4, q5, q6, q7⟩ := hS'; go_simp
  simp only [Act.put, List.setIfInBounds_toArray, List.set_cons_zero, List.set_cons_succ]
  refine take1 35 2 (.string x12) rfl rfl (by kernel_rfl) (by kernel_rfl) (by kernel_rfl) (by rfl) (fun _ _ _ h => h) hT8 (fun w' hS' => ?_) ?_
  · obtain ⟨q0, q1, q2, q3, q4, q5, q6, q7⟩ := hS'; go_simp
  simp only [Act.put, List.setIfInBounds_toArray, List.set_cons_zero, List.set_cons_succ]
  refine wpAnyH_done (by kernel_rfl) ?_ _
  go_wp2
  go_ret
  exact ⟨rfl, hB8⟩

set_option maxHeartbeats 2000000 in
set_option maxRecDepth 100000 in
theorem specText2 (k a b c d e : Int) (w : World) (hok : okB k 2 a b c d e = true) (d0 d1 d2 d3 d4 d5 : ByteArray) (x1 x2 x3 x4 x5 x6 x7 x8 x9 x10 x11 x12 : ByteArray)
    (y0 : Hid (∀ w : World, Calls Tryz.prog 46 #[.int .i64 k] w fun e w' => e = .returned (.string d0) ∧ Below w.heap.size w w')) (y1 : Hid (∀ w : World, Calls Tryz.prog 46 #[.int .i64 a] w fun e w' => e = .returned (.string d1) ∧ Below w.heap.size w w')) (y2 : Hid (∀ w : World, Calls Tryz.prog 46 #[.int .i64 b] w fun e w' => e = .returned (.string d2) ∧ Below w.heap.size w w')) (y3 : Hid (∀ w : World, Calls Tryz.prog 46 #[.int .i64 c] w fun e w' => e = .returned (.string d3) ∧ Below w.heap.size w w')) (y4 : Hid (∀ w : World, Calls Tryz.prog 46 #[.int .i64 d] w fun e w' => e = .returned (.string d4) ∧ Below w.heap.size w w')) (y5 : Hid (∀ w : World, Calls Tryz.prog 46 #[.int .i64 e] w fun e w' => e = .returned (.string d5) ∧ Below w.heap.size w w'))
    (z1 : ∀ w : World, (Op.stringOp .add ⟨#[112, 97, 114, 116]⟩ ⟨#[32]⟩).run Tryz.prog w = .ok (.string x1) w) (z2 : ∀ w : World, (Op.stringOp .add x1 d0).run Tryz.prog w = .ok (.string x2) w) (z3 : ∀ w : World, (Op.stringOp .add x2 ⟨#[32]⟩).run Tryz.prog w = .ok (.string x3) w) (z4 : ∀ w : World, (Op.stringOp .add x3 d1).run Tryz.prog w = .ok (.string x4) w) (z5 : ∀ w : World, (Op.stringOp .add x4 ⟨#[32]⟩).run Tryz.prog w = .ok (.string x5) w) (z6 : ∀ w : World, (Op.stringOp .add x5 d2).run Tryz.prog w = .ok (.string x6) w) (z7 : ∀ w : World, (Op.stringOp .add x6 ⟨#[32]⟩).run Tryz.prog w = .ok (.string x7) w) (z8 : ∀ w : World, (Op.stringOp .add x7 d3).run Tryz.prog w = .ok (.string x8) w) (z9 : ∀ w : World, (Op.stringOp .add x8 ⟨#[32]⟩).run Tryz.prog w = .ok (.string x9) w) (z10 : ∀ w : World, (Op.stringOp .add x9 d4).run Tryz.prog w = .ok (.string x10) w) (z11 : ∀ w : World, (Op.stringOp .add x10 ⟨#[32]⟩).run Tryz.prog w = .ok (.string x11) w) (z12 : ∀ w : World, (Op.stringOp .add x11 d5).run Tryz.prog w = .ok (.string x12) w) :
    Calls Tryz.prog 41 #[.agg #[.int .i64 k, .int .i64 2, .int .i64 a, .int .i64 b, .int .i64 c, .int .i64 d, .int .i64 e]] w fun r w' => r = .returned (.string x12) ∧ Below w.heap.size w w' := by
  go_enter Tryz.func41, Tryz.ntmps41
  go_wp2_with (go_at_call 65; refine (specOk_any _ _ _ _ _ _ _ _).mono ?_; rintro r1 w1 ⟨rfl, hb1⟩)
  obtain ⟨hc1, hf1⟩ := bcell hb1
  have hB1 : Below w.heap.size w w1 := ((Below.refl _ _).alloc (Nat.le_refl _) _).trans (hb1.mono (by simp))
  clear hok
  have p0 : w1.cell? ⟨w.heap.size, 0, none⟩ = some (.int .i64 k) := (hc1 _ _ (by simp)).trans (by go_simp)
  have p1 : w1.cell? ⟨w.heap.size, 1, none⟩ = some (.int .i64 2) := (hc1 _ _ (by simp)).trans (by go_simp)
  have p2 : w1.cell? ⟨w.heap.size, 2, none⟩ = some (.int .i64 a) := (hc1 _ _ (by simp)).trans (by go_simp)
  have p3 : w1.cell? ⟨w.heap.size, 3, none⟩ = some (.int .i64 b) := (hc1 _ _ (by simp)).trans (by go_simp)
  have p4 : w1.cell? ⟨w.heap.size, 4, none⟩ = some (.int .i64 c) := (hc1 _ _ (by simp)).trans (by go_simp)
  have p5 : w1.cell? ⟨w.heap.size, 5, none⟩ = some (.int .i64 d) := (hc1 _ _ (by simp)).trans (by go_simp)
  have p6 : w1.cell? ⟨w.heap.size, 6, none⟩ = some (.int .i64 e) := (hc1 _ _ (by simp)).trans (by go_simp)
  clear hc1 hf1 hb1
  refine wp_region_held_drew (S := fun w' => w'.cell? ⟨w.heap.size, 0, none⟩ = some (.int .i64 k) ∧ w'.cell? ⟨w.heap.size, 1, none⟩ = some (.int .i64 2) ∧ w'.cell? ⟨w.heap.size, 2, none⟩ = some (.int .i64 a) ∧ w'.cell? ⟨w.heap.size, 3, none⟩ = some (.int .i64 b) ∧ w'.cell? ⟨w.heap.size, 4, none⟩ = some (.int .i64 c) ∧ w'.cell? ⟨w.heap.size, 5, none⟩ = some (.int .i64 d) ∧ w'.cell? ⟨w.heap.size, 6, none⟩ = some (.int .i64 e)) (by kernel_rfl) ⟨p0, p1, p2, p3, p4, p5, p6⟩ (fun hS => ?_)
  clear p0 p1 p2 p3 p4 p5 p6
  refine take1 1 7 (.pointer (some ⟨w.heap.size, 1, none⟩)) rfl rfl (by kernel_rfl) (by kernel_rfl) (by kernel_rfl) (by rfl) (fun _ _ _ h => h) hS (fun w' hS' => ?_) ?_
  · obtain ⟨q0, q1, q2, q3, q4, q5, q6⟩ := hS'; go_simp
  simp only [Act.put, List.setIfInBounds_toArray, List.set_cons_zero, List.set_cons_succ]
  refine take1 2 8 (.int .i64 2) rfl rfl (by kernel_rfl) (by kernel_rfl) (by kernel_rfl) (by rfl) (fun _ _ _ h => h) hS (fun w' hS' => ?_) ?_
  · obtain ⟨q0, q1, q2, q3, q4, q5, q6⟩ := hS'; go_simp
  simp only [Act.put, List.setIfInBounds_toArray, List.set_cons_zero, List.set_cons_succ]
  refine take1 6 12 (.pointer (some ⟨w.heap.size, 0, none⟩)) rfl rfl (by kernel_rfl) (by kernel_rfl) (by kernel_rfl) (by rfl) (fun _ _ _ h => h) hS (fun w' hS' => ?_) ?_
  · obtain ⟨q0, q1, q2, q3, q4, q5, q6⟩ := hS'; go_simp
  simp only [Act.put, List.setIfInBounds_toArray, List.set_cons_zero, List.set_cons_succ]
  refine take1 7 13 (.int .i64 k) rfl rfl (by kernel_rfl) (by kernel_rfl) (by kernel_rfl) (by rfl) (fun _ _ _ h => h) hS (fun w' hS' => ?_) ?_
  · obtain ⟨q0, q1, q2, q3, q4, q5, q6⟩ := hS'; go_simp
  simp only [Act.put, List.setIfInBounds_toArray, List.set_cons_zero, List.set_cons_succ]
  refine take1 11 17 (.pointer (some ⟨w.heap.size, 2, none⟩)) rfl rfl (by kernel_rfl) (by kernel_rfl) (by kernel_rfl) (by rfl) (fun _ _ _ h => h) hS (fun w' hS' => ?_) ?_
  · obtain ⟨q0, q1, q2, q3, q4, q5, q6⟩ := hS'; go_simp
  simp only [Act.put, List.setIfInBounds_toArray, List.set_cons_zero, List.set_cons_succ]
  refine take1 12 18 (.int .i64 a) rfl rfl (by kernel_rfl) (by kernel_rfl) (by kernel_rfl) (by rfl) (fun _ _ _ h => h) hS (fun w' hS' => ?_) ?_
  · obtain ⟨q0, q1, q2, q3, q4, q5, q6⟩ := hS'; go_simp
  simp only [Act.put, List.setIfInBounds_toArray, List.set_cons_zero, List.set_cons_succ]
  refine take1 16 22 (.pointer (some ⟨w.heap.size, 3, none⟩)) rfl rfl (by kernel_rfl) (by kernel_rfl) (by kernel_rfl) (by rfl) (fun _ _ _ h => h) hS (fun w' hS' => ?_) ?_
  · obtain ⟨q0, q1, q2, q3, q4, q5, q6⟩ := hS'; go_simp
  simp only [Act.put, List.setIfInBounds_toArray, List.set_cons_zero, List.set_cons_succ]
  refine take1 17 23 (.int .i64 b) rfl rfl (by kernel_rfl) (by kernel_rfl) (by kernel_rfl) (by rfl) (fun _ _ _ h => h) hS (fun w' hS' => ?_) ?_
  · obtain ⟨q0, q1, q2, q3, q4, q5, q6⟩ := hS'; go_simp
  simp only [Act.put, List.setIfInBounds_toArray, List.set_cons_zero, List.set_cons_succ]
  refine take1 21 27 (.pointer (some ⟨w.heap.size, 4, none⟩)) rfl rfl (by kernel_rfl) (by kernel_rfl) (by kernel_rfl) (by rfl) (fun _ _ _ h => h) hS (fun w' hS' => ?_) ?_
  · obtain ⟨q0, q1, q2, q3, q4, q5, q6⟩ := hS'; go_simp
  simp only [Act.put, List.setIfInBounds_toArray, List.set_cons_zero, List.set_cons_succ]
  refine take1 22 28 (.int .i64 c) rfl rfl (by kernel_rfl) (by kernel_rfl) (by kernel_rfl) (by rfl) (fun _ _ _ h => h) hS (fun w' hS' => ?_) ?_
  · obtain ⟨q0, q1, q2, q3, q4, q5, q6⟩ := hS'; go_simp
  simp only [Act.put, List.setIfInBounds_toArray, List.set_cons_zero, List.set_cons_succ]
  refine take1 26 32 (.pointer (some ⟨w.heap.size, 5, none⟩)) rfl rfl (by kernel_rfl) (by kernel_rfl) (by kernel_rfl) (by rfl) (fun _ _ _ h => h) hS (fun w' hS' => ?_) ?_
  · obtain ⟨q0, q1, q2, q3, q4, q5, q6⟩ := hS'; go_simp
  simp only [Act.put, List.setIfInBounds_toArray, List.set_cons_zero, List.set_cons_succ]
  refine take1 27 33 (.int .i64 d) rfl rfl (by kernel_rfl) (by kernel_rfl) (by kernel_rfl) (by rfl) (fun _ _ _ h => h) hS (fun w' hS' => ?_) ?_
  · obtain ⟨q0, q1, q2, q3, q4, q5, q6⟩ := hS'; go_simp
  simp only [Act.put, List.setIfInBounds_toArray, List.set_cons_zero, List.set_cons_succ]
  refine take1 31 37 (.pointer (some ⟨w.heap.size, 6, none⟩)) rfl rfl (by kernel_rfl) (by kernel_rfl) (by kernel_rfl) (by rfl) (fun _ _ _ h => h) hS (fun w' hS' => ?_) ?_
  · obtain ⟨q0, q1, q2, q3, q4, q5, q6⟩ := hS'; go_simp
  simp only [Act.put, List.setIfInBounds_toArray, List.set_cons_zero, List.set_cons_succ]
  refine take1 32 38 (.int .i64 e) rfl rfl (by kernel_rfl) (by kernel_rfl) (by kernel_rfl) (by rfl) (fun _ _ _ h => h) hS (fun w' hS' => ?_) ?_
  · obtain ⟨q0, q1, q2, q3, q4, q5, q6⟩ := hS'; go_simp
  simp only [Act.put, List.setIfInBounds_toArray, List.set_cons_zero, List.set_cons_succ]
  refine wpAnyH_ready (rs := [0]) (by kernel_rfl) (by simp) ?_
  refine AllReadyH.cons rfl (fun K hK => ?_) AllReadyH.nil
  go_simp
  refine (l1Names_at w1.drew w1.heap.size rfl).mono ?_
  rintro r2 w2 ⟨rfl, hb2, n1, n2, n3, n4⟩
  have hB2 : Below w.heap.size w w2 := hB1.drew.trans (hb2.mono hB1.size)
  have hT2 : w2.cell? ⟨w.heap.size, 0, none⟩ = some (.int .i64 k) ∧ w2.cell? ⟨w.heap.size, 1, none⟩ = some (.int .i64 2) ∧ w2.cell? ⟨w.heap.size, 2, none⟩ = some (.int .i64 a) ∧ w2.cell? ⟨w.heap.size, 3, none⟩ = some (.int .i64 b) ∧ w2.cell? ⟨w.heap.size, 4, none⟩ = some (.int .i64 c) ∧ w2.cell? ⟨w.heap.size, 5, none⟩ = some (.int .i64 d) ∧ w2.cell? ⟨w.heap.size, 6, none⟩ = some (.int .i64 e) ∧ w2.cell? ⟨w1.heap.size, 2, none⟩ = some (.string ⟨#[112, 97, 114, 116]⟩) := by
    obtain ⟨q0, q1, q2, q3, q4, q5, q6⟩ := hS
    exact ⟨cell_later hb2 q0, cell_later hb2 q1, cell_later hb2 q2, cell_later hb2 q3, cell_later hb2 q4, cell_later hb2 q5, cell_later hb2 q6, n2⟩
  refine hK.out _ _ ⟨hT2.1, hT2.2.1, hT2.2.2.1, hT2.2.2.2.1, hT2.2.2.2.2.1, hT2.2.2.2.2.2.1, hT2.2.2.2.2.2.2.1⟩ (fun _ => ?_)
  clear hK K hS n1 n2 n3 n4 hB1 hb2
  refine held_mono (S' := fun w' => w'.cell? ⟨w.heap.size, 0, none⟩ = some (.int .i64 k) ∧ w'.cell? ⟨w.heap.size, 1, none⟩ = some (.int .i64 2) ∧ w'.cell? ⟨w.heap.size, 2, none⟩ = some (.int .i64 a) ∧ w'.cell? ⟨w.heap.size, 3, none⟩ = some (.int .i64 b) ∧ w'.cell? ⟨w.heap.size, 4, none⟩ = some (.int .i64 c) ∧ w'.cell? ⟨w.heap.size, 5, none⟩ = some (.int .i64 d) ∧ w'.cell? ⟨w.heap.size, 6, none⟩ = some (.int .i64 e) ∧ w'.cell? ⟨w1.heap.size, 2, none⟩ = some (.string ⟨#[112, 97, 114, 116]⟩)) (fun _ h => ⟨h.1, h.2.1, h.2.2.1, h.2.2.2.1, h.2.2.2.2.1, h.2.2.2.2.2.1, h.2.2.2.2.2.2.1⟩) _ _ _ _ ?_
  refine take1 3 9 (.pointer (some ⟨w1.heap.size, 2, none⟩)) rfl rfl (by kernel_rfl) (by kernel_rfl) (by kernel_rfl) (by rfl) (fun _ _ _ h => h) hT2 (fun w' hS' => ?_) ?_
  · obtain ⟨q0, q1, q2, q3, q4, q5, q6, q7⟩ := hS'; go_simp
  simp only [Act.put, List.setIfInBounds_toArray, List.set_cons_zero, List.set_cons_succ]
  refine take1 4 10 (.string ⟨#[112, 97, 114, 116]⟩) rfl rfl (by kernel_rfl) (by kernel_rfl) (by kernel_rfl) (by rfl) (fun _ _ _ h => h) hT2 (fun w' hS' => ?_) ?_
  · obtain ⟨q0, q1, q2, q3, q4, q5, q6, q7⟩ := hS'; go_simp
  simp only [Act.put, List.setIfInBounds_toArray, List.set_cons_zero, List.set_cons_succ]
  refine take1 5 11 (.string x1) rfl rfl (by kernel_rfl) (by kernel_rfl) (by kernel_rfl) (by rfl) (fun _ _ _ h => h) hT2 (fun w' hS' => ?_) ?_
  · obtain ⟨q0, q1, q2, q3, q4, q5, q6, q7⟩ := hS'; go_simp
  simp only [Act.put, List.setIfInBounds_toArray, List.set_cons_zero, List.set_cons_succ]
  refine wpAnyH_ready (rs := [8]) (by kernel_rfl) (by simp) ?_
  refine AllReadyH.cons rfl (fun K hK => ?_) AllReadyH.nil
  go_simp
  refine (y0.out _).mono ?_
  rintro r3 w3 ⟨rfl, hb3⟩
  have hB3 : Below w.heap.size w w3 := hB2.trans (hb3.mono hB2.size)
  have hT3 : w3.cell? ⟨w.heap.size, 0, none⟩ = some (.int .i64 k) ∧ w3.cell? ⟨w.heap.size, 1, none⟩ = some (.int .i64 2) ∧ w3.cell? ⟨w.heap.size, 2, none⟩ = some (.int .i64 a) ∧ w3.cell? ⟨w.heap.size, 3, none⟩ = some (.int .i64 b) ∧ w3.cell? ⟨w.heap.size, 4, none⟩ = some (.int .i64 c) ∧ w3.cell? ⟨w.heap.size, 5, none⟩ = some (.int .i64 d) ∧ w3.cell? ⟨w.heap.size, 6, none⟩ = some (.int .i64 e) ∧ w3.cell? ⟨w1.heap.size, 2, none⟩ = some (.string ⟨#[112, 97, 114, 116]⟩) := by
    obtain ⟨q0, q1, q2, q3, q4, q5, q6, q7⟩ := hT2
    exact ⟨cell_later hb3 q0, cell_later hb3 q1, cell_later hb3 q2, cell_later hb3 q3, cell_later hb3 q4, cell_later hb3 q5, cell_later hb3 q6, cell_later hb3 q7⟩
  refine hK.out _ _ hT3 (fun _ => ?_)
  clear hK K hT2 hB2 hb3
  refine take1 9 15 (.string x2) rfl rfl (by kernel_rfl) (by kernel_rfl) (by kernel_rfl) (by rfl) (fun _ _ _ h => h) hT3 (fun w' hS' => ?_) ?_
  · obtain ⟨q0, q1, q2, q3, q4, q5, q6, q7⟩ := hS'; go_simp
  simp only [Act.put, List.setIfInBounds_toArray, List.set_cons_zero, List.set_cons_succ]
  refine take1 10 16 (.string x3) rfl rfl (by kernel_rfl) (by kernel_rfl) (by kernel_rfl) (by rfl) (fun _ _ _ h => h) hT3 (fun w' hS' => ?_) ?_
  · obtain ⟨q0, q1, q2, q3, q4, q5, q6, q7⟩ := hS'; go_simp
  simp only [Act.put, List.setIfInBounds_toArray, List.set_cons_zero, List.set_cons_succ]
  refine wpAnyH_ready (rs := [13]) (by kernel_rfl) (by simp) ?_
  refine AllReadyH.cons rfl (fun K hK => ?_) AllReadyH.nil
  go_simp
  refine (y1.out _).mono ?_
  rintro r4 w4 ⟨rfl, hb4⟩
  have hB4 : Below w.heap.size w w4 := hB3.trans (hb4.mono hB3.size)
  have hT4 : w4.cell? ⟨w.heap.size, 0, none⟩ = some (.int .i64 k) ∧ w4.cell? ⟨w.heap.size, 1, none⟩ = some (.int .i64 2) ∧ w4.cell? ⟨w.heap.size, 2, none⟩ = some (.int .i64 a) ∧ w4.cell? ⟨w.heap.size, 3, none⟩ = some (.int .i64 b) ∧ w4.cell? ⟨w.heap.size, 4, none⟩ = some (.int .i64 c) ∧ w4.cell? ⟨w.heap.size, 5, none⟩ = some (.int .i64 d) ∧ w4.cell? ⟨w.heap.size, 6, none⟩ = some (.int .i64 e) ∧ w4.cell? ⟨w1.heap.size, 2, none⟩ = some (.string ⟨#[112, 97, 114, 116]⟩) := by
    obtain ⟨q0, q1, q2, q3, q4, q5, q6, q7⟩ := hT3
    exact ⟨cell_later hb4 q0, cell_later hb4 q1, cell_later hb4 q2, cell_later hb4 q3, cell_later hb4 q4, cell_later hb4 q5, cell_later hb4 q6, cell_later hb4 q7⟩
  refine hK.out _ _ hT4 (fun _ => ?_)
  clear hK K hT3 hB3 hb4
  refine take1 14 20 (.string x4) rfl rfl (by kernel_rfl) (by kernel_rfl) (by kernel_rfl) (by rfl) (fun _ _ _ h => h) hT4 (fun w' hS' => ?_) ?_
  · obtain ⟨q0, q1, q2, q3, q4, q5, q6, q7⟩ := hS'; go_simp
  simp only [Act.put, List.setIfInBounds_toArray, List.set_cons_zero, List.set_cons_succ]
  refine take1 15 21 (.string x5) rfl rfl (by kernel_rfl) (by kernel_rfl) (by kernel_rfl) (by rfl) (fun _ _ _ h => h) hT4 (fun w' hS' => ?_) ?_
  · obtain ⟨q0, q1, q2, q3, q4, q5, q6, q7⟩ := hS'; go_simp
  simp only [Act.put, List.setIfInBounds_toArray, List.set_cons_zero, List.set_cons_succ]
  refine wpAnyH_ready (rs := [18]) (by kernel_rfl) (by simp) ?_
  refine AllReadyH.cons rfl (fun K hK => ?_) AllReadyH.nil
  go_simp
  refine (y2.out _).mono ?_
  rintro r5 w5 ⟨rfl, hb5⟩
  have hB5 : Below w.heap.size w w5 := hB4.trans (hb5.mono hB4.size)
  have hT5 : w5.cell? ⟨w.heap.size, 0, none⟩ = some (.int .i64 k) ∧ w5.cell? ⟨w.heap.size, 1, none⟩ = some (.int .i64 2) ∧ w5.cell? ⟨w.heap.size, 2, none⟩ = some (.int .i64 a) ∧ w5.cell? ⟨w.heap.size, 3, none⟩ = some (.int .i64 b) ∧ w5.cell? ⟨w.heap.size, 4, none⟩ = some (.int .i64 c) ∧ w5.cell? ⟨w.heap.size, 5, none⟩ = some (.int .i64 d) ∧ w5.cell? ⟨w.heap.size, 6, none⟩ = some (.int .i64 e) ∧ w5.cell? ⟨w1.heap.size, 2, none⟩ = some (.string ⟨#[112, 97, 114, 116]⟩) := by
    obtain ⟨q0, q1, q2, q3, q4, q5, q6, q7⟩ := hT4
    exact ⟨cell_later hb5 q0, cell_later hb5 q1, cell_later hb5 q2, cell_later hb5 q3, cell_later hb5 q4, cell_later hb5 q5, cell_later hb5 q6, cell_later hb5 q7⟩
  refine hK.out _ _ hT5 (fun _ => ?_)
  clear hK K hT4 hB4 hb5
  refine take1 19 25 (.string x6) rfl rfl (by kernel_rfl) (by kernel_rfl) (by kernel_rfl) (by rfl) (fun _ _ _ h => h) hT5 (fun w' hS' => ?_) ?_
  · obtain ⟨q0, q1, q2, q3, q4, q5, q6, q7⟩ := hS'; go_simp
  simp only [Act.put, List.setIfInBounds_toArray, List.set_cons_zero, List.set_cons_succ]
  refine take1 20 26 (.string x7) rfl rfl (by kernel_rfl) (by kernel_rfl) (by kernel_rfl) (by rfl) (fun _ _ _ h => h) hT5 (fun w' hS' => ?_) ?_
  · obtain ⟨q0, q1, q2, q3, q4, q5, q6, q7⟩ := hS'; go_simp
  simp only [Act.put, List.setIfInBounds_toArray, List.set_cons_zero, List.set_cons_succ]
  refine wpAnyH_ready (rs := [23]) (by kernel_rfl) (by simp) ?_
  refine AllReadyH.cons rfl (fun K hK => ?_) AllReadyH.nil
  go_simp
  refine (y3.out _).mono ?_
  rintro r6 w6 ⟨rfl, hb6⟩
  have hB6 : Below w.heap.size w w6 := hB5.trans (hb6.mono hB5.size)
  have hT6 : w6.cell? ⟨w.heap.size, 0, none⟩ = some (.int .i64 k) ∧ w6.cell? ⟨w.heap.size, 1, none⟩ = some (.int .i64 2) ∧ w6.cell? ⟨w.heap.size, 2, none⟩ = some (.int .i64 a) ∧ w6.cell? ⟨w.heap.size, 3, none⟩ = some (.int .i64 b) ∧ w6.cell? ⟨w.heap.size, 4, none⟩ = some (.int .i64 c) ∧ w6.cell? ⟨w.heap.size, 5, none⟩ = some (.int .i64 d) ∧ w6.cell? ⟨w.heap.size, 6, none⟩ = some (.int .i64 e) ∧ w6.cell? ⟨w1.heap.size, 2, none⟩ = some (.string ⟨#[112, 97, 114, 116]⟩) := by
    obtain ⟨q0, q1, q2, q3, q4, q5, q6, q7⟩ := hT5
    exact ⟨cell_later hb6 q0, cell_later hb6 q1, cell_later hb6 q2, cell_later hb6 q3, cell_later hb6 q4, cell_later hb6 q5, cell_later hb6 q6, cell_later hb6 q7⟩
  refine hK.out _ _ hT6 (fun _ => ?_)
  clear hK K hT5 hB5 hb6
  refine take1 24 30 (.string x8) rfl rfl (by kernel_rfl) (by kernel_rfl) (by kernel_rfl) (by rfl) (fun _ _ _ h => h) hT6 (fun w' hS' => ?_) ?_
  · obtain ⟨q0, q1, q2, q3, q4, q5, q6, q7⟩ := hS'; go_simp
  simp only [Act.put, List.setIfInBounds_toArray, List.set_cons_zero, List.set_cons_succ]
  refine take1 25 31 (.string x9) rfl rfl (by kernel_rfl) (by kernel_rfl) (by kernel_rfl) (by rfl) (fun _ _ _ h => h) hT6 (fun w' hS' => ?_) ?_
  · obtain ⟨q0, q1, q2, q3, q4, q5, q6, q7⟩ := hS'; go_simp
  simp only [Act.put, List.setIfInBounds_toArray, List.set_cons_zero, List.set_cons_succ]
  refine wpAnyH_ready (rs := [28]) (by kernel_rfl) (by simp) ?_
  refine AllReadyH.cons rfl (fun K hK => ?_) AllReadyH.nil
  go_simp
  refine (y4.out _).mono ?_
  rintro r7 w7 ⟨rfl, hb7⟩
  have hB7 : Below w.heap.size w w7 := hB6.trans (hb7.mono hB6.size)
  have hT7 : w7.cell? ⟨w.heap.size, 0, none⟩ = some (.int .i64 k) ∧ w7.cell? ⟨w.heap.size, 1, none⟩ = some (.int .i64 2) ∧ w7.cell? ⟨w.heap.size, 2, none⟩ = some (.int .i64 a) ∧ w7.cell? ⟨w.heap.size, 3, none⟩ = some (.int .i64 b) ∧ w7.cell? ⟨w.heap.size, 4, none⟩ = some (.int .i64 c) ∧ w7.cell? ⟨w.heap.size, 5, none⟩ = some (.int .i64 d) ∧ w7.cell? ⟨w.heap.size, 6, none⟩ = some (.int .i64 e) ∧ w7.cell? ⟨w1.heap.size, 2, none⟩ = some (.string ⟨#[112, 97, 114, 116]⟩) := by
    obtain ⟨q0, q1, q2, q3, q4, q5, q6, q7⟩ := hT6
    exact ⟨cell_later hb7 q0, cell_later hb7 q1, cell_later hb7 q2, cell_later hb7 q3, cell_later hb7 q4, cell_later hb7 q5, cell_later hb7 q6, cell_later hb7 q7⟩
  refine hK.out _ _ hT7 (fun _ => ?_)
  clear hK K hT6 hB6 hb7
  refine take1 29 35 (.string x10) rfl rfl (by kernel_rfl) (by kernel_rfl) (by kernel_rfl) (by rfl) (fun _ _ _ h => h) hT7 (fun w' hS' => ?_) ?_
  · obtain ⟨q0, q1, q2, q3, q4, q5, q6, q7⟩ := hS'; go_simp
  simp only [Act.put, List.setIfInBounds_toArray, List.set_cons_zero, List.set_cons_succ]
  refine take1 30 36 (.string x11) rfl rfl (by kernel_rfl) (by kernel_rfl) (by kernel_rfl) (by rfl) (fun _ _ _ h => h) hT7 (fun w' hS' => ?_) ?_
  · obtain ⟨q0, q1, q2, q3, q4, q5, q6, q7⟩ := hS'; go_simp
  simp only [Act.put, List.setIfInBounds_toArray, List.set_cons_zero, List.set_cons_succ]
  refine wpAnyH_ready (rs := [33]) (by kernel_rfl) (by simp) ?_
  refine AllReadyH.cons rfl (fun K hK => ?_) AllReadyH.nil
  go_simp
  refine (y5.out _).mono ?_
  rintro r8 w8 ⟨rfl, hb8⟩
  have hB8 : Below w.heap.size w w8 := hB7.trans (hb8.mono hB7.size)
  have hT8 : w8.cell? ⟨w.heap.size, 0, none⟩ = some (.int .i64 k) ∧ w8.cell? ⟨w.heap.size, 1, none⟩ = some (.int .i64 2) ∧ w8.cell? ⟨w.heap.size, 2, none⟩ = some (.int .i64 a) ∧ w8.cell? ⟨w.heap.size, 3, none⟩ = some (.int .i64 b) ∧ w8.cell? ⟨w.heap.size, 4, none⟩ = some (.int .i64 c) ∧ w8.cell? ⟨w.heap.size, 5, none⟩ = some (.int .i64 d) ∧ w8.cell? ⟨w.heap.size, 6, none⟩ = some (.int .i64 e) ∧ w8.cell? ⟨w1.heap.size, 2, none⟩ = some (.string ⟨#[112, 97, 114, 116]⟩) := by
    obtain ⟨q0, q1, q2, q3, q4, q5, q6, q7⟩ := hT7
    exact ⟨cell_later hb8 q0, cell_later hb8 q1, cell_later hb8 q2, cell_later hb8 q3, cell_later hb8 q4, cell_later hb8 q5, cell_later hb8 q6, cell_later hb8 q7⟩
  refine hK.out _ _ hT8 (fun _ => ?_)
  clear hK K hT7 hB7 hb8
  refine take1 34 40 (.string x12) rfl rfl (by kernel_rfl) (by kernel_rfl) (by kernel_rfl) (by rfl) (fun _ _ _ h => h) hT8 (fun w' hS' => ?_) ?_
  · obtain ⟨q0, q1, q2, q3, q4, q5, q6, q7⟩ := hS'; go_simp
  simp only [Act.put, List.setIfInBounds_toArray, List.set_cons_zero, List.set_cons_succ]
  refine take1 35 2 (.string x12) rfl rfl (by kernel_rfl) (by kernel_rfl) (by kernel_rfl) (by rfl) (fun _ _ _ h => h) hT8 (fun w' hS' => ?_) ?_
  · obtain ⟨q0, q1, q2, q3, q4, q5, q6, q7⟩ := hS'; go_simp
  simp only [Act.put, List.setIfInBounds_toArray, List.set_cons_zero, List.set_cons_succ]
  refine wpAnyH_done (by kernel_rfl) ?_ _
  go_wp2
  go_ret
  exact ⟨rfl, hB8⟩

set_option maxHeartbeats 2000000 in
set_option maxRecDepth 100000 in
theorem specText3 (k a b c d e : Int) (w : World) (hok : okB k 3 a b c d e = true) (d0 d1 d2 d3 d4 d5 : ByteArray) (x1 x2 x3 x4 x5 x6 x7 x8 x9 x10 x11 x12 : ByteArray)
    (y0 : Hid (∀ w : World, Calls Tryz.prog 46 #[.int .i64 k] w fun e w' => e = .returned (.string d0) ∧ Below w.heap.size w w')) (y1 : Hid (∀ w : World, Calls Tryz.prog 46 #[.int .i64 a] w fun e w' => e = .returned (.string d1) ∧ Below w.heap.size w w')) (y2 : Hid (∀ w : World, Calls Tryz.prog 46 #[.int .i64 b] w fun e w' => e = .returned (.string d2) ∧ Below w.heap.size w w')) (y3 : Hid (∀ w : World, Calls Tryz.prog 46 #[.int .i64 c] w fun e w' => e = .returned (.string d3) ∧ Below w.heap.size w w')) (y4 : Hid (∀ w : World, Calls Tryz.prog 46 #[.int .i64 d] w fun e w' => e = .returned (.string d4) ∧ Below w.heap.size w w')) (y5 : Hid (∀ w : World, Calls Tryz.prog 46 #[.int .i64 e] w fun e w' => e = .returned (.string d5) ∧ Below w.heap.size w w'))
    (z1 : ∀ w : World, (Op.stringOp .add ⟨#[97, 117, 116, 104]⟩ ⟨#[32]⟩).run Tryz.prog w = .ok (.string x1) w) (z2 : ∀ w : World, (Op.stringOp .add x1 d0).run Tryz.prog w = .ok (.string x2) w) (z3 : ∀ w : World, (Op.stringOp .add x2 ⟨#[32]⟩).run Tryz.prog w = .ok (.string x3) w) (z4 : ∀ w : World, (Op.stringOp .add x3 d1).run Tryz.prog w = .ok (.string x4) w) (z5 : ∀ w : World, (Op.stringOp .add x4 ⟨#[32]⟩).run Tryz.prog w = .ok (.string x5) w) (z6 : ∀ w : World, (Op.stringOp .add x5 d2).run Tryz.prog w = .ok (.string x6) w) (z7 : ∀ w : World, (Op.stringOp .add x6 ⟨#[32]⟩).run Tryz.prog w = .ok (.string x7) w) (z8 : ∀ w : World, (Op.stringOp .add x7 d3).run Tryz.prog w = .ok (.string x8) w) (z9 : ∀ w : World, (Op.stringOp .add x8 ⟨#[32]⟩).run Tryz.prog w = .ok (.string x9) w) (z10 : ∀ w : World, (Op.stringOp .add x9 d4).run Tryz.prog w = .ok (.string x10) w) (z11 : ∀ w : World, (Op.stringOp .add x10 ⟨#[32]⟩).run Tryz.prog w = .ok (.string x11) w) (z12 : ∀ w : World, (Op.stringOp .add x11 d5).run Tryz.prog w = .ok (.string x12) w) :
    Calls Tryz.prog 41 #[.agg #[.int .i64 k, .int .i64 3, .int .i64 a, .int .i64 b, .int .i64 c, .int .i64 d, .int .i64 e]] w fun r w' => r = .returned (.string x12) ∧ Below w.heap.size w w' := by
  go_enter Tryz.func41, Tryz.ntmps41
  go_wp2_with (go_at_call 65; refine (specOk_any _ _ _ _ _ _ _ _).mono ?_; rintro r1 w1 ⟨rfl, hb1⟩)
  obtain ⟨hc1, hf1⟩ := bcell hb1
  have hB1 : Below w.heap.size w w1 := ((Below.refl _ _).alloc (Nat.le_refl _) _).trans (hb1.mono (by simp))
  clear hok
  have p0 : w1.cell? ⟨w.heap.size, 0, none⟩ = some (.int .i64 k) := (hc1 _ _ (by simp)).trans (by go_simp)
  have p1 : w1.cell? ⟨w.heap.size, 1, none⟩ = some (.int .i64 3) := (hc1 _ _ (by simp)).trans (by go_simp)
  have p2 : w1.cell? ⟨w.heap.size, 2, none⟩ = some (.int .i64 a) := (hc1 _ _ (by simp)).trans (by go_simp)
  have p3 : w1.cell? ⟨w.heap.size, 3, none⟩ = some (.int .i64 b) := (hc1 _ _ (by simp)).trans (by go_simp)
  have p4 : w1.cell? ⟨w.heap.size, 4, none⟩ = some (.int .i64 c) := (hc1 _ _ (by simp)).trans (by go_simp)
  have p5 : w1.cell? ⟨w.heap.size, 5, none⟩ = some (.int .i64 d) := (hc1 _ _ (by simp)).trans (by go_simp)
  have p6 : w1.cell? ⟨w.heap.size, 6, none⟩ = some (.int .i64 e) := (hc1 _ _ (by simp)).trans (by go_simp)
  clear hc1 hf1 hb1
  refine wp_region_held_drew (S := fun w' => w'.cell? ⟨w.heap.size, 0, none⟩ = some (.int .i64 k) ∧ w'.cell? ⟨w.heap.size, 1, none⟩ = some (.int .i64 3) ∧ w'.cell? ⟨w.heap.size, 2, none⟩ = some (.int .i64 a) ∧ w'.cell? ⟨w.heap.size, 3, none⟩ = some (.int .i64 b) ∧ w'.cell? ⟨w.heap.size, 4, none⟩ = some (.int .i64 c) ∧ w'.cell? ⟨w.heap.size, 5, none⟩ = some (.int .i64 d) ∧ w'.cell? ⟨w.heap.size, 6, none⟩ = some (.int .i64 e)) (by kernel_rfl) ⟨p0, p1, p2, p3, p4, p5, p6⟩ (fun hS => ?_)
  clear p0 p1 p2 p3 p4 p5 p6
  refine take1 1 7 (.pointer (some ⟨w.heap.size, 1, none⟩)) rfl rfl (by kernel_rfl) (by kernel_rfl) (by kernel_rfl) (by rfl) (fun _ _ _ h => h) hS (fun w' hS' => ?_) ?_
  · obtain ⟨q0, q1, q2, q3, q4, q5, q6⟩ := hS'; go_simp
  simp only [Act.put, List.setIfInBounds_toArray, List.set_cons_zero, List.set_cons_succ]
  refine take1 2 8 (.int .i64 3) rfl rfl (by kernel_rfl) (by kernel_rfl) (by kernel_rfl) (by rfl) (fun _ _ _ h => h) hS (fun w' hS' => ?_) ?_
  · obtain ⟨q0, q1, q2, q3, q4, q5, q6⟩ := hS'; go_simp
  simp only [Act.put, List.setIfInBounds_toArray, List.set_cons_zero, List.set_cons_succ]
  refine take1 6 12 (.pointer (some ⟨w.heap.size, 0, none⟩)) rfl rfl (by kernel_rfl) (by kernel_rfl) (by kernel_rfl) (by rfl) (fun _ _ _ h => h) hS (fun w' hS' => ?_) ?_
  · obtain ⟨q0, q1, q2, q3, q4, q5, q6⟩ := hS'; go_simp
  simp only [Act.put, List.setIfInBounds_toArray, List.set_cons_zero, List.set_cons_succ]
  refine take1 7 13 (.int .i64 k) rfl rfl (by kernel_rfl) (by kernel_rfl) (by kernel_rfl) (by rfl) (fun _ _ _ h => h) hS (fun w' hS' => ?_) ?_
  · obtain ⟨q0, q1, q2, q3, q4, q5, q6⟩ := hS'; go_simp
  simp only [Act.put, List.setIfInBounds_toArray, List.set_cons_zero, List.set_cons_succ]
  refine take1 11 17 (.pointer (some ⟨w.heap.size, 2, none⟩)) rfl rfl (by kernel_rfl) (by kernel_rfl) (by kernel_rfl) (by rfl) (fun _ _ _ h => h) hS (fun w' hS' => ?_) ?_
  · obtain ⟨q0, q1, q2, q3, q4, q5, q6⟩ := hS'; go_simp
  simp only [Act.put, List.setIfInBounds_toArray, List.set_cons_zero, List.set_cons_succ]
  refine take1 12 18 (.int .i64 a) rfl rfl (by kernel_rfl) (by kernel_rfl) (by kernel_rfl) (by rfl) (fun _ _ _ h => h) hS (fun w' hS' => ?_) ?_
  · obtain ⟨q0, q1, q2, q3, q4, q5, q6⟩ := hS'; go_simp
  simp only [Act.put, List.setIfInBounds_toArray, List.set_cons_zero, List.set_cons_succ]
  refine take1 16 22 (.pointer (some ⟨w.heap.size, 3, none⟩)) rfl rfl (by kernel_rfl) (by kernel_rfl) (by kernel_rfl) (by rfl) (fun _ _ _ h => h) hS (fun w' hS' => ?_) ?_
  · obtain ⟨q0, q1, q2, q3, q4, q5, q6⟩ := hS'; go_simp
  simp only [Act.put, List.setIfInBounds_toArray, List.set_cons_zero, List.set_cons_succ]
  refine take1 17 23 (.int .i64 b) rfl rfl (by kernel_rfl) (by kernel_rfl) (by kernel_rfl) (by rfl) (fun _ _ _ h => h) hS (fun w' hS' => ?_) ?_
  · obtain ⟨q0, q1, q2, q3, q4, q5, q6⟩ := hS'; go_simp
  simp only [Act.put, List.setIfInBounds_toArray, List.set_cons_zero, List.set_cons_succ]
  refine take1 21 27 (.pointer (some ⟨w.heap.size, 4, none⟩)) rfl rfl (by kernel_rfl) (by kernel_rfl) (by kernel_rfl) (by rfl) (fun _ _ _ h => h) hS (fun w' hS' => ?_) ?_
  · obtain ⟨q0, q1, q2, q3, q4, q5, q6⟩ := hS'; go_simp
  simp only [Act.put, List.setIfInBounds_toArray, List.set_cons_zero, List.set_cons_succ]
  refine take1 22 28 (.int .i64 c) rfl rfl (by kernel_rfl) (by kernel_rfl) (by kernel_rfl) (by rfl) (fun _ _ _ h => h) hS (fun w' hS' => ?_) ?_
  · obtain ⟨q0, q1, q2, q3, q4, q5, q6⟩ := hS'; go_simp
  simp only [Act.put, List.setIfInBounds_toArray, List.set_cons_zero, List.set_cons_succ]
  refine take1 26 32 (.pointer (some ⟨w.heap.size, 5, none⟩)) rfl rfl (by kernel_rfl) (by kernel_rfl) (by kernel_rfl) (by rfl) (fun _ _ _ h => h) hS (fun w' hS' => ?_) ?_
  · obtain ⟨q0, q1, q2, q3, q4, q5, q6⟩ := hS'; go_simp
  simp only [Act.put, List.setIfInBounds_toArray, List.set_cons_zero, List.set_cons_succ]
  refine take1 27 33 (.int .i64 d) rfl rfl (by kernel_rfl) (by kernel_rfl) (by kernel_rfl) (by rfl) (fun _ _ _ h => h) hS (fun w' hS' => ?_) ?_
  · obtain ⟨q0, q1, q2, q3, q4, q5, q6⟩ := hS'; go_simp
  simp only [Act.put, List.setIfInBounds_toArray, List.set_cons_zero, List.set_cons_succ]
  refine take1 31 37 (.pointer (some ⟨w.heap.size, 6, none⟩)) rfl rfl (by kernel_rfl) (by kernel_rfl) (by kernel_rfl) (by rfl) (fun _ _ _ h => h) hS (fun w' hS' => ?_) ?_
  · obtain ⟨q0, q1, q2, q3, q4, q5, q6⟩ := hS'; go_simp
  simp only [Act.put, List.setIfInBounds_toArray, List.set_cons_zero, List.set_cons_succ]
  refine take1 32 38 (.int .i64 e) rfl rfl (by kernel_rfl) (by kernel_rfl) (by kernel_rfl) (by rfl) (fun _ _ _ h => h) hS (fun w' hS' => ?_) ?_
  · obtain ⟨q0, q1, q2, q3, q4, q5, q6⟩ := hS'; go_simp
  simp only [Act.put, List.setIfInBounds_toArray, List.set_cons_zero, List.set_cons_succ]
  refine wpAnyH_ready (rs := [0]) (by kernel_rfl) (by simp) ?_
  refine AllReadyH.cons rfl (fun K hK => ?_) AllReadyH.nil
  go_simp
  refine (l1Names_at w1.drew w1.heap.size rfl).mono ?_
  rintro r2 w2 ⟨rfl, hb2, n1, n2, n3, n4⟩
  have hB2 : Below w.heap.size w w2 := hB1.drew.trans (hb2.mono hB1.size)
  have hT2 : w2.cell? ⟨w.heap.size, 0, none⟩ = some (.int .i64 k) ∧ w2.cell? ⟨w.heap.size, 1, none⟩ = some (.int .i64 3) ∧ w2.cell? ⟨w.heap.size, 2, none⟩ = some (.int .i64 a) ∧ w2.cell? ⟨w.heap.size, 3, none⟩ = some (.int .i64 b) ∧ w2.cell? ⟨w.heap.size, 4, none⟩ = some (.int .i64 c) ∧ w2.cell? ⟨w.heap.size, 5, none⟩ = some (.int .i64 d) ∧ w2.cell? ⟨w.heap.size, 6, none⟩ = some (.int .i64 e) ∧ w2.cell? ⟨w1.heap.size, 3, none⟩ = some (.string ⟨#[97, 117, 116, 104]⟩) := by
    obtain ⟨q0, q1, q2, q3, q4, q5, q6⟩ := hS
    exact ⟨cell_later hb2 q0, cell_later hb2 q1, cell_later hb2 q2, cell_later hb2 q3, cell_later hb2 q4, cell_later hb2 q5, cell_later hb2 q6, n3⟩
  refine hK.out _ _ ⟨hT2.1, hT2.2.1, hT2.2.2.1, hT2.2.2.2.1, hT2.2.2.2.2.1, hT2.2.2.2.2.2.1, hT2.2.2.2.2.2.2.1⟩ (fun _ => ?_)
  clear hK K hS n1 n2 n3 n4 hB1 hb2
  refine held_mono (S' := fun w' => w'.cell? ⟨w.heap.size, 0, none⟩ = some (.int .i64 k) ∧ w'.cell? ⟨w.heap.size, 1, none⟩ = some (.int .i64 3) ∧ w'.cell? ⟨w.heap.size, 2, none⟩ = some (.int .i64 a) ∧ w'.cell? ⟨w.heap.size, 3, none⟩ = some (.int .i64 b) ∧ w'.cell? ⟨w.heap.size, 4, none⟩ = some (.int .i64 c) ∧ w'.cell? ⟨w.heap.size, 5, none⟩ = some (.int .i64 d) ∧ w'.cell? ⟨w.heap.size, 6, none⟩ = some (.int .i64 e) ∧ w'.cell? ⟨w1.heap.size, 3, none⟩ = some (.string ⟨#[97, 117, 116, 104]⟩)) (fun _ h => ⟨h.1, h.2.1, h.2.2.1, h.2.2.2.1, h.2.2.2.2.1, h.2.2.2.2.2.1, h.2.2.2.2.2.2.1⟩) _ _ _ _ ?_
  refine take1 3 9 (.pointer (some ⟨w1.heap.size, 3, none⟩)) rfl rfl (by kernel_rfl) (by kernel_rfl) (by kernel_rfl) (by rfl) (fun _ _ _ h => h) hT2 (fun w' hS' => ?_) ?_
  · obtain ⟨q0, q1, q2, q3, q4, q5, q6, q7⟩ := hS'; go_simp
  simp only [Act.put, List.setIfInBounds_toArray, List.set_cons_zero, List.set_cons_succ]
  refine take1 4 10 (.string ⟨#[97, 117, 116, 104]⟩) rfl rfl (by kernel_rfl) (by kernel_rfl) (by kernel_rfl) (by rfl) (fun _ _ _ h => h) hT2 (fun w' hS' => ?_) ?_
  · obtain ⟨q0, q1, q2, q3, q4, q5, q6, q7⟩ := hS'; go_simp
  simp only [Act.put, List.setIfInBounds_toArray, List.set_cons_zero, List.set_cons_succ]
  refine take1 5 11 (.string x1) rfl rfl (by kernel_rfl) (by kernel_rfl) (by kernel_rfl) (by rfl) (fun _ _ _ h => h) hT2 (fun w' hS' => ?_) ?_
  · obtain ⟨q0, q1, q2, q3, q4, q5, q6, q7⟩ := hS'; go_simp
  simp only [Act.put, List.setIfInBounds_toArray, List.set_cons_zero, List.set_cons_succ]
  refine wpAnyH_ready (rs := [8]) (by kernel_rfl) (by simp) ?_
  refine AllReadyH.cons rfl (fun K hK => ?_) AllReadyH.nil
  go_simp
  refine (y0.out _).mono ?_
  rintro r3 w3 ⟨rfl, hb3⟩
  have hB3 : Below w.heap.size w w3 := hB2.trans (hb3.mono hB2.size)
  have hT3 : w3.cell? ⟨w.heap.size, 0, none⟩ = some (.int .i64 k) ∧ w3.cell? ⟨w.heap.size, 1, none⟩ = some (.int .i64 3) ∧ w3.cell? ⟨w.heap.size, 2, none⟩ = some (.int .i64 a) ∧ w3.cell? ⟨w.heap.size, 3, none⟩ = some (.int .i64 b) ∧ w3.cell? ⟨w.heap.size, 4, none⟩ = some (.int .i64 c) ∧ w3.cell? ⟨w.heap.size, 5, none⟩ = some (.int .i64 d) ∧ w3.cell? ⟨w.heap.size, 6, none⟩ = some (.int .i64 e) ∧ w3.cell? ⟨w1.heap.size, 3, none⟩ = some (.string ⟨#[97, 117, 116, 104]⟩) := by
    obtain ⟨q0, q1, q2, q3, q4, q5, q6, q7⟩ := hT2
    exact ⟨cell_later hb3 q0, cell_later hb3 q1, cell_later hb3 q2, cell_later hb3 q3, cell_later hb3 q4, cell_later hb3 q5, cell_later hb3 q6, cell_later hb3 q7⟩
  refine hK.out _ _ hT3 (fun _ => ?_)
  clear hK K hT2 hB2 hb3
  refine take1 9 15 (.string x2) rfl rfl (by kernel_rfl) (by kernel_rfl) (by kernel_rfl) (by rfl) (fun _ _ _ h => h) hT3 (fun w' hS' => ?_) ?_
  · obtain ⟨q0, q1, q2, q3, q4, q5, q6, q7⟩ := hS'; go_simp
  simp only [Act.put, List.setIfInBounds_toArray, List.set_cons_zero, List.set_cons_succ]
  refine take1 10 16 (.string x3) rfl rfl (by kernel_rfl) (by kernel_rfl) (by kernel_rfl) (by rfl) (fun _ _ _ h => h) hT3 (fun w' hS' => ?_) ?_
  · obtain ⟨q0, q1, q2, q3, q4, q5, q6, q7⟩ := hS'; go_simp
  simp only [Act.put, List.setIfInBounds_toArray, List.set_cons_zero, List.set_cons_succ]
  refine wpAnyH_ready (rs := [13]) (by kernel_rfl) (by simp) ?_
  refine AllReadyH.cons rfl (fun K hK => ?_) AllReadyH.nil
  go_simp
  refine (y1.out _).mono ?_
  rintro r4 w4 ⟨rfl, hb4⟩
  have hB4 : Below w.heap.size w w4 := hB3.trans (hb4.mono hB3.size)
  have hT4 : w4.cell? ⟨w.heap.size, 0, none⟩ = some (.int .i64 k) ∧ w4.cell? ⟨w.heap.size, 1, none⟩ = some (.int .i64 3) ∧ w4.cell? ⟨w.heap.size, 2, none⟩ = some (.int .i64 a) ∧ w4.cell? ⟨w.heap.size, 3, none⟩ = some (.int .i64 b) ∧ w4.cell? ⟨w.heap.size, 4, none⟩ = some (.int .i64 c) ∧ w4.cell? ⟨w.heap.size, 5, none⟩ = some (.int .i64 d) ∧ w4.cell? ⟨w.heap.size, 6, none⟩ = some (.int .i64 e) ∧ w4.cell? ⟨w1.heap.size, 3, none⟩ = some (.string ⟨#[97, 117, 116, 104]⟩) := by
    obtain ⟨q0, q1, q2, q3, q4, q5, q6, q7⟩ := hT3
    exact ⟨cell_later hb4 q0, cell_later hb4 q1, cell_later hb4 q2, cell_later hb4 q3, cell_later hb4 q4, cell_later hb4 q5, cell_later hb4 q6, cell_later hb4 q7⟩
  refine hK.out _ _ hT4 (fun _ => ?_)
  clear hK K hT3 hB3 hb4
  refine take1 14 20 (.string x4) rfl rfl (by kernel_rfl) (by kernel_rfl) (by kernel_rfl) (by rfl) (fun _ _ _ h => h) hT4 (fun w' hS' => ?_) ?_
  · obtain ⟨q0, q1, q2, q3, q4, q5, q6, q7⟩ := hS'; go_simp
  simp only [Act.put, List.setIfInBounds_toArray, List.set_cons_zero, List.set_cons_succ]
  refine take1 15 21 (.string x5) rfl rfl (by kernel_rfl) (by kernel_rfl) (by kernel_rfl) (by rfl) (fun _ _ _ h => h) hT4 (fun w' hS' => ?_) ?_
  · obtain ⟨q0, q1, q2, q3, q4, q5, q6, q7⟩ := hS'; go_simp
  simp only [Act.put, List.setIfInBounds_toArray, List.set_cons_zero, List.set_cons_succ]
  refine wpAnyH_ready (rs := [18]) (by kernel_rfl) (by simp) ?_
  refine AllReadyH.cons rfl (fun K hK => ?_) AllReadyH.nil
  go_simp
  refine (y2.out _).mono ?_
  rintro r5 w5 ⟨rfl, hb5⟩
  have hB5 : Below w.heap.size w w5 := hB4.trans (hb5.mono hB4.size)
  have hT5 : w5.cell? ⟨w.heap.size, 0, none⟩ = some (.int .i64 k) ∧ w5.cell? ⟨w.heap.size, 1, none⟩ = some (.int .i64 3) ∧ w5.cell? ⟨w.heap.size, 2, none⟩ = some (.int .i64 a) ∧ w5.cell? ⟨w.heap.size, 3, none⟩ = some (.int .i64 b) ∧ w5.cell? ⟨w.heap.size, 4, none⟩ = some (.int .i64 c) ∧ w5.cell? ⟨w.heap.size, 5, none⟩ = some (.int .i64 d) ∧ w5.cell? ⟨w.heap.size, 6, none⟩ = some (.int .i64 e) ∧ w5.cell? ⟨w1.heap.size, 3, none⟩ = some (.string ⟨#[97, 117, 116, 104]⟩) := by
    obtain ⟨q0, q1, q2, q3, q4, q5, q6, q7⟩ := hT4
    exact ⟨cell_later hb5 q0, cell_later hb5 q1, cell_later hb5 q2, cell_later hb5 q3, cell_later hb5 q4, cell_later hb5 q5, cell_later hb5 q6, cell_later hb5 q7⟩
  refine hK.out _ _ hT5 (fun _ => ?_)
  clear hK K hT4 hB4 hb5
  refine take1 19 25 (.string x6) rfl rfl (by kernel_rfl) (by kernel_rfl) (by kernel_rfl) (by rfl) (fun _ _ _ h => h) hT5 (fun w' hS' => ?_) ?_
  · obtain ⟨q0, q1, q2, q3, q4, q5, q6, q7⟩ := hS'; go_simp
  simp only [Act.put, List.setIfInBounds_toArray, List.set_cons_zero, List.set_cons_succ]
  refine take1 20 26 (.string x7) rfl rfl (by kernel_rfl) (by kernel_rfl) (by kernel_rfl) (by rfl) (fun _ _ _ h => h) hT5 (fun w' hS' => ?_) ?_
  · obtain ⟨q0, q1, q2, q3, q4, q5, q6, q7⟩ := hS'; go_simp
  simp only [Act.put, List.setIfInBounds_toArray, List.set_cons_zero, List.set_cons_succ]
  refine wpAnyH_ready (rs := [23]) (by kernel_rfl) (by simp) ?_
  refine AllReadyH.cons rfl (fun K hK => ?_) AllReadyH.nil
  go_simp
  refine (y3.out _).mono ?_
  rintro r6 w6 ⟨rfl, hb6⟩
  have hB6 : Below w.heap.size w w6 := hB5.trans (hb6.mono hB5.size)
  have hT6 : w6.cell? ⟨w.heap.size, 0, none⟩ = some (.int .i64 k) ∧ w6.cell? ⟨w.heap.size, 1, none⟩ = some (.int .i64 3) ∧ w6.cell? ⟨w.heap.size, 2, none⟩ = some (.int .i64 a) ∧ w6.cell? ⟨w.heap.size, 3, none⟩ = some (.int .i64 b) ∧ w6.cell? ⟨w.heap.size, 4, none⟩ = some (.int .i64 c) ∧ w6.cell? ⟨w.heap.size, 5, none⟩ = some (.int .i64 d) ∧ w6.cell? ⟨w.heap.size, 6, none⟩ = some (.int .i64 e) ∧ w6.cell? ⟨w1.heap.size, 3, none⟩ = some (.string ⟨#[97, 117, 116, 104]⟩) := by
    obtain ⟨q0, q1, q2, q3, q4, q5, q6, q7⟩ := hT5
    exact ⟨cell_later hb6 q0, cell_later hb6 q1, cell_later hb6 q2, cell_later hb6 q3, cell_later hb6 q4, cell_later hb6 q5, cell_later hb6 q6, cell_later hb6 q7⟩
  refine hK.out _ _ hT6 (fun _ => ?_)
  clear hK K hT5 hB5 hb6
  refine take1 24 30 (.string x8) rfl rfl (by kernel_rfl) (by kernel_rfl) (by kernel_rfl) (by rfl) (fun _ _ _ h => h) hT6 (fun w' hS' => ?_) ?_
  · obtain ⟨q0, q1, q2, q3, q4, q5, q6, q7⟩ := hS'; go_simp
  simp only [Act.put, List.setIfInBounds_toArray, List.set_cons_zero, List.set_cons_succ]
  refine take1 25 31 (.string x9) rfl rfl (by kernel_rfl) (by kernel_rfl) (by kernel_rfl) (by rfl) (fun _ _ _ h => h) hT6 (fun w' hS' => ?_) ?_
  · obtain ⟨q0, q1, q2, q3, q4, q5, q6, q7⟩ := hS'; go_simp
  simp only [Act.put, List.setIfInBounds_toArray, List.set_cons_zero, List.set_cons_succ]
  refine wpAnyH_ready (rs := [28]) (by kernel_rfl) (by simp) ?_
  refine AllReadyH.cons rfl (fun K hK => ?_) AllReadyH.nil
  go_simp
  refine (y4.out _).mono ?_
  rintro r7 w7 ⟨rfl, hb7⟩
  have hB7 : Below w.heap.size w w7 := hB6.trans (hb7.mono hB6.size)
  have hT7 : w7.cell? ⟨w.heap.size, 0, none⟩ = some (.int .i64 k) ∧ w7.cell? ⟨w.heap.size, 1, none⟩ = some (.int .i64 3) ∧ w7.cell? ⟨w.heap.size, 2, none⟩ = some (.int .i64 a) ∧ w7.cell? ⟨w.heap.size, 3, none⟩ = some (.int .i64 b) ∧ w7.cell? ⟨w.heap.size, 4, none⟩ = some (.int .i64 c) ∧ w7.cell? ⟨w.heap.size, 5, none⟩ = some (.int .i64 d) ∧ w7.cell? ⟨w.heap.size, 6, none⟩ = some (.int .i64 e) ∧ w7.cell? ⟨w1.heap.size, 3, none⟩ = some (.string ⟨#[97, 117, 116, 104]⟩) := by
    obtain ⟨q0, q1, q2, q3, q4, q5, q6, q7⟩ := hT6
    exact ⟨cell_later hb7 q0, cell_later hb7 q1, cell_later hb7 q2, cell_later hb7 q3, cell_later hb7 q4, cell_later hb7 q5, cell_later hb7 q6, cell_later hb7 q7⟩
  refine hK.out _ _ hT7 (fun _ => ?_)
  clear hK K hT6 hB6 hb7
  refine take1 29 35 (.string x10) rfl rfl (by kernel_rfl) (by kernel_rfl) (by kernel_rfl) (by rfl) (fun _ _ _ h => h) hT7 (fun w' hS' => ?_) ?_
  · obtain ⟨q0, q1, q2, q3, q4, q5, q6, q7⟩ := hS'; go_simp
  simp only [Act.put, List.setIfInBounds_toArray, List.set_cons_zero, List.set_cons_succ]
  refine take1 30 36 (.string x11) rfl rfl (by kernel_rfl) (by kernel_rfl) (by kernel_rfl) (by rfl) (fun _ _ _ h => h) hT7 (fun w' hS' => ?_) ?_
  · obtain ⟨q0, q1, q2, q3, q4, q5, q6, q7⟩ := hS'; go_simp
  simp only [Act.put, List.setIfInBounds_toArray, List.set_cons_zero, List.set_cons_succ]
  refine wpAnyH_ready (rs := [33]) (by kernel_rfl) (by simp) ?_
  refine AllReadyH.cons rfl (fun K hK => ?_) AllReadyH.nil
  go_simp
  refine (y5.out _).mono ?_
  rintro r8 w8 ⟨rfl, hb8⟩
  have hB8 : Below w.heap.size w w8 := hB7.trans (hb8.mono hB7.size)
  have hT8 : w8.cell? ⟨w.heap.size, 0, none⟩ = some (.int .i64 k) ∧ w8.cell? ⟨w.heap.size, 1, none⟩ = some (.int .i64 3) ∧ w8.cell? ⟨w.heap.size, 2, none⟩ = some (.int .i64 a) ∧ w8.cell? ⟨w.heap.size, 3, none⟩ = some (.int .i64 b) ∧ w8.cell? ⟨w.heap.size, 4, none⟩ = some (.int .i64 c) ∧ w8.cell? ⟨w.heap.size, 5, none⟩ = some (.int .i64 d) ∧ w8.cell? ⟨w.heap.size, 6, none⟩ = some (.int .i64 e) ∧ w8.cell? ⟨w1.heap.size, 3, none⟩ = some (.string ⟨#[97, 117, 116, 104]⟩) := by
    obtain ⟨q0, q1, q2, q3, q4, q5, q6, q7⟩ := hT7
    exact ⟨cell_later hb8 q0, cell_later hb8 q1, cell_later hb8 q2, cell_later hb8 q3, cell_later hb8 q4, cell_later hb8 q5, cell_later hb8 q6, cell_later hb8 q7⟩
  refine hK.out _ _ hT8 (fun _ => ?_)
  clear hK K hT7 hB7 hb8
  refine take1 34 40 (.string x12) rfl rfl (by kernel_rfl) (by kernel_rfl) (by kernel_rfl) (by rfl) (fun _ _ _ h => h) hT8 (fun w' hS' => ?_) ?_
  · obtain ⟨q0, q1, q2, q3, q4, q5, q6, q7⟩ := hS'; go_simp
  simp only [Act.put, List.setIfInBounds_toArray, List.set_cons_zero, List.set_cons_succ]
  refine take1 35 2 (.string x12) rfl rfl (by kernel_rfl) (by kernel_rfl) (by kernel_rfl) (by rfl) (fun _ _ _ h => h) hT8 (fun w' hS' => ?_) ?_
  · obtain ⟨q0, q1, q2, q3, q4, q5, q6, q7⟩ := hS'; go_simp
  simp only [Act.put, List.setIfInBounds_toArray, List.set_cons_zero, List.set_cons_succ]
  refine wpAnyH_done (by kernel_rfl) ?_ _
  go_wp2
  go_ret
  exact ⟨rfl, hB8⟩

set_option maxHeartbeats 2000000 in
set_option maxRecDepth 100000 in
theorem specText4 (k a b c d e : Int) (w : World) (hok : okB k 4 a b c d e = true) (d0 d1 d2 d3 d4 d5 : ByteArray) (x1 x2 x3 x4 x5 x6 x7 x8 x9 x10 x11 x12 : ByteArray)
    (y0 : Hid (∀ w : World, Calls Tryz.prog 46 #[.int .i64 k] w fun e w' => e = .returned (.string d0) ∧ Below w.heap.size w w')) (y1 : Hid (∀ w : World, Calls Tryz.prog 46 #[.int .i64 a] w fun e w' => e = .returned (.string d1) ∧ Below w.heap.size w w')) (y2 : Hid (∀ w : World, Calls Tryz.prog 46 #[.int .i64 b] w fun e w' => e = .returned (.string d2) ∧ Below w.heap.size w w')) (y3 : Hid (∀ w : World, Calls Tryz.prog 46 #[.int .i64 c] w fun e w' => e = .returned (.string d3) ∧ Below w.heap.size w w')) (y4 : Hid (∀ w : World, Calls Tryz.prog 46 #[.int .i64 d] w fun e w' => e = .returned (.string d4) ∧ Below w.heap.size w w')) (y5 : Hid (∀ w : World, Calls Tryz.prog 46 #[.int .i64 e] w fun e w' => e = .returned (.string d5) ∧ Below w.heap.size w w'))
    (z1 : ∀ w : World, (Op.stringOp .add ⟨#[98, 97, 99, 107]⟩ ⟨#[32]⟩).run Tryz.prog w = .ok (.string x1) w) (z2 : ∀ w : World, (Op.stringOp .add x1 d0).run Tryz.prog w = .ok (.string x2) w) (z3 : ∀ w : World, (Op.stringOp .add x2 ⟨#[32]⟩).run Tryz.prog w = .ok (.string x3) w) (z4 : ∀ w : World, (Op.stringOp .add x3 d1).run Tryz.prog w = .ok (.string x4) w) (z5 : ∀ w : World, (Op.stringOp .add x4 ⟨#[32]⟩).run Tryz.prog w = .ok (.string x5) w) (z6 : ∀ w : World, (Op.stringOp .add x5 d2).run Tryz.prog w = .ok (.string x6) w) (z7 : ∀ w : World, (Op.stringOp .add x6 ⟨#[32]⟩).run Tryz.prog w = .ok (.string x7) w) (z8 : ∀ w : World, (Op.stringOp .add x7 d3).run Tryz.prog w = .ok (.string x8) w) (z9 : ∀ w : World, (Op.stringOp .add x8 ⟨#[32]⟩).run Tryz.prog w = .ok (.string x9) w) (z10 : ∀ w : World, (Op.stringOp .add x9 d4).run Tryz.prog w = .ok (.string x10) w) (z11 : ∀ w : World, (Op.stringOp .add x10 ⟨#[32]⟩).run Tryz.prog w = .ok (.string x11) w) (z12 : ∀ w : World, (Op.stringOp .add x11 d5).run Tryz.prog w = .ok (.string x12) w) :
    Calls Tryz.prog 41 #[.agg #[.int .i64 k, .int .i64 4, .int .i64 a, .int .i64 b, .int .i64 c, .int .i64 d, .int .i64 e]] w fun r w' => r = .returned (.string x12) ∧ Below w.heap.size w w' := by
  go_enter Tryz.func41, Tryz.ntmps41
  go_wp2_with (go_at_call 65; refine (specOk_any _ _ _ _ _ _ _ _).mono ?_; rintro r1 w1 ⟨rfl, hb1⟩)
  obtain ⟨hc1, hf1⟩ := bcell hb1
  have hB1 : Below w.heap.size w w1 := ((Below.refl _ _).alloc (Nat.le_refl _) _).trans (hb1.mono (by simp))
  clear hok
  have p0 : w1.cell? ⟨w.heap.size, 0, none⟩ = some (.int .i64 k) := (hc1 _ _ (by simp)).trans (by go_simp)
  have p1 : w1.cell? ⟨w.heap.size, 1, none⟩ = some (.int .i64 4) := (hc1 _ _ (by simp)).trans (by go_simp)
  have p2 : w1.cell? ⟨w.heap.size, 2, none⟩ = some (.int .i64 a) := (hc1 _ _ (by simp)).trans (by go_simp)
  have p3 : w1.cell? ⟨w.heap.size, 3, none⟩ = some (.int .i64 b) := (hc1 _ _ (by simp)).trans (by go_simp)
  have p4 : w1.cell? ⟨w.heap.size, 4, none⟩ = some (.int .i64 c) := (hc1 _ _ (by simp)).trans (by go_simp)
  have p5 : w1.cell? ⟨w.heap.size, 5, none⟩ = some (.int .i64 d) := (hc1 _ _ (by simp)).trans (by go_simp)
  have p6 : w1.cell? ⟨w.heap.size, 6, none⟩ = some (.int .i64 e) := (hc1 _ _ (by simp)).trans (by go_simp)
  clear hc1 hf1 hb1
  refine wp_region_held_drew (S := fun w' => w'.cell? ⟨w.heap.size, 0, none⟩ = some (.int .i64 k) ∧ w'.cell? ⟨w.heap.size, 1, none⟩ = some (.int .i64 4) ∧ w'.cell? ⟨w.heap.size, 2, none⟩ = some (.int .i64 a) ∧ w'.cell? ⟨w.heap.size, 3, none⟩ = some (.int .i64 b) ∧ w'.cell? ⟨w.heap.size, 4, none⟩ = some (.int .i64 c) ∧ w'.cell? ⟨w.heap.size, 5, none⟩ = some (.int .i64 d) ∧ w'.cell? ⟨w.heap.size, 6, none⟩ = some (.int .i64 e)) (by kernel_rfl) ⟨p0, p1, p2, p3, p4, p5, p6⟩ (fun hS => ?_)
  clear p0 p1 p2 p3 p4 p5 p6
  refine take1 1 7 (.pointer (some ⟨w.heap.size, 1, none⟩)) rfl rfl (by kernel_rfl) (by kernel_rfl) (by kernel_rfl) (by rfl) (fun _ _ _ h => h) hS (fun w' hS' => ?_) ?_
  · obtain ⟨q0, q1, q2, q3, q4, q5, q6⟩ := hS'; go_simp
  simp only [Act.put, List.setIfInBounds_toArray, List.set_cons_zero, List.set_cons_succ]
  refine take1 2 8 (.int .i64 4) rfl rfl (by kernel_rfl) (by kernel_rfl) (by kernel_rfl) (by rfl) (fun _ _ _ h => h) hS (fun w' hS' => ?_) ?_
  · obtain ⟨q0, q1, q2, q3, q4, q5, q6⟩ := hS'; go_simp
  simp only [Act.put, List.setIfInBounds_toArray, List.set_cons_zero, List.set_cons_succ]
  refine take1 6 12 (.pointer (some ⟨w.heap.size, 0, none⟩)) rfl rfl (by kernel_rfl) (by kernel_rfl) (by kernel_rfl) (by rfl) (fun _ _ _ h => h) hS (fun w' hS' => ?_) ?_
  · obtain ⟨q0, q1, q2, q3, q4, q5, q6⟩ := hS'; go_simp
  simp only [Act.put, List.setIfInBounds_toArray, List.set_cons_zero, List.set_cons_succ]
  refine take1 7 13 (.int .i64 k) rfl rfl (by kernel_rfl) (by kernel_rfl) (by kernel_rfl) (by rfl) (fun _ _ _ h => h) hS (fun w' hS' => ?_) ?_
  · obtain ⟨q0, q1, q2, q3, q4, q5, q6⟩ := hS'; go_simp
  simp only [Act.put, List.setIfInBounds_toArray, List.set_cons_zero, List.set_cons_succ]
  refine take1 11 17 (.pointer (some ⟨w.heap.size, 2, none⟩)) rfl rfl (by kernel_rfl) (by kernel_rfl) (by kernel_rfl) (by rfl) (fun _ _ _ h => h) hS (fun w' hS' => ?_) ?_
  · obtain ⟨q0, q1, q2, q3, q4, q5, q6⟩ := hS'; go_simp
  simp only [Act.put, List.setIfInBounds_toArray, List.set_cons_zero, List.set_cons_succ]
  refine take1 12 18 (.int .i64 a) rfl rfl (by kernel_rfl) (by kernel_rfl) (by kernel_rfl) (by rfl) (fun _ _ _ h => h) hS (fun w' hS' => ?_) ?_
  · obtain ⟨q0, q1, q2, q3, q4, q5, q6⟩ := hS'; go_simp
  simp only [Act.put, List.setIfInBounds_toArray, List.set_cons_zero, List.set_cons_succ]
  refine take1 16 22 (.pointer (some ⟨w.heap.size, 3, none⟩)) rfl rfl (by kernel_rfl) (by kernel_rfl) (by kernel_rfl) (by rfl) (fun _ _ _ h => h) hS (fun w' hS' => ?_) ?_
  · obtain ⟨q0, q1, q2, q3, q4, q5, q6⟩ := hS'; go_simp
  simp only [Act.put, List.setIfInBounds_toArray, List.set_cons_zero, List.set_cons_succ]
  refine take1 17 23 (.int .i64 b) rfl rfl (by kernel_rfl) (by kernel_rfl) (by kernel_rfl) (by rfl) (fun _ _ _ h => h) hS (fun w' hS' => ?_) ?_
  · obtain ⟨q0, q1, q2, q3, q4, q5, q6⟩ := hS'; go_simp
  simp only [Act.put, List.setIfInBounds_toArray, List.set_cons_zero, List.set_cons_succ]
  refine take1 21 27 (.pointer (some ⟨w.heap.size, 4, none⟩)) rfl rfl (by kernel_rfl) (by kernel_rfl) (by kernel_rfl) (by rfl) (fun _ _ _ h => h) hS (fun w' hS' => ?_) ?_
  · obtain ⟨q0, q1, q2, q3, q4, q5, q6⟩ := hS'; go_simp
  simp only [Act.put, List.setIfInBounds_toArray, List.set_cons_zero, List.set_cons_succ]
  refine take1 22 28 (.int .i64 c) rfl rfl (by kernel_rfl) (by kernel_rfl) (by kernel_rfl) (by rfl) (fun _ _ _ h => h) hS (fun w' hS' => ?_) ?_
  · obtain ⟨q0, q1, q2, q3, q4, q5, q6⟩ := hS'; go_simp
  simp only [Act.put, List.setIfInBounds_toArray, List.set_cons_zero, List.set_cons_succ]
  refine take1 26 32 (.pointer (some ⟨w.heap.size, 5, none⟩)) rfl rfl (by kernel_rfl) (by kernel_rfl) (by kernel_rfl) (by rfl) (fun _ _ _ h => h) hS (fun w' hS' => ?_) ?_
  · obtain ⟨q0, q1, q2, q3, q4, q5, q6⟩ := hS'; go_simp
  simp only [Act.put, List.setIfInBounds_toArray, List.set_cons_zero, List.set_cons_succ]
  refine take1 27 33 (.int .i64 d) rfl rfl (by kernel_rfl) (by kernel_rfl) (by kernel_rfl) (by rfl) (fun _ _ _ h => h) hS (fun w' hS' => ?_) ?_
  · obtain ⟨q0, q1, q2, q3, q4, q5, q6⟩ := hS'; go_simp
  simp only [Act.put, List.setIfInBounds_toArray, List.set_cons_zero, List.set_cons_succ]
  refine take1 31 37 (.pointer (some ⟨w.heap.size, 6, none⟩)) rfl rfl (by kernel_rfl) (by kernel_rfl) (by kernel_rfl) (by rfl) (fun _ _ _ h => h) hS (fun w' hS' => ?_) ?_
  · obtain ⟨q0, q1, q2, q3, q4, q5, q6⟩ := hS'; go_simp
  simp only [Act.put, List.setIfInBounds_toArray, List.set_cons_zero, List.set_cons_succ]
  refine take1 32 38 (.int .i64 e) rfl rfl (by kernel_rfl) (by kernel_rfl) (by kernel_rfl) (by rfl) (fun _ _ _ h => h) hS (fun w' hS' => ?_) ?_
  · obtain ⟨q0, q1, q2, q3, q4, q5, q6⟩ := hS'; go_simp
  simp only [Act.put, List.setIfInBounds_toArray, List.set_cons_zero, List.set_cons_succ]
  refine wpAnyH_ready (rs := [0]) (by kernel_rfl) (by simp) ?_
  refine AllReadyH.cons rfl (fun K hK => ?_) AllReadyH.nil
  go_simp
  refine (l1Names_at w1.drew w1.heap.size rfl).mono ?_
  rintro r2 w2 ⟨rfl, hb2, n1, n2, n3, n4⟩
  have hB2 : Below w.heap.size w w2 := hB1.drew.trans (hb2.mono hB1.size)
  have hT2 : w2.cell? ⟨w.heap.size, 0, none⟩ = some (.int .i64 k) ∧ w2.cell? ⟨w.heap.size, 1, none⟩ = some (.int .i64 4) ∧ w2.cell? ⟨w.heap.size, 2, none⟩ = some (.int .i64 a) ∧ w2.cell? ⟨w.heap.size, 3, none⟩ = some (.int .i64 b) ∧ w2.cell? ⟨w.heap.size, 4, none⟩ = some (.int .i64 c) ∧ w2.cell? ⟨w.heap.size, 5, none⟩ = some (.int .i64 d) ∧ w2.cell? ⟨w.heap.size, 6, none⟩ = some (.int .i64 e) ∧ w2.cell? ⟨w1.heap.size, 4, none⟩ = some (.string ⟨#[98, 97, 99, 107]⟩) := by
    obtain ⟨q0, q1, q2, q3, q4, q5, q6⟩ := hS
    exact ⟨cell_later hb2 q0, cell_later hb2 q1, cell_later hb2 q2, cell_later hb2 q3, cell_later hb2 q4, cell_later hb2 q5, cell_later hb2 q6, n4⟩
  refine hK.out _ _ ⟨hT2.1, hT2.2.1, hT2.2.2.1, hT2.2.2.2.1, hT2.2.2.2.2.1, hT2.2.2.2.2.2.1, hT2.2.2.2.2.2.2.1⟩ (fun _ => ?_)
  clear hK K hS n1 n2 n3 n4 hB1 hb2
  refine held_mono (S' := fun w' => w'.cell? ⟨w.heap.size, 0, none⟩ = some (.int .i64 k) ∧ w'.cell? ⟨w.heap.size, 1, none⟩ = some (.int .i64 4) ∧ w'.cell? ⟨w.heap.size, 2, none⟩ = some (.int .i64 a) ∧ w'.cell? ⟨w.heap.size, 3, none⟩ = some (.int .i64 b) ∧ w'.cell? ⟨w.heap.size, 4, none⟩ = some (.int .i64 c) ∧ w'.cell? ⟨w.heap.size, 5, none⟩ = some (.int .i64 d) ∧ w'.cell? ⟨w.heap.size, 6, none⟩ = some (.int .i64 e) ∧ w'.cell? ⟨w1.heap.size, 4, none⟩ = some (.string ⟨#[98, 97, 99, 107]⟩)) (fun _ h => ⟨h.1, h.2.1, h.2.2.1, h.2.2.2.1, h.2.2.2.2.1, h.2.2.2.2.2.1, h.2.2.2.2.2.2.1⟩) _ _ _ _ ?_
  refine take1 3 9 (.pointer (some ⟨w1.heap.size, 4, none⟩)) rfl rfl (by kernel_rfl) (by kernel_rfl) (by kernel_rfl) (by rfl) (fun _ _ _ h => h) hT2 (fun w' hS' => ?_) ?_
  · obtain ⟨q0, q1, q2, q3, q4, q5, q6, q7⟩ := hS'; go_simp
  simp only [Act.put, List.setIfInBounds_toArray, List.set_cons_zero, List.set_cons_succ]
  refine take1 4 10 (.string ⟨#[98, 97, 99, 107]⟩) rfl rfl (by kernel_rfl) (by kernel_rfl) (by kernel_rfl) (by rfl) (fun _ _ _ h => h) hT2 (fun w' hS' => ?_) ?_
  · obtain ⟨q0, q1, q2, q3, q4, q5, q6, q7⟩ := hS'; go_simp
  simp only [Act.put, List.setIfInBounds_toArray, List.set_cons_zero, List.set_cons_succ]
  refine take1 5 11 (.string x1) rfl rfl (by kernel_rfl) (by kernel_rfl) (by kernel_rfl) (by rfl) (fun _ _ _ h => h) hT2 (fun w' hS' => ?_) ?_
  · obtain ⟨q0, q1, q2, q3, q4, q5, q6, q7⟩ := hS'; go_simp
  simp only [Act.put, List.setIfInBounds_toArray, List.set_cons_zero, List.set_cons_succ]
  refine wpAnyH_ready (rs := [8]) (by kernel_rfl) (by simp) ?_
  refine AllReadyH.cons rfl (fun K hK => ?_) AllReadyH.nil
  go_simp
  refine (y0.out _).mono ?_
  rintro r3 w3 ⟨rfl, hb3⟩
  have hB3 : Below w.heap.size w w3 := hB2.trans (hb3.mono hB2.size)
  have hT3 : w3.cell? ⟨w.heap.size, 0, none⟩ = some (.int .i64 k) ∧ w3.cell? ⟨w.heap.size, 1, none⟩ = some (.int .i64 4) ∧ w3.cell? ⟨w.heap.size, 2, none⟩ = some (.int .i64 a) ∧ w3.cell? ⟨w.heap.size, 3, none⟩ = some (.int .i64 b) ∧ w3.cell? ⟨w.heap.size, 4, none⟩ = some (.int .i64 c) ∧ w3.cell? ⟨w.heap.size, 5, none⟩ = some (.int .i64 d) ∧ w3.cell? ⟨w.heap.size, 6, none⟩ = some (.int .i64 e) ∧ w3.cell? ⟨w1.heap.size, 4, none⟩ = some (.string ⟨#[98, 97, 99, 107]⟩) := by
    obtain ⟨q0, q1, q2, q3, q4, q5, q6, q7⟩ := hT2
    exact ⟨cell_later hb3 q0, cell_later hb3 q1, cell_later hb3 q2, cell_later hb3 q3, cell_later hb3 q4, cell_later hb3 q5, cell_later hb3 q6, cell_later hb3 q7⟩
  refine hK.out _ _ hT3 (fun _ => ?_)
  clear hK K hT2 hB2 hb3
  refine take1 9 15 (.string x2) rfl rfl (by kernel_rfl) (by kernel_rfl) (by kernel_rfl) (by rfl) (fun _ _ _ h => h) hT3 (fun w' hS' => ?_) ?_
  · obtain ⟨q0, q1, q2, q3, q4, q5, q6, q7⟩ := hS'; go_simp
  simp only [Act.put, List.setIfInBounds_toArray, List.set_cons_zero, List.set_cons_succ]
  refine take1 10 16 (.string x3) rfl rfl (by kernel_rfl) (by kernel_rfl) (by kernel_rfl) (by rfl) (fun _ _ _ h => h) hT3 (fun w' hS' => ?_) ?_
  · obtain ⟨q0, q1, q2, q3, q4, q5, q6, q7⟩ := hS'; go_simp
  simp only [Act.put, List.setIfInBounds_toArray, List.set_cons_zero, List.set_cons_succ]
  refine wpAnyH_ready (rs := [13]) (by kernel_rfl) (by simp) ?_
  refine AllReadyH.cons rfl (fun K hK => ?_) AllReadyH.nil
  go_simp
  refine (y1.out _).mono ?_
  rintro r4 w4 ⟨rfl, hb4⟩
  have hB4 : Below w.heap.size w w4 := hB3.trans (hb4.mono hB3.size)
  have hT4 : w4.cell? ⟨w.heap.size, 0, none⟩ = some (.int .i64 k) ∧ w4.cell? ⟨w.heap.size, 1, none⟩ = some (.int .i64 4) ∧ w4.cell? ⟨w.heap.size, 2, none⟩ = some (.int .i64 a) ∧ w4.cell? ⟨w.heap.size, 3, none⟩ = some (.int .i64 b) ∧ w4.cell? ⟨w.heap.size, 4, none⟩ = some (.int .i64 c) ∧ w4.cell? ⟨w.heap.size, 5, none⟩ = some (.int .i64 d) ∧ w4.cell? ⟨w.heap.size, 6, none⟩ = some (.int .i64 e) ∧ w4.cell? ⟨w1.heap.size, 4, none⟩ = some (.string ⟨#[98, 97, 99, 107]⟩) := by
    obtain ⟨q0, q1, q2, q3, q4, q5, q6, q7⟩ := hT3
    exact ⟨cell_later hb4 q0, cell_later hb4 q1, cell_later hb4 q2, cell_later hb4 q3, cell_later hb4 q4, cell_later hb4 q5, cell_later hb4 q6, cell_later hb4 q7⟩
  refine hK.out _ _ hT4 (fun _ => ?_)
  clear hK K hT3 hB3 hb4
  refine take1 14 20 (.string x4) rfl rfl (by kernel_rfl) (by kernel_rfl) (by kernel_rfl) (by rfl) (fun _ _ _ h => h) hT4 (fun w' hS' => ?_) ?_
  · obtain ⟨q0, q1, q2, q3, q4, q5, q6, q7⟩ := hS'; go_simp
  simp only [Act.put, List.setIfInBounds_toArray, List.set_cons_zero, List.set_cons_succ]
  refine take1 15 21 (.string x5) rfl rfl (by kernel_rfl) (by kernel_rfl) (by kernel_rfl) (by rfl) (fun _ _ _ h => h) hT4 (fun w' hS' => ?_) ?_
  · obtain ⟨q0, q1, q2, q3, q4, q5, q6, q7⟩ := hS'; go_simp
  simp only [Act.put, List.setIfInBounds_toArray, List.set_cons_zero, List.set_cons_succ]
  refine wpAnyH_ready (rs := [18]) (by kernel_rfl) (by simp) ?_
  refine AllReadyH.cons rfl (fun K hK => ?_) AllReadyH.nil
  go_simp
  refine (y2.out _).mono ?_
  rintro r5 w5 ⟨rfl, hb5⟩
  have hB5 : Below w.heap.size w w5 := hB4.trans (hb5.mono hB4.size)
  have hT5 : w5.cell? ⟨w.heap.size, 0, none⟩ = some (.int .i64 k) ∧ w5.cell? ⟨w.heap.size, 1, none⟩ = some (.int .i64 4) ∧ w5.cell? ⟨w.heap.size, 2, none⟩ = some (.int .i64 a) ∧ w5.cell? ⟨w.heap.size, 3, none⟩ = some (.int .i64 b) ∧ w5.cell? ⟨w.heap.size, 4, none⟩ = some (.int .i64 c) ∧ w5.cell? ⟨w.heap.size, 5, none⟩ = some (.int .i64 d) ∧ w5.cell? ⟨w.heap.size, 6, none⟩ = some (.int .i64 e) ∧ w5.cell? ⟨w1.heap.size, 4, none⟩ = some (.string ⟨#[98, 97, 99, 107]⟩) := by
    obtain ⟨q0, q1, q2, q3, q4, q5, q6, q7⟩ := hT4
    exact ⟨cell_later hb5 q0, cell_later hb5 q1, cell_later hb5 q2, cell_later hb5 q3, cell_later hb5 q4, cell_later hb5 q5, cell_later hb5 q6, cell_later hb5 q7⟩
  refine hK.out _ _ hT5 (fun _ => ?_)
  clear hK K hT4 hB4 hb5
  refine take1 19 25 (.string x6) rfl rfl (by kernel_rfl) (by kernel_rfl) (by kernel_rfl) (by rfl) (fun _ _ _ h => h) hT5 (fun w' hS' => ?_) ?_
  · obtain ⟨q0, q1, q2, q3, q4, q5, q6, q7⟩ := hS'; go_simp
  simp only [Act.put, List.setIfInBounds_toArray, List.set_cons_zero, List.set_cons_succ]
  refine take1 20 26 (.string x7) rfl rfl (by kernel_rfl) (by kernel_rfl) (by kernel_rfl) (by rfl) (fun _ _ _ h => h) hT5 (fun w' hS' => ?_) ?_
  · obtain ⟨q0, q1, q2, q3, q4, q5, q6, q7⟩ := hS'; go_simp
  simp only [Act.put, List.setIfInBounds_toArray, List.set_cons_zero, List.set_cons_succ]
  refine wpAnyH_ready (rs := [23]) (by kernel_rfl) (by simp) ?_
  refine AllReadyH.cons rfl (fun K hK => ?_) AllReadyH.nil
  go_simp
  refine (y3.out _).mono ?_
  rintro r6 w6 ⟨rfl, hb6⟩
  have hB6 : Below w.heap.size w w6 := hB5.trans (hb6.mono hB5.size)
  have hT6 : w6.cell? ⟨w.heap.size, 0, none⟩ = some (.int .i64 k) ∧ w6.cell? ⟨w.heap.size, 1, none⟩ = some (.int .i64 4) ∧ w6.cell? ⟨w.heap.size, 2, none⟩ = some (.int .i64 a) ∧ w6.cell? ⟨w.heap.size, 3, none⟩ = some (.int .i64 b) ∧ w6.cell? ⟨w.heap.size, 4, none⟩ = some (.int .i64 c) ∧ w6.cell? ⟨w.heap.size, 5, none⟩ = some (.int .i64 d) ∧ w6.cell? ⟨w.heap.size, 6, none⟩ = some (.int .i64 e) ∧ w6.cell? ⟨w1.heap.size, 4, none⟩ = some (.string ⟨#[98, 97, 99, 107]⟩) := by
    obtain ⟨q0, q1, q2, q3, q4, q5, q6, q7⟩ := hT5
    exact ⟨cell_later hb6 q0, cell_later hb6 q1, cell_later hb6 q2, cell_later hb6 q3, cell_later hb6 q4, cell_later hb6 q5, cell_later hb6 q6, cell_later hb6 q7⟩
  refine hK.out _ _ hT6 (fun _ => ?_)
  clear hK K hT5 hB5 hb6
  refine take1 24 30 (.string x8) rfl rfl (by kernel_rfl) (by kernel_rfl) (by kernel_rfl) (by rfl) (fun _ _ _ h => h) hT6 (fun w' hS' => ?_) ?_
  · obtain ⟨q0, q1, q2, q3, q4, q5, q6, q7⟩ := hS'; go_simp
  simp only [Act.put, List.setIfInBounds_toArray, List.set_cons_zero, List.set_cons_succ]
  refine take1 25 31 (.string x9) rfl rfl (by kernel_rfl) (by kernel_rfl) (by kernel_rfl) (by rfl) (fun _ _ _ h => h) hT6 (fun w' hS' => ?_) ?_
  · obtain ⟨q0, q1, q2, q3, q4, q5, q6, q7⟩ := hS'; go_simp
  simp only [Act.put, List.setIfInBounds_toArray, List.set_cons_zero, List.set_cons_succ]
  refine wpAnyH_ready (rs := [28]) (by kernel_rfl) (by simp) ?_
  refine AllReadyH.cons rfl (fun K hK => ?_) AllReadyH.nil
  go_simp
  refine (y4.out _).mono ?_
  rintro r7 w7 ⟨rfl, hb7⟩
  have hB7 : Below w.heap.size w w7 := hB6.trans (hb7.mono hB6.size)
  have hT7 : w7.cell? ⟨w.heap.size, 0, none⟩ = some (.int .i64 k) ∧ w7.cell? ⟨w.heap.size, 1, none⟩ = some (.int .i64 4) ∧ w7.cell? ⟨w.heap.size, 2, none⟩ = some (.int .i64 a) ∧ w7.cell? ⟨w.heap.size, 3, none⟩ = some (.int .i64 b) ∧ w7.cell? ⟨w.heap.size, 4, none⟩ = some (.int .i64 c) ∧ w7.cell? ⟨w.heap.size, 5, none⟩ = some (.int .i64 d) ∧ w7.cell? ⟨w.heap.size, 6, none⟩ = some (.int .i64 e) ∧ w7.cell? ⟨w1.heap.size, 4, none⟩ = some (.string ⟨#[98, 97, 99, 107]⟩) := by
    obtain ⟨q0, q1, q2, q3, q4, q5, q6, q7⟩ := hT6
    exact ⟨cell_later hb7 q0, cell_later hb7 q1, cell_later hb7 q2, cell_later hb7 q3, cell_later hb7 q4, cell_later hb7 q5, cell_later hb7 q6, cell_later hb7 q7⟩
  refine hK.out _ _ hT7 (fun _ => ?_)
  clear hK K hT6 hB6 hb7
  refine take1 29 35 (.string x10) rfl rfl (by kernel_rfl) (by kernel_rfl) (by kernel_rfl) (by rfl) (fun _ _ _ h => h) hT7 (fun w' hS' => ?_) ?_
  · obtain ⟨q0, q1, q2, q3, q4, q5, q6, q7⟩ := hS'; go_simp
  simp only [Act.put, List.setIfInBounds_toArray, List.set_cons_zero, List.set_cons_succ]
  refine take1 30 36 (.string x11) rfl rfl (by kernel_rfl) (by kernel_rfl) (by kernel_rfl) (by rfl) (fun _ _ _ h => h) hT7 (fun w' hS' => ?_) ?_
  · obtain ⟨q0, q1, q2, q3, q4, q5, q6, q7⟩ := hS'; go_simp
  simp only [Act.put, List.setIfInBounds_toArray, List.set_cons_zero, List.set_cons_succ]
  refine wpAnyH_ready (rs := [33]) (by kernel_rfl) (by simp) ?_
  refine AllReadyH.cons rfl (fun K hK => ?_) AllReadyH.nil
  go_simp
  refine (y5.out _).mono ?_
  rintro r8 w8 ⟨rfl, hb8⟩
  have hB8 : Below w.heap.size w w8 := hB7.trans (hb8.mono hB7.size)
  have hT8 : w8.cell? ⟨w.heap.size, 0, none⟩ = some (.int .i64 k) ∧ w8.cell? ⟨w.heap.size, 1, none⟩ = some (.int .i64 4) ∧ w8.cell? ⟨w.heap.size, 2, none⟩ = some (.int .i64 a) ∧ w8.cell? ⟨w.heap.size, 3, none⟩ = some (.int .i64 b) ∧ w8.cell? ⟨w.heap.size, 4, none⟩ = some (.int .i64 c) ∧ w8.cell? ⟨w.heap.size, 5, none⟩ = some (.int .i64 d) ∧ w8.cell? ⟨w.heap.size, 6, none⟩ = some (.int .i64 e) ∧ w8.cell? ⟨w1.heap.size, 4, none⟩ = some (.string ⟨#[98, 97, 99, 107]⟩) := by
    obtain ⟨q0, q1, q2, q3, q4, q5, q6, q7⟩ := hT7
    exact ⟨cell_later hb8 q0, cell_later hb8 q1, cell_later hb8 q2, cell_later hb8 q3, cell_later hb8 q4, cell_later hb8 q5, cell_later hb8 q6, cell_later hb8 q7⟩
  refine hK.out _ _ hT8 (fun _ => ?_)
  clear hK K hT7 hB7 hb8
  refine take1 34 40 (.string x12) rfl rfl (by kernel_rfl) (by kernel_rfl) (by kernel_rfl) (by rfl) (fun _ _ _ h => h) hT8 (fun w' hS' => ?_) ?_
  · obtain ⟨q0, q1, q2, q3, q4, q5, q6, q7⟩ := hS'; go_simp
  simp only [Act.put, List.setIfInBounds_toArray, List.set_cons_zero, List.set_cons_succ]
  refine take1 35 2 (.string x12) rfl rfl (by kernel_rfl) (by kernel_rfl) (by kernel_rfl) (by rfl) (fun _ _ _ h => h) hT8 (fun w' hS' => ?_) ?_
  · obtain ⟨q0, q1, q2, q3, q4, q5, q6, q7⟩ := hS'; go_simp
  simp only [Act.put, List.setIfInBounds_toArray, List.set_cons_zero, List.set_cons_succ]
  refine wpAnyH_done (by kernel_rfl) ?_ _
  go_wp2
  go_ret
  exact ⟨rfl, hB8⟩

end Go.Proofs.YtopikapamfmalaaGreatDoor
