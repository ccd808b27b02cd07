/-
  A text is drawn from a list of bytes, whatever it is, of at most 500 bytes: a word's, or one that is near it; nothing that was there is turned.
-/
import Derived.Test.YtopikapamfmalaaGreatDoorDrawMsg
import Derived.Test.YtopikapamfmalaaGreatDoorMsgTextS
import Derived.Test.YtopikapamfmalaaGreatDoorMsgTwo
namespace Go.Proofs.YtopikapamfmalaaGreatDoor
open Go.RowKit
attribute [local go_sem ↓] Go.wp_at_zero Go.wp_at_succ

/-- One of five short texts, drawn. -/
theorem of5_any (br : Nat) (sv : Value) (L : Nat) (p : Int) (B c : Nat) (w : World) (R : Rd w br sv L p) (hp : 0 ≤ p) (hp2 : p ≤ 999000) (hB : B ≠ br) (hl : ∀ j : Nat, j < 5 → ∃ x : ByteArray, x.size ≤ 2 ∧ w.cell? ⟨B, j, none⟩ = some (.string x)) :
    Calls Tryz.prog 27 #[.pointer (some ⟨br, 0, none⟩), .slice (some ⟨B, 0, none⟩) 5 c] w fun e w' => (∃ x : ByteArray, x.size ≤ 2 ∧ e = .returned (.string x)) ∧ Rd w' br sv L (p + 1) ∧ Only br w w' := by
  have HL : Hid (∀ j : Nat, j < 5 → ∃ x : ByteArray, x.size ≤ 2 ∧ w.cell? ⟨B, j, none⟩ = some (.string x)) := hl
  have HR : Hid (Rd w br sv L p) := R
  clear hl R
  go_enter Tryz.func27, Tryz.ntmps27
  go_wp2_with fail
  refine (pick_any 5 (by omega) _ sv L p _ HR.out hp (by omega)).mono ?_
  rintro e1 w1 ⟨⟨v, v0, v1, rfl⟩, R1, G1⟩
  obtain ⟨n, rfl⟩ : ∃ n : Nat, v = n := ⟨v.toNat, by omega⟩
  obtain ⟨x, hx, hc⟩ := HL.out n (by omega)
  have hc1 : w1.cell? ⟨B, n, none⟩ = some (.string x) := (World.cell?_of_block (a := ⟨B, n, none⟩) (G1.block B hB)).trans hc
  have HG : Hid (Rd w1 br sv L (p + 1) ∧ Only br w w1) := ⟨R1, G1⟩
  clear R1 G1 hc HL HR
  go_wp2_with fail
  go_ret
  exact ⟨⟨x, hx, rfl⟩, HG.out⟩

theorem five_at (w : World) : ∀ j : Nat, j < 5 → ∃ x : ByteArray, x.size ≤ 2 ∧ ((w.alloc (.cells #[.string ⟨#[48]⟩, .string ⟨#[32]⟩, .string ⟨#[10]⟩, .string ⟨#[57]⟩, .string ⟨#[120]⟩] 9)).drew).cell? ⟨w.heap.size, j, none⟩ = some (.string x) := by
  intro j hj
  have hn : ((w.alloc (.cells #[.string ⟨#[48]⟩, .string ⟨#[32]⟩, .string ⟨#[10]⟩, .string ⟨#[57]⟩, .string ⟨#[120]⟩] 9)).drew).heap[w.heap.size]? = _ := heap_alloc_new w _
  obtain rfl | rfl | rfl | rfl | rfl : j = 0 ∨ j = 1 ∨ j = 2 ∨ j = 3 ∨ j = 4 := by omega
  · exact ⟨⟨#[48]⟩, by decide, by simp only [World.cell?, hn]; rfl⟩
  · exact ⟨⟨#[32]⟩, by decide, by simp only [World.cell?, hn]; rfl⟩
  · exact ⟨⟨#[10]⟩, by decide, by simp only [World.cell?, hn]; rfl⟩
  · exact ⟨⟨#[57]⟩, by decide, by simp only [World.cell?, hn]; rfl⟩
  · exact ⟨⟨#[120]⟩, by decide, by simp only [World.cell?, hn]; rfl⟩

set_option maxHeartbeats 1000000 in
set_option maxRecDepth 100000 in
theorem drawMsgRead_any (a : Option Addr) (len cap : Nat) (w : World) (h : Code w a len cap) :
    Calls Tryz.prog 10 #[.slice a len cap] w fun r w' => (∃ s : ByteArray, s.size ≤ 500 ∧ r = .returned (.string s)) ∧ Below w.heap.size w w' := by
  have HC : Hid (Code w a len cap) := h
  clear h
  go_enter Tryz.func10, Tryz.ntmps10
  go_wp2_with fail
  refine (l6Open_any a len cap _ HC.out).mono ?_
  rintro e1 w1 ⟨rfl, ⟨sv, L, R1⟩, b1⟩
  have H1 : Hid (Rd w1 w.heap.size sv L 0 ∧ Below w.heap.size w w1) := ⟨R1, b1⟩
  clear R1 b1 HC
  go_wp2_with fail
  refine (l71Msg_any _ sv L _ H1.out.1).mono ?_
  rintro e2 w2 ⟨⟨m, n, k, f, a', xs, cap', rfl, hr, hx3, _, _⟩, q, q0, q1, R2, G2⟩
  have H2 : Hid (Rd w2 w.heap.size sv L q ∧ Below w.heap.size w w2 ∧ SRow w2 a' xs) := ⟨R2, H1.out.2.trans (G2.below (Nat.le_refl _) H1.out.2.size), hr⟩
  clear R2 G2 H1 hr
  go_wp2_with fail
  obtain ⟨X, hX⟩ : ∃ X, X = msgT m n k f xs := ⟨_, rfl⟩
  have SX : Hid (∀ w', SRow w' a' xs → Calls Tryz.prog 18 #[.agg #[.int .i64 m, .int .i64 n, .int .i64 k, .int .i64 f, .slice a' xs.length cap']] w' fun r w'' => r = .returned (.string X) ∧ Below w'.heap.size w' w'') := fun w' hr => by rw [hX]; exact specMT_any m n k f a' cap' xs w' hr (by omega)
  have hXs : X.size ≤ 200 := by rw [hX]; exact msgT_most _ _ _ _ _
  clear hX
  refine (SX.out _ H2.out.2.2).mono ?_
  rintro e3 w3 ⟨rfl, b3⟩
  have H3 : Hid (Rd w3 w.heap.size sv L q ∧ Below w.heap.size w w3) := ⟨H2.out.1.below b3, H2.out.2.1.trans (b3.mono H2.out.2.1.size)⟩
  clear b3 H2 SX
  go_wp2_with fail
  refine (pick_any ((X.size : Int) + 1) (by omega) _ sv L q _ H3.out.1 q0 (by omega)).mono ?_
  rintro e4 w4 ⟨⟨v, v0, v1, rfl⟩, R4, G4⟩
  obtain ⟨j, rfl⟩ : ∃ j : Nat, v = j := ⟨v.toNat, by omega⟩
  have hj : (j : Int) ≤ (X.size : Int) := by omega
  have H4 : Hid (Rd w4 w.heap.size sv L (q + 1) ∧ Below w.heap.size w w4) := ⟨R4, H3.out.2.trans (G4.grew.below (Nat.le_refl _) H3.out.2.size)⟩
  clear R4 G4 H3 v0 v1
  go_wp2_with fail
  refine (pick_any 8 (by omega) _ sv L (q + 1) _ H4.out.1 (by omega) (by omega)).mono ?_
  rintro e5 w5 ⟨⟨u, u0, u1, rfl⟩, R5, G5⟩
  have H5 : Hid (Rd w5 w.heap.size sv L (q + 1 + 1) ∧ Below w.heap.size w w5) := ⟨R5, H4.out.2.trans (G5.grew.below (Nat.le_refl _) H4.out.2.size)⟩
  clear R5 G5 H4
  by_cases y0 : u = 0
  · subst y0
    go_wp2_with fail
    go_ret
    exact ⟨⟨_, by simp [ByteArray.size_extract]; omega, rfl⟩, H5.out.2⟩
  · have y0' : (u == 0) = false := by simpa using y0
    by_cases y1 : u = 1
    · subst y1
      -- REGION
      have z1 : (X.extract 0 j).size ≤ 200 := by simp [ByteArray.size_extract]; omega
      have z2 : (X.extract j X.size).size ≤ 200 := by simp [ByteArray.size_extract]; omega
      go_wp2_with fail
      refine wp_region_held_drew (S := fun _ => True) (by kernel_rfl) trivial (fun hS => ?_)
      refine take1 0 25 (.string X) rfl rfl (by kernel_rfl) (by kernel_rfl) (by kernel_rfl) (by rfl) (fun _ _ _ h => h) trivial (fun w' hS' => ?_) ?_
      · go_simp
      simp only [Act.put, List.setIfInBounds_toArray, List.set_cons_zero, List.set_cons_succ]
      refine take1 1 26 (.int .i64 j) rfl rfl (by kernel_rfl) (by kernel_rfl) (by kernel_rfl) (by rfl) (fun _ _ _ h => h) trivial (fun w' hS' => ?_) ?_
      · go_simp
      simp only [Act.put, List.setIfInBounds_toArray, List.set_cons_zero, List.set_cons_succ]
      refine take1 2 27 (.string (X.extract 0 j)) rfl rfl (by kernel_rfl) (by kernel_rfl) (by kernel_rfl) (by rfl) (fun _ _ _ h => h) trivial (fun w' hS' => ?_) ?_
      · go_simp
      simp only [Act.put, List.setIfInBounds_toArray, List.set_cons_zero, List.set_cons_succ]
      refine take1 3 28 (.pointer (some ⟨w.heap.size, 0, none⟩)) rfl rfl (by kernel_rfl) (by kernel_rfl) (by kernel_rfl) (by rfl) (fun _ _ _ h => h) trivial (fun w' hS' => ?_) ?_
      · go_simp
      simp only [Act.put, List.setIfInBounds_toArray, List.set_cons_zero, List.set_cons_succ]
      refine take1 7 32 (.string X) rfl rfl (by kernel_rfl) (by kernel_rfl) (by kernel_rfl) (by rfl) (fun _ _ _ h => h) trivial (fun w' hS' => ?_) ?_
      · go_simp
      simp only [Act.put, List.setIfInBounds_toArray, List.set_cons_zero, List.set_cons_succ]
      refine take1 8 33 (.int .i64 j) rfl rfl (by kernel_rfl) (by kernel_rfl) (by kernel_rfl) (by rfl) (fun _ _ _ h => h) trivial (fun w' hS' => ?_) ?_
      · go_simp
      simp only [Act.put, List.setIfInBounds_toArray, List.set_cons_zero, List.set_cons_succ]
      refine take1 9 34 (.string (X.extract j X.size)) rfl rfl (by kernel_rfl) (by kernel_rfl) (by kernel_rfl) (by rfl) (fun _ _ _ h => h) trivial (fun w' hS' => ?_) ?_
      · go_simp
      simp only [Act.put, List.setIfInBounds_toArray, List.set_cons_zero, List.set_cons_succ]
      refine wpAnyH_ready (rs := [4]) (by kernel_rfl) (by simp) ?_
      refine AllReadyH.cons rfl (fun K hK => ?_) AllReadyH.nil
      go_simp
      refine hK.out _ _ trivial (fun _ => ?_)
      clear hK K
      refine wpAnyH_ready (rs := [5]) (by kernel_rfl) (by simp) ?_
      refine AllReadyH.cons rfl (fun K hK => ?_) AllReadyH.nil
      go_simp
      have hlt5 := H5.out.1.lt
      have R5 : Rd ((w5.alloc (.cells #[.string ⟨#[48]⟩, .string ⟨#[32]⟩, .string ⟨#[10]⟩, .string ⟨#[57]⟩, .string ⟨#[120]⟩] 9)).drew) w.heap.size sv L (q + 1 + 1) := (H5.out.1.alloc _).below ((Below.refl _ _).drew)
      refine (of5_any _ sv L (q + 1 + 1) w5.heap.size 5 _ R5 (by omega) (by omega) (by omega) (five_at w5)).mono ?_
      rintro e6 w6 ⟨⟨x, hx, rfl⟩, R6, G6⟩
      have B6 : Hid (Below w.heap.size w w6) := (H5.out.2.alloc H5.out.2.size (.cells #[.string ⟨#[48]⟩, .string ⟨#[32]⟩, .string ⟨#[10]⟩, .string ⟨#[57]⟩, .string ⟨#[120]⟩] 9)).drew.trans (G6.grew.below (Nat.le_refl _) (by have := H5.out.2.size; show w.heap.size ≤ (w5.alloc _).heap.size; simp; omega))
      clear R6 G6 R5
      obtain ⟨Y, hY⟩ : ∃ Y, Y = X.extract 0 j ++ x := ⟨_, rfl⟩
      have hYs : Y.size ≤ 202 := by rw [hY, ByteArray.size_append]; omega
      have hadd1 : ∀ w : World, (Op.stringOp .add (X.extract 0 j) x).run Tryz.prog w = .ok (.string Y) w := fun w => by rw [hY]; exact run_string_add_sum w _ _ (by omega)
      obtain ⟨Z, hZ⟩ : ∃ Z, Z = Y ++ X.extract j X.size := ⟨_, rfl⟩
      have hZs : Z.size ≤ 500 := by rw [hZ, ByteArray.size_append]; omega
      have hadd2 : ∀ w : World, (Op.stringOp .add Y (X.extract j X.size)).run Tryz.prog w = .ok (.string Z) w := fun w => by rw [hZ]; exact run_string_add_sum w _ _ (by omega)
      clear hY hZ H5
      refine hK.out _ _ trivial (fun _ => ?_)
      clear hK K
      refine take1 6 31 (.string Y) rfl rfl (by kernel_rfl) (by kernel_rfl) (by kernel_rfl) (by rfl) (fun _ _ _ h => h) trivial (fun w' hS' => ?_) ?_
      · go_simp
      simp only [Act.put, List.setIfInBounds_toArray, List.set_cons_zero, List.set_cons_succ]
      refine take1 10 35 (.string Z) rfl rfl (by kernel_rfl) (by kernel_rfl) (by kernel_rfl) (by rfl) (fun _ _ _ h => h) trivial (fun w' hS' => ?_) ?_
      · go_simp
      simp only [Act.put, List.setIfInBounds_toArray, List.set_cons_zero, List.set_cons_succ]
      refine take1 11 2 (.string Z) rfl rfl (by kernel_rfl) (by kernel_rfl) (by kernel_rfl) (by rfl) (fun _ _ _ h => h) trivial (fun w' hS' => ?_) ?_
      · go_simp
      simp only [Act.put, List.setIfInBounds_toArray, List.set_cons_zero, List.set_cons_succ]
      refine wpAnyH_done (by kernel_rfl) ?_ _
      clear hadd1 hadd2
      go_wp2_with fail
      go_ret
      exact ⟨⟨Z, hZs, rfl⟩, B6.out⟩
    · have y1' : (u == 1) = false := by simpa using y1
      go_wp2_with fail
      go_ret
      exact ⟨⟨_, by omega, rfl⟩, H5.out.2⟩

end Go.Proofs.YtopikapamfmalaaGreatDoor
