/-
  The specification's writing of a number from 0 to 999: its decimal digits; nothing that was in memory is turned.
-/
import Derived.Test.YtopikapamfmalaaGreatDoorTextSpec
namespace Go.Proofs.YtopikapamfmalaaGreatDoor
open Go.RowKit
attribute [local go_sem ↓] Go.wp_at_zero Go.wp_at_succ

theorem size1 (x : UInt8) : (ByteArray.mk #[x]).size = 1 := rfl
theorem wrapS {n : Int} (h0 : 0 ≤ n) (h1 : n ≤ 100000) : IntKind.i64.wrap n = n := by
  have e : n % 18446744073709551616 = n := Int.emod_eq_of_lt h0 (by omega)
  simp [IntKind.wrap, IntKind.bits, IntKind.signed, e]; omega
theorem wrapB {n : Int} (h0 : 0 ≤ n) (h1 : n ≤ 255) : IntKind.u8.wrap n = n := by
  have e : n % 256 = n := Int.emod_eq_of_lt h0 (by omega)
  simp [IntKind.wrap, IntKind.bits, IntKind.signed, e]

set_option maxHeartbeats 400000 in
set_option maxRecDepth 100000 in
/-- A number of more figures, out of that without its last one. -/
theorem l6Dec_more (n : Int) (w : World) (h0 : 10 ≤ n) (h9 : n ≤ 1000) (D : ByteArray) (hD : D.size ≤ 10)
    (hrec : ∀ w : World, Calls Tryz.prog 46 #[.int .i64 (n / 10)] w fun e w' => e = .returned (.string D) ∧ Below w.heap.size w w') :
    Calls Tryz.prog 46 #[.int .i64 n] w fun e w' => e = .returned (.string (D ++ ⟨#[fig (n % 10)]⟩)) ∧ Below w.heap.size w w' := by
  have H : Hid (∀ w : World, Calls Tryz.prog 46 #[.int .i64 (n / 10)] w fun e w' => e = .returned (.string D) ∧ Below w.heap.size w w') := hrec
  clear hrec
  have hc := conv1 (n % 10) (by omega) (by omega)
  have t1 : n.tdiv 10 = n / 10 := Int.tdiv_eq_ediv_of_nonneg (by omega)
  have t2 : n.tmod 10 = n % 10 := Int.tmod_eq_emod_of_nonneg (by omega)
  have t3 : IntKind.i64.wrap (n / 10) = n / 10 := wrapS (by omega) (by omega)
  have t4 : IntKind.i64.wrap (48 + n % 10) = 48 + n % 10 := wrapS (by omega) (by omega)
  have t5 : IntKind.u8.wrap (48 + n % 10) = 48 + n % 10 := wrapB (by omega) (by omega)
  have hadd : ∀ w : World, (Op.stringOp .add D ⟨#[fig (n % 10)]⟩).run Tryz.prog w = .ok (.string (D ++ ⟨#[fig (n % 10)]⟩)) w := fun w => run_string_add_sum w _ _ (by rw [size1]; omega)
  generalize hX : D ++ ⟨#[fig (n % 10)]⟩ = X at hadd ⊢
  clear hX
  go_enter Tryz.func46, Tryz.ntmps46
  go_wp2
  refine wp_region_held_drew (S := fun _ => True) (by kernel_rfl) trivial (fun hS => ?_)
  refine take1 0 18 (.int .i64 n) rfl rfl (by kernel_rfl) (by kernel_rfl) (by kernel_rfl) (by rfl) (fun _ _ _ h => h) hS (fun w' hS' => ?_) ?_
  · go_simp
  simp only [Act.put, List.setIfInBounds_toArray, List.set_cons_zero, List.set_cons_succ]
  refine take1 1 19 (.int .i64 (n / 10)) rfl rfl (by kernel_rfl) (by kernel_rfl) (by kernel_rfl) (by rfl) (fun _ _ _ h => h) hS (fun w' hS' => ?_) ?_
  · go_simp
  simp only [Act.put, List.setIfInBounds_toArray, List.set_cons_zero, List.set_cons_succ]
  refine take1 3 21 (.int .i64 n) rfl rfl (by kernel_rfl) (by kernel_rfl) (by kernel_rfl) (by rfl) (fun _ _ _ h => h) hS (fun w' hS' => ?_) ?_
  · go_simp
  simp only [Act.put, List.setIfInBounds_toArray, List.set_cons_zero, List.set_cons_succ]
  refine take1 4 22 (.int .i64 (n % 10)) rfl rfl (by kernel_rfl) (by kernel_rfl) (by kernel_rfl) (by rfl) (fun _ _ _ h => h) hS (fun w' hS' => ?_) ?_
  · go_simp
  simp only [Act.put, List.setIfInBounds_toArray, List.set_cons_zero, List.set_cons_succ]
  refine take1 5 23 (.int .i64 (48 + n % 10)) rfl rfl (by kernel_rfl) (by kernel_rfl) (by kernel_rfl) (by rfl) (fun _ _ _ h => h) hS (fun w' hS' => ?_) ?_
  · go_simp
  simp only [Act.put, List.setIfInBounds_toArray, List.set_cons_zero, List.set_cons_succ]
  refine take1 6 24 (.int .u8 (48 + n % 10)) rfl rfl (by kernel_rfl) (by kernel_rfl) (by kernel_rfl) (by rfl) (fun _ _ _ h => h) hS (fun w' hS' => ?_) ?_
  · go_simp
  simp only [Act.put, List.setIfInBounds_toArray, List.set_cons_zero, List.set_cons_succ]
  refine wpAnyH_ready (rs := [2, 7]) (by kernel_rfl) (by simp) ?_
  refine AllReadyH.cons rfl (fun K hK => ?_) (AllReadyH.cons rfl (fun K hK => ?_) AllReadyH.nil)
  · go_simp
    refine (H.out _).mono ?_
    rintro e w1 ⟨rfl, hb1⟩
    refine hK.out _ _ trivial (fun hS => ?_)
    clear hK K
    refine wpAnyH_ready (rs := [7]) (by kernel_rfl) (by simp) ?_
    refine AllReadyH.cons rfl (fun K hK => ?_) AllReadyH.nil
    go_simp
    refine hK.out _ _ trivial (fun hS => ?_)
    clear hK K
    refine held_mono (S' := fun w' => w'.cell? ⟨w1.heap.size, 0, none⟩ = some (.int .u8 (48 + n % 10))) (fun _ _ => trivial) _ _ _ _ ?_
    have hS2 : (w1.alloc (Obj.cells #[Value.int IntKind.u8 (48 + n % 10)] 5)).cell? ⟨w1.heap.size, 0, none⟩ = some (.int .u8 (48 + n % 10)) := by go_simp
    refine take1 8 26 (.string ⟨#[fig (n % 10)]⟩) rfl rfl (by kernel_rfl) (by kernel_rfl) (by kernel_rfl) (by rfl) (fun _ _ _ h => h) hS2 (fun w' hS' => ?_) ?_
    · go_simp
    simp only [Act.put, List.setIfInBounds_toArray, List.set_cons_zero, List.set_cons_succ]
    refine take1 9 27 (.string X) rfl rfl (by kernel_rfl) (by kernel_rfl) (by kernel_rfl) (by rfl) (fun _ _ _ h => h) hS2 (fun w' hS' => ?_) ?_
    · go_simp
    simp only [Act.put, List.setIfInBounds_toArray, List.set_cons_zero, List.set_cons_succ]
    refine take1 10 2 (.string X) rfl rfl (by kernel_rfl) (by kernel_rfl) (by kernel_rfl) (by rfl) (fun _ _ _ h => h) hS2 (fun w' hS' => ?_) ?_
    · go_simp
    simp only [Act.put, List.setIfInBounds_toArray, List.set_cons_zero, List.set_cons_succ]
    refine wpAnyH_done (by kernel_rfl) ?_ _
    go_wp2
    go_ret
    exact ⟨rfl, ((Below.refl _ _).drew.trans (hb1.mono (by simp))).alloc (by have := hb1.size; simp at this; omega) _⟩
  · go_simp
    refine hK.out _ _ trivial (fun hS => ?_)
    clear hK K
    refine held_mono (S' := fun w' => w'.cell? ⟨w.heap.size, 0, none⟩ = some (.int .u8 (48 + n % 10))) (fun _ _ => trivial) _ _ _ _ ?_
    have hS2 : ((w.alloc (Obj.cells #[Value.int IntKind.u8 (48 + n % 10)] 5)).drew).cell? ⟨w.heap.size, 0, none⟩ = some (.int .u8 (48 + n % 10)) := by go_simp
    refine take1 8 26 (.string ⟨#[fig (n % 10)]⟩) rfl rfl (by kernel_rfl) (by kernel_rfl) (by kernel_rfl) (by rfl) (fun _ _ _ h => h) hS2 (fun w' hS' => ?_) ?_
    · go_simp
    simp only [Act.put, List.setIfInBounds_toArray, List.set_cons_zero, List.set_cons_succ]
    refine wpAnyH_ready (rs := [2]) (by kernel_rfl) (by simp) ?_
    refine AllReadyH.cons rfl (fun K hK => ?_) AllReadyH.nil
    go_simp
    refine (H.out _).mono ?_
    rintro e w1 ⟨rfl, hb1⟩
    obtain ⟨hc1, hf1⟩ := bcell hb1
    have hS3 : w1.cell? ⟨w.heap.size, 0, none⟩ = some (.int .u8 (48 + n % 10)) := by rw [hc1 _ _ (by simp)]; exact hS2
    refine hK.out _ _ hS3 (fun hS => ?_)
    clear hK K
    refine take1 9 27 (.string X) rfl rfl (by kernel_rfl) (by kernel_rfl) (by kernel_rfl) (by rfl) (fun _ _ _ h => h) hS3 (fun w' hS' => ?_) ?_
    · go_simp
    simp only [Act.put, List.setIfInBounds_toArray, List.set_cons_zero, List.set_cons_succ]
    refine take1 10 2 (.string X) rfl rfl (by kernel_rfl) (by kernel_rfl) (by kernel_rfl) (by rfl) (fun _ _ _ h => h) hS3 (fun w' hS' => ?_) ?_
    · go_simp
    simp only [Act.put, List.setIfInBounds_toArray, List.set_cons_zero, List.set_cons_succ]
    refine wpAnyH_done (by kernel_rfl) ?_ _
    go_wp2
    go_ret
    exact ⟨rfl, ((Below.refl _ _).alloc (Nat.le_refl _) _).drew.trans (hb1.mono (by simp))⟩

/-- The decimal digits of a number that is not below 0, as a text. -/
def decB (n : Int) : ByteArray := ⟨(Lib.decDigits n.toNat).toArray⟩
theorem decB_small {n : Int} (h0 : 0 ≤ n) (h1 : n < 10) : decB n = ⟨#[fig n]⟩ := by unfold decB; rw [dec_small h0 h1]
theorem decB_great {n : Int} (h : 10 ≤ n) : decB n = decB (n / 10) ++ ⟨#[fig (n % 10)]⟩ := by
  unfold decB; rw [dec_great h]
  exact (ByteArray.mk_append_mk _ _).symm
theorem decB_size {n : Int} (h0 : 0 ≤ n) (h9 : n < 1000) : (decB n).size ≤ 3 := by
  by_cases h1 : n < 10
  · rw [decB_small h0 h1, size1]; omega
  · rw [decB_great (by omega)]
    by_cases h2 : n / 10 < 10
    · rw [decB_small (by omega) h2, ByteArray.size_append, size1, size1]; omega
    · rw [decB_great (by omega), decB_small (n := n / 10 / 10) (by omega) (by omega), ByteArray.size_append, ByteArray.size_append, size1, size1, size1]; omega

/-- The specification's l6Dec, from 0 to 999. -/
theorem l6Dec_any (n : Int) (h0 : 0 ≤ n) (h9 : n < 1000) (w : World) :
    Calls Tryz.prog 46 #[.int .i64 n] w fun e w' => e = .returned (.string (decB n)) ∧ Below w.heap.size w w' := by
  have lt10 : ∀ (m : Int) (w : World), 0 ≤ m → m < 10 → Calls Tryz.prog 46 #[.int .i64 m] w fun e w' => e = .returned (.string (decB m)) ∧ Below w.heap.size w w' := fun m w a b => l6Dec_lt10 m w a b
  have lt100 : ∀ (m : Int) (w : World), 0 ≤ m → m < 100 → Calls Tryz.prog 46 #[.int .i64 m] w fun e w' => e = .returned (.string (decB m)) ∧ Below w.heap.size w w' := by
    intro m w a b
    by_cases h : m < 10
    · exact lt10 m w a h
    · rw [decB_great (by omega)]
      exact l6Dec_more m w (by omega) (by omega) _ (by have := decB_size (n := m / 10) (by omega) (by omega); omega) (fun w => lt10 (m / 10) w (by omega) (by omega))
  by_cases h : n < 100
  · exact lt100 n w h0 h
  · rw [decB_great (by omega)]
    exact l6Dec_more n w (by omega) (by omega) _ (by have := decB_size (n := n / 10) (by omega) (by omega); omega) (fun w => lt100 (n / 10) w (by omega) (by omega))

end Go.Proofs.YtopikapamfmalaaGreatDoor
