/-
  The program's KdcAs: as the plain mathematics says; its answer is new memory.
-/
import Derived.Test.YtghajmfjekfdpaaDoorKdcJ
import Derived.Test.YtghajmfjekfdpaaDoorMarksJ
import Derived.Test.YtghajmfjekfdpaaDoorKdcWith
import Derived.Test.YtghajmfjekfdpaaDoorKdcOkI
namespace Go.Proofs.YtghajmfjekfdpaaDoor
open Go.RowKit
attribute [local go_sem ↓] Go.wp_at_zero Go.wp_at_succ
set_option maxHeartbeats 4000000 in
set_option maxRecDepth 100000 in
theorem copyKdc_any (n : Int) (a : Option Addr) (cap : Nat) (xs : List Sl) (w : World) (h : SRow w a xs) (hx : xs.length ≤ 1999999) :
    Calls Tryd.prog 34 #[.agg #[.int .i64 n, .slice a xs.length cap]] w fun r w' => (∃ a' c', r = .returned (.agg #[.int .i64 n, .slice a' xs.length c']) ∧ OwnS w' w.heap.size (.slice a' xs.length c') xs) ∧ Below w.heap.size w w' := by
  obtain ⟨W, hW⟩ : ∃ W, W = (w.alloc (.cells #[.int .i64 n, .slice a xs.length cap] 31)).alloc (.cells #[.int .i64 0, .slice none 0 0] 31) := ⟨_, rfl⟩
  have B0 : Below w.heap.size w W := hW ▸ (Below.alloc_ _ _).trans ((Below.alloc_ _ _).mono (by simp))
  have k0 : KBlk W w.heap.size n (.slice a xs.length cap) := by subst hW; exact (KBlk.new w n (.slice a xs.length cap)).later (Below.alloc_ _ _)
  have k1 : KBlk W (w.heap.size + 1) 0 (.slice none 0 0) := by
    subst hW
    have := KBlk.new (w.alloc (.cells #[.int .i64 n, .slice a xs.length cap] 31)) 0 (.slice none 0 0)
    simpa using this
  have hz : W.heap.size = w.heap.size + 2 := by subst hW; simp
  go_enter Tryd.func34, Tryd.ntmps34
  go_wp2_with fail
  rw [← hW]
  clear hW
  have HZ : Hid (W.heap.size = w.heap.size + 2) := hz
  have HB0 : Hid (Below w.heap.size w W) := B0
  have HK : Hid (KBlk W w.heap.size n (.slice a xs.length cap) ∧ KBlk W (w.heap.size + 1) 0 (.slice none 0 0)) := ⟨k0, k1⟩
  have HR : Hid (SRow W a xs) := h.later B0
  clear k0 k1 h hz B0
  refine wp_region_held_drew (S := fun w' => Below (w.heap.size + 1) W w') (by kernel_rfl) ((Below.refl _ _).drew) (fun hS => ?_)
  have hD : Below W.heap.size W W.drew := (Below.refl _ _).drew
  generalize W.drew = W4 at hS hD ⊢
  refine take1 0 3 (Value.pointer (some ⟨w.heap.size, 0, none⟩)) rfl rfl (by kernel_rfl) (by kernel_rfl) (by kernel_rfl) (by rfl) (fun _ _ _ h => h) hS (fun w' hS' => ?_) ?_
  · (go_simp) <;> (intro hx9; omega)
  simp only [Act.put, List.setIfInBounds_toArray, List.set_cons_zero, List.set_cons_succ]
  refine take1 1 4 (.int .i64 n) rfl rfl (by kernel_rfl) (by kernel_rfl) (by kernel_rfl) (by rfl) (fun _ _ _ h => h) hS (fun w' hS' => ?_) ?_
  · obtain ⟨p0, p1⟩ := (HK.out.1.base hS' (by omega)).cells
    (go_simp) <;> (intro hx9; omega)
  simp only [Act.put, List.setIfInBounds_toArray, List.set_cons_zero, List.set_cons_succ]
  refine take1 2 5 (Value.pointer (some ⟨w.heap.size, 1, none⟩)) rfl rfl (by kernel_rfl) (by kernel_rfl) (by kernel_rfl) (by rfl) (fun _ _ _ h => h) hS (fun w' hS' => ?_) ?_
  · (go_simp) <;> (intro hx9; omega)
  simp only [Act.put, List.setIfInBounds_toArray, List.set_cons_zero, List.set_cons_succ]
  refine take1 3 6 (.slice a xs.length cap) rfl rfl (by kernel_rfl) (by kernel_rfl) (by kernel_rfl) (by rfl) (fun _ _ _ h => h) hS (fun w' hS' => ?_) ?_
  · obtain ⟨p0, p1⟩ := (HK.out.1.base hS' (by omega)).cells
    (go_simp) <;> (intro hx9; omega)
  simp only [Act.put, List.setIfInBounds_toArray, List.set_cons_zero, List.set_cons_succ]
  refine wpAnyH_ready (rs := [4]) (by kernel_rfl) (by simp) ?_
  refine AllReadyH.cons rfl (fun K hK => ?_) AllReadyH.nil
  rw [if_pos (by rfl)]
  refine wp_app_seals _ _ rfl (w.heap.size + 2) _ [] rfl (World.ownsRow_nil _ _ _ _) a xs cap rfl (HR.out.later hD) (by simp; omega) (by rw [← HZ.out]; exact hD.size) ?_
  intro b8 c8 w8 o8 g8
  simp only [List.nil_append] at o8 ⊢
  have S8 : Below W.heap.size W w8 := hD.grown g8 hD.size (fun k hk => by cases hk)
  have O8 : Hid (OwnS w8 (w.heap.size + 2) (.slice b8 xs.length c8) xs) := o8
  clear o8 g8
  refine hK.out _ _ (S8.mono (by rw [HZ.out]; omega)) (fun hS => ?_)
  clear hK K hD
  have hD := S8
  clear S8
  refine take1 5 8 (Value.agg #[.int .i64 n, .slice b8 xs.length c8]) rfl rfl (by kernel_rfl) (by kernel_rfl) (by kernel_rfl) (by rfl) (fun _ _ _ h => h) hS (fun w' hS' => ?_) ?_
  · (go_simp) <;> (intro hx9; omega)
  simp only [Act.put, List.setIfInBounds_toArray]
  refine wpAnyH_ready (rs := [6]) (by kernel_rfl) (by simp) ?_
  refine AllReadyH.cons rfl (fun K hK => ?_) AllReadyH.nil
  have qk := HK.out.2.later hD
  obtain ⟨q0, q1⟩ := qk.cells
  have qf : ∀ i, w8.frozen? ⟨w.heap.size + 1, i, none⟩ = false := fun i => by
    unfold KBlk at qk
    simp [World.frozen?, qk]
  have f0 := qf 0
  have f1 := qf 1
  have hsz := hD.size
  rw [HZ.out] at hsz
  have HSS : Hid (Below W.heap.size W w8) := hD
  have QK : Hid (KBlk w8 (w.heap.size + 1) 0 (.slice none 0 0)) := qk
  clear hS hD qk
  go_simp
  have E8 : OwnS ((w8.setCell ⟨w.heap.size + 1, 0, none⟩ (.int .i64 n)).setCell ⟨w.heap.size + 1, 1, none⟩ (.slice b8 xs.length c8)) (w.heap.size + 2) (.slice b8 xs.length c8) xs ∧ KBlk ((w8.setCell ⟨w.heap.size + 1, 0, none⟩ (.int .i64 n)).setCell ⟨w.heap.size + 1, 1, none⟩ (.slice b8 xs.length c8)) (w.heap.size + 1) n (.slice b8 xs.length c8) ∧ Below (w.heap.size + 1) W ((w8.setCell ⟨w.heap.size + 1, 0, none⟩ (.int .i64 n)).setCell ⟨w.heap.size + 1, 1, none⟩ (.slice b8 xs.length c8)) := by
    refine ⟨own_keep O8.out fun k hk => ?_, ?_, ?_⟩
    · have := (World.ownsRow.lt O8.out k hk).1
      have hne : ¬ w.heap.size + 1 = k := by omega
      simp [World.setCell, Array.getElem?_modify, hne]
    · have := QK.out
      unfold KBlk at this ⊢
      simp [World.setCell, Array.getElem?_modify, this]
    · have hb := HSS.out.mono (show w.heap.size + 1 ≤ W.heap.size by rw [HZ.out]; omega)
      exact (hb.setCell (p := ⟨w.heap.size + 1, 0, none⟩) (by simp) _).setCell (p := ⟨w.heap.size + 1, 1, none⟩) (by simp) _
  clear q0 q1 qf f0 f1 QK
  generalize (w8.setCell ⟨w.heap.size + 1, 0, none⟩ (.int .i64 n)).setCell ⟨w.heap.size + 1, 1, none⟩ (.slice b8 xs.length c8) = WE at E8 ⊢
  refine hK.out _ _ E8.2.2 (fun hS => ?_)
  clear hK K
  refine wpAnyH_done (by kernel_rfl) ?_ _
  clear hS
  have HE : Hid (OwnS WE (w.heap.size + 2) (.slice b8 xs.length c8) xs ∧ Below w.heap.size w WE) := ⟨E8.1, HB0.out.trans (E8.2.2.mono (by omega))⟩
  obtain ⟨q0, q1⟩ := E8.2.1.cells
  clear E8
  go_wp2_with fail
  exact bodyPost_ret (v := .agg #[.int .i64 n, .slice b8 xs.length c8]) (by simp [results, Tryd.results34, go_sem, q0, q1]) rfl ⟨⟨_, _, rfl, HE.out.1.less (by omega)⟩, HE.out.2⟩
set_option maxHeartbeats 4000000 in
set_option maxRecDepth 100000 in
theorem l11Copy_any (n : Int) (a : Option Addr) (cap : Nat) (xs : List Sl) (w : World) (h : SRow w a xs) (hx : xs.length ≤ 1999999) :
    Calls Tryd.prog 28 #[.agg #[.int .i64 n, .slice a xs.length cap]] w fun r w' => (∃ a' c', r = .returned (.agg #[.int .i64 n, .slice a' xs.length c']) ∧ OwnS w' w.heap.size (.slice a' xs.length c') xs) ∧ Below w.heap.size w w' := by
  obtain ⟨W, hW⟩ : ∃ W, W = (w.alloc (.cells #[.int .i64 n, .slice a xs.length cap] 31)).alloc (.cells #[.int .i64 0, .slice none 0 0] 31) := ⟨_, rfl⟩
  have B0 : Below w.heap.size w W := hW ▸ (Below.alloc_ _ _).trans ((Below.alloc_ _ _).mono (by simp))
  have k0 : KBlk W w.heap.size n (.slice a xs.length cap) := by subst hW; exact (KBlk.new w n (.slice a xs.length cap)).later (Below.alloc_ _ _)
  have k1 : KBlk W (w.heap.size + 1) 0 (.slice none 0 0) := by
    subst hW
    have := KBlk.new (w.alloc (.cells #[.int .i64 n, .slice a xs.length cap] 31)) 0 (.slice none 0 0)
    simpa using this
  have hz : W.heap.size = w.heap.size + 2 := by subst hW; simp
  go_enter Tryd.func28, Tryd.ntmps28
  go_wp2_with fail
  rw [← hW]
  clear hW
  have HZ : Hid (W.heap.size = w.heap.size + 2) := hz
  have HB0 : Hid (Below w.heap.size w W) := B0
  have HK : Hid (KBlk W w.heap.size n (.slice a xs.length cap) ∧ KBlk W (w.heap.size + 1) 0 (.slice none 0 0)) := ⟨k0, k1⟩
  have HR : Hid (SRow W a xs) := h.later B0
  clear k0 k1 h hz B0
  refine wp_region_held_drew (S := fun w' => Below (w.heap.size + 1) W w') (by kernel_rfl) ((Below.refl _ _).drew) (fun hS => ?_)
  have hD : Below W.heap.size W W.drew := (Below.refl _ _).drew
  generalize W.drew = W4 at hS hD ⊢
  refine take1 0 3 (Value.pointer (some ⟨w.heap.size, 0, none⟩)) rfl rfl (by kernel_rfl) (by kernel_rfl) (by kernel_rfl) (by rfl) (fun _ _ _ h => h) hS (fun w' hS' => ?_) ?_
  · (go_simp) <;> (intro hx9; omega)
  simp only [Act.put, List.setIfInBounds_toArray, List.set_cons_zero, List.set_cons_succ]
  refine take1 1 4 (.int .i64 n) rfl rfl (by kernel_rfl) (by kernel_rfl) (by kernel_rfl) (by rfl) (fun _ _ _ h => h) hS (fun w' hS' => ?_) ?_
  · obtain ⟨p0, p1⟩ := (HK.out.1.base hS' (by omega)).cells
    (go_simp) <;> (intro hx9; omega)
  simp only [Act.put, List.setIfInBounds_toArray, List.set_cons_zero, List.set_cons_succ]
  refine take1 3 6 (Value.pointer (some ⟨w.heap.size, 1, none⟩)) rfl rfl (by kernel_rfl) (by kernel_rfl) (by kernel_rfl) (by rfl) (fun _ _ _ h => h) hS (fun w' hS' => ?_) ?_
  · (go_simp) <;> (intro hx9; omega)
  simp only [Act.put, List.setIfInBounds_toArray, List.set_cons_zero, List.set_cons_succ]
  refine take1 4 7 (.slice a xs.length cap) rfl rfl (by kernel_rfl) (by kernel_rfl) (by kernel_rfl) (by rfl) (fun _ _ _ h => h) hS (fun w' hS' => ?_) ?_
  · obtain ⟨p0, p1⟩ := (HK.out.1.base hS' (by omega)).cells
    (go_simp) <;> (intro hx9; omega)
  simp only [Act.put, List.setIfInBounds_toArray, List.set_cons_zero, List.set_cons_succ]
  refine wpAnyH_ready (rs := [2]) (by kernel_rfl) (by simp) ?_
  refine AllReadyH.cons rfl (fun K hK => ?_) AllReadyH.nil
  go_simp
  have SB : Below W.heap.size W (W4.alloc (.cells #[] 64)) := hD.alloc hD.size _
  have OB : Hid (OwnS (W4.alloc (.cells #[] 64)) (w.heap.size + 2) (.slice (some ⟨W4.heap.size, 0, none⟩) 0 0) []) := OwnS.zero W4 (by rw [← HZ.out]; exact hD.size)
  generalize W4.alloc (.cells #[] 64) = W5 at SB OB ⊢
  refine hK.out _ _ (SB.mono (by rw [HZ.out]; omega)) (fun hS => ?_)
  clear hK K hD
  have hD := SB
  clear SB
  refine wpAnyH_ready (rs := [5]) (by kernel_rfl) (by simp) ?_
  refine AllReadyH.cons rfl (fun K hK => ?_) AllReadyH.nil
  rw [if_pos (by rfl)]
  refine wp_app_seals _ _ rfl (w.heap.size + 2) _ [] rfl (OB.out) a xs cap rfl (HR.out.later hD) (by simp; omega) (by rw [← HZ.out]; exact hD.size) ?_
  intro b8 c8 w8 o8 g8
  simp only [List.nil_append] at o8 ⊢
  have S8 : Below W.heap.size W w8 := hD.grown g8 hD.size (fun k hk => by rw [HZ.out]; exact (World.ownsRow.lt OB.out k hk).1)
  have O8 : Hid (OwnS w8 (w.heap.size + 2) (.slice b8 xs.length c8) xs) := o8
  clear o8 g8
  refine hK.out _ _ (S8.mono (by rw [HZ.out]; omega)) (fun hS => ?_)
  clear hK K hD
  have hD := S8
  clear S8
  refine take1 6 9 (Value.agg #[.int .i64 n, .slice b8 xs.length c8]) rfl rfl (by kernel_rfl) (by kernel_rfl) (by kernel_rfl) (by rfl) (fun _ _ _ h => h) hS (fun w' hS' => ?_) ?_
  · (go_simp) <;> (intro hx9; omega)
  simp only [Act.put, List.setIfInBounds_toArray]
  refine wpAnyH_ready (rs := [7]) (by kernel_rfl) (by simp) ?_
  refine AllReadyH.cons rfl (fun K hK => ?_) AllReadyH.nil
  have qk := HK.out.2.later hD
  obtain ⟨q0, q1⟩ := qk.cells
  have qf : ∀ i, w8.frozen? ⟨w.heap.size + 1, i, none⟩ = false := fun i => by
    unfold KBlk at qk
    simp [World.frozen?, qk]
  have f0 := qf 0
  have f1 := qf 1
  have hsz := hD.size
  rw [HZ.out] at hsz
  have HSS : Hid (Below W.heap.size W w8) := hD
  have QK : Hid (KBlk w8 (w.heap.size + 1) 0 (.slice none 0 0)) := qk
  clear hS hD qk
  go_simp
  have E8 : OwnS ((w8.setCell ⟨w.heap.size + 1, 0, none⟩ (.int .i64 n)).setCell ⟨w.heap.size + 1, 1, none⟩ (.slice b8 xs.length c8)) (w.heap.size + 2) (.slice b8 xs.length c8) xs ∧ KBlk ((w8.setCell ⟨w.heap.size + 1, 0, none⟩ (.int .i64 n)).setCell ⟨w.heap.size + 1, 1, none⟩ (.slice b8 xs.length c8)) (w.heap.size + 1) n (.slice b8 xs.length c8) ∧ Below (w.heap.size + 1) W ((w8.setCell ⟨w.heap.size + 1, 0, none⟩ (.int .i64 n)).setCell ⟨w.heap.size + 1, 1, none⟩ (.slice b8 xs.length c8)) := by
    refine ⟨own_keep O8.out fun k hk => ?_, ?_, ?_⟩
    · have := (World.ownsRow.lt O8.out k hk).1
      have hne : ¬ w.heap.size + 1 = k := by omega
      simp [World.setCell, Array.getElem?_modify, hne]
    · have := QK.out
      unfold KBlk at this ⊢
      simp [World.setCell, Array.getElem?_modify, this]
    · have hb := HSS.out.mono (show w.heap.size + 1 ≤ W.heap.size by rw [HZ.out]; omega)
      exact (hb.setCell (p := ⟨w.heap.size + 1, 0, none⟩) (by simp) _).setCell (p := ⟨w.heap.size + 1, 1, none⟩) (by simp) _
  clear q0 q1 qf f0 f1 QK
  generalize (w8.setCell ⟨w.heap.size + 1, 0, none⟩ (.int .i64 n)).setCell ⟨w.heap.size + 1, 1, none⟩ (.slice b8 xs.length c8) = WE at E8 ⊢
  refine hK.out _ _ E8.2.2 (fun hS => ?_)
  clear hK K
  refine wpAnyH_done (by kernel_rfl) ?_ _
  clear hS
  have HE : Hid (OwnS WE (w.heap.size + 2) (.slice b8 xs.length c8) xs ∧ Below w.heap.size w WE) := ⟨E8.1, HB0.out.trans (E8.2.2.mono (by omega))⟩
  obtain ⟨q0, q1⟩ := E8.2.1.cells
  clear E8
  go_wp2_with fail
  exact bodyPost_ret (v := .agg #[.int .i64 n, .slice b8 xs.length c8]) (by simp [results, Tryd.results28, go_sem, q0, q1]) rfl ⟨⟨_, _, rfl, HE.out.1.less (by omega)⟩, HE.out.2⟩

set_option maxHeartbeats 4000000 in
set_option maxRecDepth 100000 in
theorem canAnswer_any (n : Int) (a1 : Option Addr) (c1 : Nat) (xs : List Sl) (m cl sv nc : Int) (a : Option Addr) (cap : Nat) (ys : List Sl) (kind : Int) (w : World) (h : SRow w a ys) (hy : ys.length ≤ 2000000) (hf : Forms w) :
    Calls Tryd.prog 32 #[.agg #[.int .i64 n, .slice a1 xs.length c1], .agg #[.int .i64 m, .int .i64 cl, .int .i64 sv, .int .i64 nc, .slice a ys.length cap], .int .i64 kind] w fun r w' => r = .returned (.bool (canB kind n m cl sv nc ys)) ∧ Below w.heap.size w w' := by
  obtain ⟨W, hW⟩ : ∃ W, W = (w.alloc (.cells #[.int .i64 n, .slice a1 xs.length c1] 31)).alloc (.cells #[.int .i64 m, .int .i64 cl, .int .i64 sv, .int .i64 nc, .slice a ys.length cap] 33) := ⟨_, rfl⟩
  have B0 : Below w.heap.size w W := hW ▸ (Below.alloc_ _ _).trans ((Below.alloc_ _ _).mono (by simp))
  have k0 : KBlk W w.heap.size n (.slice a1 xs.length c1) := by subst hW; exact (KBlk.new w n (.slice a1 xs.length c1)).later (Below.alloc_ _ _)
  have HW : Hid (KBlk W w.heap.size n (.slice a1 xs.length c1) ∧ SRow W a ys ∧ Forms W ∧ Below w.heap.size w W) := ⟨k0, h.later B0, hf.later B0, B0⟩
  clear k0 h hf B0
  go_enter Tryd.func32, Tryd.ntmps32
  by_cases hk : m = kind
  · subst hk
    go_wp2_with fail
    rw [← hW]
    clear hW
    refine (implMsg_any m cl sv nc a cap ys _ HW.out.2.1 hy HW.out.2.2.1).mono ?_
    rintro r w2 ⟨rfl, b2⟩
    have H2 : Hid (Below w.heap.size w w2) := HW.out.2.2.2.trans (b2.mono HW.out.2.2.2.size)
    obtain ⟨p0, p1⟩ := (HW.out.1.later b2).cells
    clear HW b2
    cases hmb : msgB m cl sv nc ys
    · have E0 : canB m n m cl sv nc ys = false := by simp [canB, hmb]
      have E : Hid (canB m n m cl sv nc ys = false) := E0
      clear E0
      go_wp2_with fail
      go_ret
      exact ⟨ret_bool E.out.symm, H2.out⟩
    · have E0 : canB m n m cl sv nc ys = decide (n ≤ 60) := by simp [canB, hmb]
      have E : Hid (canB m n m cl sv nc ys = decide (n ≤ 60)) := E0
      clear E0
      go_wp2_with fail
      go_ret
      exact ⟨ret_bool E.out.symm, H2.out⟩
  · have E0 : canB kind n m cl sv nc ys = false := by simp [canB, hk]
    have E : Hid (canB kind n m cl sv nc ys = false) := E0
    clear E0
    go_wp2_with fail
    rw [← hW]
    go_ret
    exact ⟨ret_bool E.out.symm, HW.out.2.2.2⟩

theorem heap_new4 (w : World) (o1 o2 o3 o4 o5 : Obj) : (((((w.alloc o1).alloc o2).alloc o3).alloc o4).alloc o5).heap[w.heap.size + 1 + 1 + 1 + 1]? = some o5 := by
  have := heap_alloc_new ((((w.alloc o1).alloc o2).alloc o3).alloc o4) o5
  simpa using this
theorem below5 (w : World) (o1 o2 o3 o4 o5 : Obj) : Below w.heap.size w (((((w.alloc o1).alloc o2).alloc o3).alloc o4).alloc o5) :=
  (((((Below.refl _ _).alloc (Nat.le_refl _) _).alloc (by simp) _).alloc (by simp; omega) _).alloc (by simp; omega) _).alloc (by simp; omega) _

set_option maxHeartbeats 4000000 in
set_option maxRecDepth 100000 in
theorem word_any (user peer held since until_ key num kind : Int) (w : World) :
    Calls Tryd.prog 36 #[.agg #[.int .i64 user, .int .i64 peer, .int .i64 held, .int .i64 since, .int .i64 until_, .int .i64 key, .int .i64 num], .int .i64 kind] w fun r w' => (∃ g, r = .returned (.agg #[.int .i64 kind, .int .i64 user, .int .i64 0, .int .i64 0, .slice (some ⟨g, 0, none⟩) 2 2]) ∧ OwnS w' w.heap.size (.slice (some ⟨g, 0, none⟩) 2 2) [tick user peer held since until_, part key peer held num until_]) ∧ Below w.heap.size w w' := by
  go_enter Tryd.func36, Tryd.ntmps36
  go_wp2_with fail
  refine bodyPost_ret (v := .agg #[.int .i64 kind, .int .i64 user, .int .i64 0, .int .i64 0, .slice (some ⟨w.heap.size + 1 + 1 + 1 + 1, 0, none⟩) 2 2]) (by simp [results, Tryd.results36, go_sem]) rfl ⟨⟨_, rfl, rfl, Or.inr ⟨w.heap.size + 1 + 1 + 1 + 1, 2, _, rfl, by omega, heap_new4 w _ _ _ _ _, Nat.le_refl _, by unfold maxLen; omega, rfl, rfl⟩⟩, below5 w _ _ _ _ _⟩

/-- On the way: who asks, the word, where the answers will lie. -/
structure Ks (w : World) (n : Int) (v : Value) (m cl sv nc : Int) (u : Value) (w' : World) : Prop where
  k : KBlk w' w.heap.size n v
  m : MsgAt w' (w.heap.size + 1) m cl sv nc u
  r1 : KBlk w' (w.heap.size + 2) 0 (.slice none 0 0)
  r2 : w'.heap[w.heap.size + 3]? = some (.cells #[.int .i64 0, .int .i64 0, .int .i64 0, .int .i64 0, .slice none 0 0] 33 (0, 0))
  below : Below w.heap.size w w'
  size : w.heap.size + 4 ≤ w'.heap.size
theorem Ks.later {w w1 w2 : World} {n m cl sv nc : Int} {v u : Value} (h : Ks w n v m cl sv nc u w1) (hb : Below w1.heap.size w1 w2) : Ks w n v m cl sv nc u w2 :=
  ⟨h.k.later hb, h.m.later hb (by have := h.size; omega), h.r1.later hb, (hb.block _ (by have := h.size; omega)).trans h.r2, h.below.trans (hb.mono h.below.size), Nat.le_trans h.size hb.size⟩
theorem Ks.new (w : World) (n : Int) (v : Value) (m cl sv nc : Int) (u : Value) : Ks w n v m cl sv nc u ((((w.alloc (.cells #[.int .i64 n, v] 31)).alloc (.cells #[.int .i64 m, .int .i64 cl, .int .i64 sv, .int .i64 nc, u] 33)).alloc (.cells #[.int .i64 0, .slice none 0 0] 31)).alloc (.cells #[.int .i64 0, .int .i64 0, .int .i64 0, .int .i64 0, .slice none 0 0] 33)) := by
  refine ⟨?_, ⟨by go_simp, by go_simp, by go_simp, by go_simp, by go_simp⟩, ?_, ?_, ((((Below.refl _ _).alloc (Nat.le_refl _) _).alloc (by simp) _).alloc (by simp; omega) _).alloc (by simp; omega) _, by simp⟩
  · unfold KBlk
    rw [Below.heap_alloc _ _ _ (by simp; omega), Below.heap_alloc _ _ _ (by simp; omega), Below.heap_alloc _ _ _ (by simp), heap_alloc_new]
  · unfold KBlk
    rw [Below.heap_alloc _ _ _ (by simp)]
    have := heap_alloc_new ((w.alloc (.cells #[.int .i64 n, v] 31)).alloc (.cells #[.int .i64 m, .int .i64 cl, .int .i64 sv, .int .i64 nc, u] 33)) (.cells #[.int .i64 0, .slice none 0 0] 31)
    simpa using this
  · have := heap_alloc_new (((w.alloc (.cells #[.int .i64 n, v] 31)).alloc (.cells #[.int .i64 m, .int .i64 cl, .int .i64 sv, .int .i64 nc, u] 33)).alloc (.cells #[.int .i64 0, .slice none 0 0] 31)) (.cells #[.int .i64 0, .int .i64 0, .int .i64 0, .int .i64 0, .slice none 0 0] 33)
    simpa using this

/-- Both answers are written. -/
def ret7 (w : World) (b : Nat) (n : Int) (v : Value) (m c s f : Int) (u : Value) : World :=
  ((((((w.setCell ⟨b + 1 + 1, 0, none⟩ (.int .i64 n)).setCell ⟨b + 1 + 1, 1, none⟩ v).setCell ⟨b + 1 + 1 + 1, 0, none⟩ (.int .i64 m)).setCell ⟨b + 1 + 1 + 1, 1, none⟩ (.int .i64 c)).setCell ⟨b + 1 + 1 + 1, 2, none⟩ (.int .i64 s)).setCell ⟨b + 1 + 1 + 1, 3, none⟩ (.int .i64 f)).setCell ⟨b + 1 + 1 + 1, 4, none⟩ u
theorem ret7_other (w : World) (b k : Nat) (n : Int) (v : Value) (m c s f : Int) (u : Value) (h1 : k ≠ b + 2) (h2 : k ≠ b + 3) : (ret7 w b n v m c s f u).heap[k]? = w.heap[k]? := by
  have q1 : ¬ b + 1 + 1 = k := by omega
  have q2 : ¬ b + 1 + 1 + 1 = k := by omega
  simp [ret7, World.setCell, Array.getElem?_modify, q1, q2]
theorem ret7_below {w w1 : World} (n : Int) (v : Value) (m c s f : Int) (u : Value) (h : Below w.heap.size w w1) : Below w.heap.size w (ret7 w1 w.heap.size n v m c s f u) :=
  ((((((h.setCell (p := ⟨_, _, none⟩) (by simp; omega) _).setCell (p := ⟨_, _, none⟩) (by simp; omega) _).setCell (p := ⟨_, _, none⟩) (by simp; omega) _).setCell (p := ⟨_, _, none⟩) (by simp; omega) _).setCell (p := ⟨_, _, none⟩) (by simp; omega) _).setCell (p := ⟨_, _, none⟩) (by simp; omega) _).setCell (p := ⟨_, _, none⟩) (by simp; omega) _
theorem Ks.ret {w w1 : World} {n m cl sv nc : Int} {v u : Value} (h : Ks w n v m cl sv nc u w1) (n' : Int) (v' : Value) (m' c' s' f' : Int) (u' : Value) :
    ((ret7 w1 w.heap.size n' v' m' c' s' f' u').cell? ⟨w.heap.size + 1 + 1, 0, none⟩ = some (.int .i64 n') ∧ (ret7 w1 w.heap.size n' v' m' c' s' f' u').cell? ⟨w.heap.size + 1 + 1, 1, none⟩ = some v') ∧
    ((ret7 w1 w.heap.size n' v' m' c' s' f' u').cell? ⟨w.heap.size + 1 + 1 + 1, 0, none⟩ = some (.int .i64 m') ∧ (ret7 w1 w.heap.size n' v' m' c' s' f' u').cell? ⟨w.heap.size + 1 + 1 + 1, 1, none⟩ = some (.int .i64 c') ∧ (ret7 w1 w.heap.size n' v' m' c' s' f' u').cell? ⟨w.heap.size + 1 + 1 + 1, 2, none⟩ = some (.int .i64 s') ∧ (ret7 w1 w.heap.size n' v' m' c' s' f' u').cell? ⟨w.heap.size + 1 + 1 + 1, 3, none⟩ = some (.int .i64 f') ∧ (ret7 w1 w.heap.size n' v' m' c' s' f' u').cell? ⟨w.heap.size + 1 + 1 + 1, 4, none⟩ = some u') := by
  have h1 : w1.heap[w.heap.size + 1 + 1]? = some (.cells #[.int .i64 0, .slice none 0 0] 31 (0, 0)) := h.r1
  have h2 : w1.heap[w.heap.size + 1 + 1 + 1]? = some (.cells #[.int .i64 0, .int .i64 0, .int .i64 0, .int .i64 0, .slice none 0 0] 33 (0, 0)) := h.r2
  refine ⟨⟨?_, ?_⟩, ?_, ?_, ?_, ?_, ?_⟩
  all_goals simp [ret7, World.cell?, World.setCell, Array.getElem?_modify, h1, h2]
theorem Ks.cells {w w1 : World} {n m cl sv nc : Int} {v u : Value} (h : Ks w n v m cl sv nc u w1) :
    (w1.cell? ⟨w.heap.size + 1 + 1, 0, none⟩ = some (.int .i64 0) ∧ w1.cell? ⟨w.heap.size + 1 + 1, 1, none⟩ = some (.slice none 0 0) ∧ ∀ i, w1.frozen? ⟨w.heap.size + 1 + 1, i, none⟩ = false) ∧
    (w1.cell? ⟨w.heap.size + 1 + 1 + 1, 0, none⟩ = some (.int .i64 0) ∧ w1.cell? ⟨w.heap.size + 1 + 1 + 1, 1, none⟩ = some (.int .i64 0) ∧ w1.cell? ⟨w.heap.size + 1 + 1 + 1, 2, none⟩ = some (.int .i64 0) ∧ w1.cell? ⟨w.heap.size + 1 + 1 + 1, 3, none⟩ = some (.int .i64 0) ∧ w1.cell? ⟨w.heap.size + 1 + 1 + 1, 4, none⟩ = some (.slice none 0 0) ∧ ∀ i, w1.frozen? ⟨w.heap.size + 1 + 1 + 1, i, none⟩ = false) := by
  have h1 : w1.heap[w.heap.size + 1 + 1]? = some (.cells #[.int .i64 0, .slice none 0 0] 31 (0, 0)) := h.r1
  have h2 : w1.heap[w.heap.size + 1 + 1 + 1]? = some (.cells #[.int .i64 0, .int .i64 0, .int .i64 0, .int .i64 0, .slice none 0 0] 33 (0, 0)) := h.r2
  refine ⟨⟨?_, ?_, fun i => ?_⟩, ?_, ?_, ?_, ?_, ?_, fun i => ?_⟩
  all_goals simp [World.cell?, World.frozen?, h1, h2]

end Go.Proofs.YtghajmfjekfdpaaDoor
