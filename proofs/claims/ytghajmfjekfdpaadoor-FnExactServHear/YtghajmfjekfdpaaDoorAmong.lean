/-
  Whether a seal is among seals, as the specification looks; nothing that was in memory is turned.
-/
import Derived.Test.YtghajmfjekfdpaaDoorMarksJ
namespace Go.Proofs.YtghajmfjekfdpaaDoor
open Go.RowKit
attribute [local go_sem ↓] Go.wp_at_zero Go.wp_at_succ

set_option maxHeartbeats 2000000 in
set_option maxRecDepth 100000 in
theorem l3Among_any (a : Option Addr) (cap : Nat) (xs : List Sl) (s : Sl) (w : World) (h : SRow w a xs) (hx : xs.length ≤ 2000000) :
    Calls Tryd.prog 82 #[.slice a xs.length cap, .agg #[.int .i64 s.k, .int .i64 s.t, .int .i64 s.a, .int .i64 s.b, .int .i64 s.c, .int .i64 s.d, .int .i64 s.e]] w fun r w' => r = .returned (.bool (inS s xs)) ∧ Below w.heap.size w w' := by
  go_enter Tryd.func82, Tryd.ntmps82
  have T0 : Hid (Below w.heap.size w (w.alloc (.cells #[.int .i64 s.k, .int .i64 s.t, .int .i64 s.a, .int .i64 s.b, .int .i64 s.c, .int .i64 s.d, .int .i64 s.e] 64)) ∧ SealAt (w.alloc (.cells #[.int .i64 s.k, .int .i64 s.t, .int .i64 s.a, .int .i64 s.b, .int .i64 s.c, .int .i64 s.d, .int .i64 s.e] 64)) w.heap.size 0 s ∧ w.heap.size < (w.alloc (.cells #[.int .i64 s.k, .int .i64 s.t, .int .i64 s.a, .int .i64 s.b, .int .i64 s.c, .int .i64 s.d, .int .i64 s.e] 64)).heap.size) :=
    ⟨(Below.refl _ _).alloc (Nat.le_refl _) _, ⟨by go_simp, by go_simp, by go_simp, by go_simp, by go_simp, by go_simp, by go_simp⟩, by simp⟩
  go_wp2_with fail
  go_loopw [5] (fun i wr => ∃ (j : Nat), j ≤ xs.length ∧ i = .int .i64 j ∧ Hid (Below w.heap.size w wr ∧ SealAt wr w.heap.size 0 s ∧ w.heap.size < wr.heap.size ∧ ¬ s ∈ xs.take j)) (fun i _ => xs.length - (intOf i).toNat)
  case atStart => exact ⟨0, Nat.zero_le _, rfl, T0.out.1, T0.out.2.1, T0.out.2.2, by simp⟩
  case round =>
    clear T0
    obtain ⟨j, hj, rfl, C⟩ := hrel
    by_cases hlt : j < xs.length
    · obtain ⟨u, hu⟩ : ∃ u, xs[j]? = some u := ⟨xs[j], List.getElem?_eq_getElem hlt⟩
      rcases h with h | ⟨b, off, rfl, hl, h⟩
      · simp [h] at hlt
      have hS0 : SealAt wr.drew b (off + j * 7) u ∧ SealAt wr.drew w.heap.size 0 s := ⟨(h j u hu).later C.out.1.drew hl, C.out.2.1.later (Below.refl _ _).drew C.out.2.2.1⟩
      have C2 : Hid (Below w.heap.size w wr.drew ∧ SealAt wr.drew w.heap.size 0 s ∧ w.heap.size < wr.drew.heap.size ∧ ¬ s ∈ xs.take j) := ⟨C.out.1.drew, hS0.2, C.out.2.2.1, C.out.2.2.2⟩
      have HU : Hid (xs[j]? = some u) := hu
      clear h hu C
      go_wp2_with fail
      refine wp_region_held_drew (S := fun w' => SealAt w' b (off + j * 7) u ∧ SealAt w' w.heap.size 0 s) (by kernel_rfl) hS0 (fun hS => ?_)
      refine take1 0 12 (.slice (some ⟨b, off, none⟩) xs.length cap) rfl rfl (by kernel_rfl) (by kernel_rfl) (by kernel_rfl) (by rfl) (fun _ _ _ h => h) hS (fun w' hS' => ?_) ?_
      · (go_simp) <;> (intro hx9; omega)
      simp only [Act.put, List.setIfInBounds_toArray, List.set_cons_zero, List.set_cons_succ]
      refine take1 1 13 (.int .i64 j) rfl rfl (by kernel_rfl) (by kernel_rfl) (by kernel_rfl) (by rfl) (fun _ _ _ h => h) hS (fun w' hS' => ?_) ?_
      · (go_simp) <;> (intro hx9; omega)
      simp only [Act.put, List.setIfInBounds_toArray, List.set_cons_zero, List.set_cons_succ]
      refine take1 2 14 (.pointer (some ⟨b, off + j * 7, none⟩)) rfl rfl (by kernel_rfl) (by kernel_rfl) (by kernel_rfl) (by rfl) (fun _ _ _ h => h) hS (fun w' hS' => ?_) ?_
      · (go_simp) <;> (intro hx9; omega)
      simp only [Act.put, List.setIfInBounds_toArray, List.set_cons_zero, List.set_cons_succ]
      refine take1 3 15 (Value.agg #[.int .i64 u.k, .int .i64 u.t, .int .i64 u.a, .int .i64 u.b, .int .i64 u.c, .int .i64 u.d, .int .i64 u.e]) rfl rfl (by kernel_rfl) (by kernel_rfl) (by kernel_rfl) (by rfl) (fun _ _ _ h => h) hS (fun w' hS' => ?_) ?_
      · obtain ⟨⟨c0, c1, c2, c3, c4, c5, c6⟩, _⟩ := hS'
        (go_simp) <;> (intro hx9; omega)
      simp only [Act.put, List.setIfInBounds_toArray, List.set_cons_zero, List.set_cons_succ]
      refine take1 4 16 (Value.agg #[.int .i64 s.k, .int .i64 s.t, .int .i64 s.a, .int .i64 s.b, .int .i64 s.c, .int .i64 s.d, .int .i64 s.e]) rfl rfl (by kernel_rfl) (by kernel_rfl) (by kernel_rfl) (by rfl) (fun _ _ _ h => h) hS (fun w' hS' => ?_) ?_
      · obtain ⟨_, ⟨c0, c1, c2, c3, c4, c5, c6⟩⟩ := hS'
        simp only [Nat.zero_add] at c1 c2 c3 c4 c5 c6
        (go_simp) <;> (intro hx9; omega)
      simp only [Act.put, List.setIfInBounds_toArray, List.set_cons_zero, List.set_cons_succ]
      by_cases hsu : u = s
      · subst hsu
        refine take1 5 17 (.bool true) rfl rfl (by kernel_rfl) (by kernel_rfl) (by kernel_rfl) (by rfl) (fun _ _ _ h => h) hS (fun w' hS' => ?_) ?_
        · go_simp
        simp only [Act.put, List.setIfInBounds_toArray, List.set_cons_zero, List.set_cons_succ]
        refine wpAnyH_done (by kernel_rfl) ?_ _
        clear hS hS0
        go_wp2_with fail
        go_ret
        exact ⟨ret_bool (inS_true (List.mem_of_getElem? HU.out)).symm, C2.out.1⟩
      · have HN : Hid (¬ u = s) := hsu
        clear hsu
        refine take1 5 17 (.bool false) rfl rfl (by kernel_rfl) (by kernel_rfl) (by kernel_rfl) (by rfl) (fun _ _ _ h => h) hS (fun w' hS' => ?_) ?_
        · go_simp
          exact fun h1 h2 h3 h4 h5 h6 h7 => HN.out (sl_eq ⟨h1, h2, h3, h4, h5, h6, h7⟩)
        simp only [Act.put, List.setIfInBounds_toArray, List.set_cons_zero, List.set_cons_succ]
        refine wpAnyH_done (by kernel_rfl) ?_ _
        clear hS hS0
        have C3 : Hid (Below w.heap.size w wr.drew ∧ SealAt wr.drew w.heap.size 0 s ∧ w.heap.size < wr.drew.heap.size ∧ ¬ s ∈ xs.take (j + 1)) := ⟨C2.out.1, C2.out.2.1, C2.out.2.2.1, not_in_take HU.out C2.out.2.2.2 HN.out⟩
        clear C2 HU
        go_wp2_with fail
        go_roundw
        case rel => exact ⟨j + 1, by omega, by go_num, C3⟩
        case measure => simp [intOf]; omega
    · obtain rfl : j = xs.length := by omega
      have HN : Hid (¬ s ∈ xs) := by have := C.out.2.2.2; rwa [List.take_length] at this
      clear h
      go_wp2_with fail
      go_ret
      exact ⟨ret_bool (inS_false HN.out).symm, C.out.1⟩

end Go.Proofs.YtghajmfjekfdpaaDoor
