/-
  Two rows of seals held against each other by the laws: true just if they are the same; nothing that was in memory is turned.
-/
import Derived.Test.YtopikapamfmalaaGreatDoorSlEq
namespace Go.Proofs.YtopikapamfmalaaGreatDoor
open Go.RowKit
attribute [local go_sem ↓] Go.wp_at_zero Go.wp_at_succ

theorem take_eq {xs ys : List Sl} {j : Nat} {s u : Sl} (h : xs.take j = ys.take j) (hs : xs[j]? = some s) (hu : ys[j]? = some u) : xs.take (j + 1) = ys.take (j + 1) ↔ s = u := by
  rw [List.take_add_one, List.take_add_one, hs, hu, h]; simp

set_option maxHeartbeats 1000000 in
set_option maxRecDepth 100000 in
theorem lbSeals_any (a1 a2 : Option Addr) (p1 p2 : Nat) (xs ys : List Sl) (w : World) (h1 : SRow w a1 xs) (h2 : SRow w a2 ys) (hx : xs.length ≤ 2000000) (hy : ys.length ≤ 2000000) :
    Calls Tryz.prog 28 #[.slice a1 xs.length p1, .slice a2 ys.length p2] w fun r w' => r = .returned (.bool (eqS xs ys)) ∧ Below w.heap.size w w' := by
  by_cases hl : xs.length = ys.length
  · have hlb : ((xs.length : Int) == (ys.length : Int)) = true := by simp [hl]
    have HL : Hid (xs.length = ys.length) := hl
    go_enter Tryz.func28, Tryz.ntmps28
    go_wp2_with fail
    clear hl hlb
    go_loopw [5] (fun i wr => ∃ (j : Nat), j ≤ xs.length ∧ i = .int .i64 j ∧ Hid (Below w.heap.size w wr ∧ xs.take j = ys.take j)) (fun i _ => xs.length - (intOf i).toNat)
    case atStart => exact ⟨0, Nat.zero_le _, rfl, Below.refl _ _, rfl⟩
    case round =>
      obtain ⟨j, hj, rfl, C⟩ := hrel
      by_cases hlt : j < xs.length
      · obtain ⟨s, hs⟩ : ∃ s, xs[j]? = some s := ⟨xs[j], List.getElem?_eq_getElem hlt⟩
        have hlt2 : j < ys.length := by have := HL.out; omega
        obtain ⟨u, hu⟩ : ∃ u, ys[j]? = some u := ⟨ys[j], List.getElem?_eq_getElem hlt2⟩
        rcases h1 with h | ⟨b, off, rfl, hb1, h1⟩
        · simp [h] at hlt
        rcases h2 with h | ⟨b2, off2, rfl, hb2, h2⟩
        · simp [h] at hlt2
        have hS0 : SealAt wr.drew b (off + j * 7) s ∧ SealAt wr.drew b2 (off2 + j * 7) u := ⟨(h1 j s hs).later C.out.1.drew hb1, (h2 j u hu).later C.out.1.drew hb2⟩
        have HSU : Hid (xs[j]? = some s ∧ ys[j]? = some u) := ⟨hs, hu⟩
        have C2 : Hid (Below w.heap.size w wr.drew ∧ xs.take j = ys.take j) := ⟨C.out.1.drew, C.out.2⟩
        clear h1 h2 hs hu C
        go_wp2_with fail
        refine wp_region_held_drew (S := fun w' => SealAt w' b (off + j * 7) s ∧ SealAt w' b2 (off2 + j * 7) u) (by kernel_rfl) hS0 (fun hS => ?_)
        refine take1 0 17 (.slice (some ⟨b, off, none⟩) xs.length p1) rfl rfl (by kernel_rfl) (by kernel_rfl) (by kernel_rfl) (by rfl) (fun _ _ _ h => h) hS (fun w' hS' => ?_) ?_
        · go_simp
        simp only [Act.put, List.setIfInBounds_toArray, List.set_cons_zero, List.set_cons_succ]
        refine take1 1 18 (.int .i64 j) rfl rfl (by kernel_rfl) (by kernel_rfl) (by kernel_rfl) (by rfl) (fun _ _ _ h => h) hS (fun w' hS' => ?_) ?_
        · go_simp
        simp only [Act.put, List.setIfInBounds_toArray, List.set_cons_zero, List.set_cons_succ]
        refine take1 2 19 (.pointer (some ⟨b, off + j * 7, none⟩)) rfl rfl (by kernel_rfl) (by kernel_rfl) (by kernel_rfl) (by rfl) (fun _ _ _ h => h) hS (fun w' hS' => ?_) ?_
        · go_simp
        simp only [Act.put, List.setIfInBounds_toArray, List.set_cons_zero, List.set_cons_succ]
        refine take1 3 20 ((Value.agg #[.int .i64 s.k, .int .i64 s.t, .int .i64 s.a, .int .i64 s.b, .int .i64 s.c, .int .i64 s.d, .int .i64 s.e])) rfl rfl (by kernel_rfl) (by kernel_rfl) (by kernel_rfl) (by rfl) (fun _ _ _ h => h) hS (fun w' hS' => ?_) ?_
        · obtain ⟨⟨c0, c1, c2, c3, c4, c5, c6⟩, _⟩ := hS'
          go_simp
        simp only [Act.put, List.setIfInBounds_toArray, List.set_cons_zero, List.set_cons_succ]
        refine take1 4 21 (.slice (some ⟨b2, off2, none⟩) ys.length p2) rfl rfl (by kernel_rfl) (by kernel_rfl) (by kernel_rfl) (by rfl) (fun _ _ _ h => h) hS (fun w' hS' => ?_) ?_
        · go_simp
        simp only [Act.put, List.setIfInBounds_toArray, List.set_cons_zero, List.set_cons_succ]
        refine take1 5 22 (.int .i64 j) rfl rfl (by kernel_rfl) (by kernel_rfl) (by kernel_rfl) (by rfl) (fun _ _ _ h => h) hS (fun w' hS' => ?_) ?_
        · go_simp
        simp only [Act.put, List.setIfInBounds_toArray, List.set_cons_zero, List.set_cons_succ]
        refine take1 6 23 (.pointer (some ⟨b2, off2 + j * 7, none⟩)) rfl rfl (by kernel_rfl) (by kernel_rfl) (by kernel_rfl) (by rfl) (fun _ _ _ h => h) hS (fun w' hS' => ?_) ?_
        · go_simp
        simp only [Act.put, List.setIfInBounds_toArray, List.set_cons_zero, List.set_cons_succ]
        refine take1 7 24 ((Value.agg #[.int .i64 u.k, .int .i64 u.t, .int .i64 u.a, .int .i64 u.b, .int .i64 u.c, .int .i64 u.d, .int .i64 u.e])) rfl rfl (by kernel_rfl) (by kernel_rfl) (by kernel_rfl) (by rfl) (fun _ _ _ h => h) hS (fun w' hS' => ?_) ?_
        · obtain ⟨_, ⟨c0, c1, c2, c3, c4, c5, c6⟩⟩ := hS'
          go_simp
        simp only [Act.put, List.setIfInBounds_toArray, List.set_cons_zero, List.set_cons_succ]
        by_cases hsu : s = u
        · subst hsu
          refine take1 8 25 (.bool false) rfl rfl (by kernel_rfl) (by kernel_rfl) (by kernel_rfl) (by rfl) (fun _ _ _ h => h) hS (fun w' hS' => ?_) ?_
          · go_simp
          simp only [Act.put, List.setIfInBounds_toArray, List.set_cons_zero, List.set_cons_succ]
          refine wpAnyH_done (by kernel_rfl) ?_ _
          clear hS hS0
          have C3 : Hid (Below w.heap.size w wr.drew ∧ xs.take (j + 1) = ys.take (j + 1)) := ⟨C2.out.1, (take_eq C2.out.2 HSU.out.1 HSU.out.2).2 rfl⟩
          clear C2 HSU
          go_wp2_with fail
          go_roundw
          case rel => exact ⟨j + 1, by omega, by go_num, C3⟩
          case measure => simp [intOf]; omega
        · have HN : Hid (¬ s = u) := hsu
          clear hsu
          refine take1 8 25 (.bool true) rfl rfl (by kernel_rfl) (by kernel_rfl) (by kernel_rfl) (by rfl) (fun _ _ _ h => h) hS (fun w' hS' => ?_) ?_
          · go_simp
            exact fun h1 h2 h3 h4 h5 h6 h7 => HN.out (sl_eq ⟨h1, h2, h3, h4, h5, h6, h7⟩)
          simp only [Act.put, List.setIfInBounds_toArray, List.set_cons_zero, List.set_cons_succ]
          refine wpAnyH_done (by kernel_rfl) ?_ _
          clear hS hS0
          go_wp2_with fail
          go_ret
          refine ⟨ret_bool ?_, C2.out.1⟩
          symm; apply eqS_false
          intro e
          exact HN.out ((take_eq C2.out.2 HSU.out.1 HSU.out.2).1 (by rw [e]))
      · obtain rfl : j = xs.length := by omega
        go_wp2_with fail
        go_ret
        refine ⟨ret_bool ?_, C.out.1⟩
        symm; apply eqS_true
        have := C.out.2
        rw [List.take_length, HL.out, List.take_length] at this
        exact this
  · have hln : ¬ ((xs.length : Int) = (ys.length : Int)) := by omega
    have hlb : ((xs.length : Int) == (ys.length : Int)) = false := by rw [beq_eq_false_iff_ne]; exact hln
    go_enter Tryz.func28, Tryz.ntmps28
    go_wp2_with fail
    go_ret
    exact ⟨ret_bool (by symm; apply eqS_false; rintro rfl; exact hl rfl), Below.refl _ _⟩

end Go.Proofs.YtopikapamfmalaaGreatDoor
