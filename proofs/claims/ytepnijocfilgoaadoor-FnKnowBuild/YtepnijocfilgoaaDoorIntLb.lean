/-
  The laws' own looks at rows of numbers: the same rows are the same; whether a number is among such; nothing is turned.
-/
import Derived.Test.YtepnijocfilgoaaDoorKnowBits
namespace Go.Proofs.YtepnijocfilgoaaDoor
open Go.RowKit
attribute [local go_sem ↓] Go.wp_at_zero Go.wp_at_succ

set_option maxHeartbeats 1000000 in
set_option maxRecDepth 100000 in
theorem lbInts_same (a1 a2 : Option Addr) (p1 p2 : Nat) (ks : List Int) (w : World) (h1 : IRow w a1 ks) (h2 : IRow w a2 ks) (hx : ks.length ≤ 2000000) :
    Calls Tryd.prog 19 #[.slice a1 ks.length p1, .slice a2 ks.length p2] w fun r w' => r = .returned (.bool true) ∧ Below w.heap.size w w' := by
  go_enter Tryd.func19, Tryd.ntmps19
  go_wp2_with fail
  go_loopw [5] (fun i wr => ∃ (j : Nat), j ≤ ks.length ∧ i = .int .i64 j ∧ Hid (Below w.heap.size w wr)) (fun i _ => ks.length - (intOf i).toNat)
  case atStart => exact ⟨0, Nat.zero_le _, rfl, Below.refl _ _⟩
  case round =>
    obtain ⟨j, hj, rfl, C⟩ := hrel
    by_cases hlt : j < ks.length
    · obtain ⟨n, hn⟩ : ∃ n, ks[j]? = some n := ⟨ks[j], List.getElem?_eq_getElem hlt⟩
      rcases h1 with h | ⟨b, off, rfl, hl, h1⟩
      · simp [h] at hlt
      rcases h2 with h | ⟨b2, off2, rfl, hl2, h2⟩
      · simp [h] at hlt
      have hbd := C.out.drew
      have hS0 : wr.drew.cell? ⟨b, off + j, none⟩ = some (.int .i64 n) ∧ wr.drew.cell? ⟨b2, off2 + j, none⟩ = some (.int .i64 n) := ⟨((bcell hbd).1 _ _ hl).trans (h1 j n hn), ((bcell hbd).1 _ _ hl2).trans (h2 j n hn)⟩
      clear h1 h2
      go_wp2_with fail
      refine wp_region_held_drew (S := fun w' => w'.cell? ⟨b, off + j, none⟩ = some (.int .i64 n) ∧ w'.cell? ⟨b2, off2 + j, none⟩ = some (.int .i64 n)) (by kernel_rfl) hS0 (fun hS => ?_)
      refine take1 0 17 (.slice (some ⟨b, off, none⟩) ks.length p1) rfl rfl (by kernel_rfl) (by kernel_rfl) (by kernel_rfl) (by rfl) (fun _ _ _ h => h) hS (fun w' hS' => ?_) ?_
      · go_simp
      simp only [Act.put, List.setIfInBounds_toArray, List.set_cons_zero, List.set_cons_succ]
      refine take1 1 18 (.int .i64 j) rfl rfl (by kernel_rfl) (by kernel_rfl) (by kernel_rfl) (by rfl) (fun _ _ _ h => h) hS (fun w' hS' => ?_) ?_
      · go_simp
      simp only [Act.put, List.setIfInBounds_toArray, List.set_cons_zero, List.set_cons_succ]
      refine take1 2 19 (.pointer (some ⟨b, off + j, none⟩)) rfl rfl (by kernel_rfl) (by kernel_rfl) (by kernel_rfl) (by rfl) (fun _ _ _ h => h) hS (fun w' hS' => ?_) ?_
      · go_simp
      simp only [Act.put, List.setIfInBounds_toArray, List.set_cons_zero, List.set_cons_succ]
      refine take1 3 20 (.int .i64 n) rfl rfl (by kernel_rfl) (by kernel_rfl) (by kernel_rfl) (by rfl) (fun _ _ _ h => h) hS (fun w' hS' => ?_) ?_
      · have c0 := hS'.1
        go_simp
      simp only [Act.put, List.setIfInBounds_toArray, List.set_cons_zero, List.set_cons_succ]
      refine take1 4 21 (.slice (some ⟨b2, off2, none⟩) ks.length p2) rfl rfl (by kernel_rfl) (by kernel_rfl) (by kernel_rfl) (by rfl) (fun _ _ _ h => h) hS (fun w' hS' => ?_) ?_
      · go_simp
      simp only [Act.put, List.setIfInBounds_toArray, List.set_cons_zero, List.set_cons_succ]
      refine take1 5 22 (.int .i64 j) rfl rfl (by kernel_rfl) (by kernel_rfl) (by kernel_rfl) (by rfl) (fun _ _ _ h => h) hS (fun w' hS' => ?_) ?_
      · go_simp
      simp only [Act.put, List.setIfInBounds_toArray, List.set_cons_zero, List.set_cons_succ]
      refine take1 6 23 (.pointer (some ⟨b2, off2 + j, none⟩)) rfl rfl (by kernel_rfl) (by kernel_rfl) (by kernel_rfl) (by rfl) (fun _ _ _ h => h) hS (fun w' hS' => ?_) ?_
      · go_simp
      simp only [Act.put, List.setIfInBounds_toArray, List.set_cons_zero, List.set_cons_succ]
      refine take1 7 24 (.int .i64 n) rfl rfl (by kernel_rfl) (by kernel_rfl) (by kernel_rfl) (by rfl) (fun _ _ _ h => h) hS (fun w' hS' => ?_) ?_
      · have c0 := hS'.2
        go_simp
      simp only [Act.put, List.setIfInBounds_toArray, List.set_cons_zero, List.set_cons_succ]
      refine take1 8 25 (.bool false) rfl rfl (by kernel_rfl) (by kernel_rfl) (by kernel_rfl) (by rfl) (fun _ _ _ h => h) hS (fun w' hS' => ?_) ?_
      · go_simp
      simp only [Act.put, List.setIfInBounds_toArray, List.set_cons_zero, List.set_cons_succ]
      refine wpAnyH_done (by kernel_rfl) ?_ _
      have C2 : Hid (Below w.heap.size w wr.drew) := hbd
      clear hS hS0 hbd C
      go_wp2_with fail
      go_roundw
      case rel => exact ⟨j + 1, by omega, by go_num, C2⟩
      case measure => simp [intOf]; omega
    · obtain rfl : j = ks.length := by omega
      go_wp2_with fail
      go_ret
      exact ⟨rfl, C.out⟩

set_option maxHeartbeats 1000000 in
set_option maxRecDepth 100000 in
theorem lbHas_any (a : Option Addr) (cap : Nat) (ks : List Int) (n : Int) (w : World) (h : IRow w a ks) (hx : ks.length ≤ 2000000) :
    Calls Tryd.prog 21 #[.slice a ks.length cap, .int .i64 n] w fun r w' => r = .returned (.bool (decide (n ∈ ks))) ∧ w' = w := by
  go_enter Tryd.func21, Tryd.ntmps21
  go_wp2_with fail
  go_loopw [5] (fun i wr => ∃ (j : Nat), j ≤ ks.length ∧ i = .int .i64 j ∧ Hid (wr = w ∧ ∀ i m, i < j → ks[i]? = some m → m ≠ n)) (fun i _ => ks.length - (intOf i).toNat)
  case atStart => exact ⟨0, Nat.zero_le _, rfl, rfl, fun i m hi => by omega⟩
  case round =>
    obtain ⟨j, hj, rfl, C⟩ := hrel
    obtain rfl : wr = w := C.out.1
    by_cases hlt : j < ks.length
    · obtain ⟨m, hm⟩ : ∃ m, ks[j]? = some m := ⟨ks[j], List.getElem?_eq_getElem hlt⟩
      rcases h with h | ⟨b, off, rfl, hl, h⟩
      · simp [h] at hlt
      have c0 := h j m hm
      clear h
      by_cases e : m = n
      · subst e
        go_wp2_with fail
        go_ret
        exact ⟨ret_bool (decide_eq_true (List.mem_of_getElem? hm)).symm, rfl⟩
      · go_wp2_with fail
        go_roundw
        case rel =>
          refine ⟨j + 1, by omega, by go_num, by trivial, fun i u hi hu => ?_⟩
          by_cases e' : i = j
          · subst e'
            obtain rfl : m = u := Option.some.inj (hm.symm.trans hu)
            exact e
          · exact C.out.2 i u (by omega) hu
        case measure => simp [intOf]; omega
    · obtain rfl : j = ks.length := by omega
      clear h
      go_wp2_with fail
      go_ret
      refine ⟨ret_bool (decide_eq_false fun hn => ?_).symm, rfl⟩
      obtain ⟨i, hi, he⟩ := List.mem_iff_getElem.1 hn
      exact C.out.2 i n hi (by rw [List.getElem?_eq_getElem hi, he]) rfl

end Go.Proofs.YtepnijocfilgoaaDoor
