/-
  The specification's KnowKeys: the keys that one can come to, ascending, in a row of its own; nothing that was in memory is turned.
-/
import Derived.Test.YthgglnjjbpjonaaKOwn
namespace Go.Proofs.Ythgglnjjbpjonaa
open Go.RowKit

set_option maxRecDepth 100000 in
set_option maxHeartbeats 2000000 in
theorem specKeys_any (a1 a2 : Option Addr) (c1 c2 : Nat) (ks : List Int) (xs : List Sl) (w : World) (h1 : IRow w a1 ks) (h2 : SRow w a2 xs) (hk : ks.length ≤ 2000000) (hx : xs.length ≤ 2000000) :
    Calls Try.prog 8 #[.slice a1 ks.length c1, .slice a2 xs.length c2] w fun r w' => (∃ v H, r = .returned v ∧ Right ks xs H ∧ OwnI w' w.heap.size v (keysOf H 61)) ∧ Below w.heap.size w w' := by
  obtain ⟨i0, hi, hz0, hz1, hz2⟩ := info_parts infoInt
  go_enter Try.func8, Try.ntmps8
  go_wp2_with fail
  refine (l3All_any a1 a2 c1 c2 ks xs w h1 h2 hk hx).mono ?_
  rintro r w2 ⟨rfl, ⟨H, hR, hB⟩, hb2⟩
  have hlt := hB.lt
  have T0 : Hid (Kk w w.heap.size H 0 (.slice (some ⟨w2.heap.size, 0, none⟩) 0 0) (w2.alloc (.cells #[] 3))) :=
    ⟨OwnI.zero _ _ rfl hlt, hB.same (Below.heap_alloc _ _ _ hlt), hb2.alloc hb2.size _⟩
  clear h1 h2 hB hb2
  go_wp2_with fail
  go_loopw [6, 7] (fun v i wr => ∃ (j : Nat), j ≤ 61 ∧ i = .int .i64 j ∧ Hid (Kk w w.heap.size H j v wr)) (fun _ i _ => 61 - (intOf i).toNat)
  case atStart => exact ⟨0, Nat.zero_le _, rfl, T0⟩
  case round =>
    obtain ⟨j, hj, rfl, C⟩ := hrel
    clear T0
    have hsz : w.heap.size < wr.heap.size := C.out.bits.lt
    by_cases hl : j < 61
    · have d0 := C.out.bits.cell j hl
      cases hb : H.getD j false
      · rw [hb] at d0
        go_wp2_with fail
        go_roundw
        case rel =>
          refine ⟨j + 1, by omega, by go_num, ?_, C.out.bits, C.out.below⟩
          rw [keysOf_succ, hb]
          simpa using C.out.own
        case measure => simp [intOf]; omega
      · rw [hb] at d0
        have hlen := keysOf_len H j
        go_wp2_with (first
          | (at_builtin; refine wpList_append_own_at _ rfl _ _ 22 rfl (w.heap.size + 1) 3 i0 (.int .i64 0) 1 8 Try.underlying22 hi hz0 hz1 hz2 rfl (by decide) _ _ _ rfl (C.out.own.alloc _) ⟨wr.heap.size, 0, none⟩ 1 1 [.int .i64 j] rfl rfl (cell_one_new _ _ _) (ints_one .i64 j) (by unfold maxLen; omega) (by omega) (by simp; omega) ?_; intro v' w1 hown' hgrow hnil hloc)
          | go_in)
        go_roundw
        case rel => exact ⟨j + 1, by omega, by go_num, C.out.step hb (Nat.le_refl _) hown' hgrow⟩
        case measure => simp [intOf]; omega
    · obtain rfl : j = 61 := by omega
      go_wp2_with fail
      go_ret
      exact ⟨⟨_, H, rfl, hR, C.out.own.less (by omega)⟩, C.out.below⟩

end Go.Proofs.Ythgglnjjbpjonaa
