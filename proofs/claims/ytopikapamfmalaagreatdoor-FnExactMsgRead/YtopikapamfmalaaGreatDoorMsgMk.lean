/-
  The laws' own copies of words, with their rows of seals as such that may be written; marks in a word's row.
-/
import Derived.Test.YtopikapamfmalaaGreatDoorToJ
import Derived.Test.YtopikapamfmalaaGreatDoorSealMarks
namespace Go.Proofs.YtopikapamfmalaaGreatDoor
open Go.RowKit
attribute [local go_sem ↓] Go.wp_at_zero Go.wp_at_succ

set_option maxHeartbeats 1000000 in
/-- Marks in a row of the call's own. -/
theorem markMsg_own (m n k f : Int) {w : World} {base : Nat} {v : Value} {zs : List Sl} (k0 : Int) (h : OwnS w base v zs) (hB : base ≤ w.heap.size) (hn : zs.length ≤ 2000000) (h0 : 0 ≤ k0) (h1 : k0 ≤ 100000000) :
    Calls Tryz.prog 8 #[.agg #[.int .i64 m, .int .i64 n, .int .i64 k, .int .i64 f, v], .int .i64 k0] w fun r w' => r = .returned (.int .i64 (k0 + 7 * zs.length)) ∧ Below base w w' ∧ Mk7 w' v zs.length k0 := by
  obtain ⟨a, cap, rfl, _⟩ := h.row
  have HO : Hid (OwnS w base (.slice a zs.length cap) zs) := h
  clear h
  go_enter Tryz.func8, Tryz.ntmps8
  go_wp2_with fail
  refine (markSeal_own k0 (OwnS.later HO.out (Below.alloc_ _ _)) hn h0 h1).mono ?_
  rintro r w2 ⟨rfl, b2, m2⟩
  go_wp2_with fail
  go_ret
  exact ⟨rfl, ((Below.alloc_ _ _).mono hB).trans b2, m2⟩
set_option maxHeartbeats 1000000 in
/-- Marks in a row that may be written. -/
theorem markMsg_row (m n k f : Int) (g len cap : Nat) (k0 : Int) (w : World) (h : WB w g (len * 7)) (hn : len ≤ 2000000) (h0 : 0 ≤ k0) (h1 : k0 ≤ 100000000) :
    Calls Tryz.prog 8 #[.agg #[.int .i64 m, .int .i64 n, .int .i64 k, .int .i64 f, .slice (some ⟨g, 0, none⟩) len cap], .int .i64 k0] w fun r w' => r = .returned (.int .i64 (k0 + 7 * len)) ∧ w.grownBy w' (some g) := by
  have hg := h.lt
  have HW : Hid (WB (w.alloc (.cells #[.int .i64 m, .int .i64 n, .int .i64 k, .int .i64 f, .slice (some ⟨g, 0, none⟩) len cap] 24)) g (len * 7)) := h.same (Below.heap_alloc _ _ _ hg)
  clear h
  go_enter Tryz.func8, Tryz.ntmps8
  go_wp2_with fail
  refine (markSealS_any g len cap k0 _ HW.out hn h0 h1).mono ?_
  rintro r w2 ⟨rfl, t2, _, _⟩
  go_wp2_with fail
  go_ret
  exact ⟨rfl, (World.grownBy_alloc _ _ _).trans ⟨t2.os, t2.tape, t2.output, Nat.le_of_eq t2.size.symm, fun k _ hk => t2.block k (fun e => hk (by rw [e]))⟩⟩
set_option maxHeartbeats 1000000 in
/-- They are held. -/
theorem heldMsg_own (m n k f : Int) {w : World} {v : Value} {len : Nat} (k0 : Int) (h : Mk7 w v len k0) (hn : len ≤ 2000000) (h0 : 0 ≤ k0) (h1 : k0 ≤ 100000000) :
    Calls Tryz.prog 9 #[.agg #[.int .i64 m, .int .i64 n, .int .i64 k, .int .i64 f, v], .int .i64 k0] w fun r w' => r = .returned (.int .i64 (k0 + 7 * len)) ∧ Below w.heap.size w w' := by
  have HM : Hid (Mk7 w v len k0) := h
  have hk : ¬ (k0 + 7 * (len : Int)) < 0 := by omega
  obtain ⟨a, cap, rfl, _⟩ := h
  go_enter Tryz.func9, Tryz.ntmps9
  go_wp2_with fail
  refine (heldSeal_own k0 (HM.out.later (Below.alloc_ _ _)) hn h0 h1).mono ?_
  rintro r w2 ⟨rfl, hw⟩
  rw [hw]
  clear hw w2
  go_wp2_with fail
  go_ret
  exact ⟨rfl, Below.alloc_ _ _⟩

end Go.Proofs.YtopikapamfmalaaGreatDoor
