/-
  The law on KdcOk, walked.
-/
import Derived.Test.YtdogpkeolhonbaaKdcTo
import Derived.Test.YtdogpkeolhonbaaKdcOkI
import Derived.Test.YtdogpkeolhonbaaKdcOkS
namespace Go.Proofs.Ytdogpkeolhonbaa
open Go.RowKit
attribute [local go_sem ↓] Go.wp_at_zero Go.wp_at_succ

/-- One who gives tickets, as it is handed over, lies in a block of its own. -/
def LBlk (w : World) (b : Nat) (n : Int) (v : Value) : Prop := w.heap[b]? = some (.cells #[.int .i64 n, v] 31 (0, 0))
theorem LBlk.lt {w : World} {b : Nat} {n : Int} {v : Value} (h : LBlk w b n v) : b < w.heap.size := (Array.getElem?_eq_some_iff.1 h).1
theorem LBlk.later {w w' : World} {b : Nat} {n : Int} {v : Value} (h : LBlk w b n v) (hb : Below w.heap.size w w') : LBlk w' b n v := (hb.block _ h.lt).trans h
theorem LBlk.new (w : World) (n : Int) (v : Value) : LBlk (w.alloc (.cells #[.int .i64 n, v] 31)) w.heap.size n v := heap_alloc_new _ _
theorem LBlk.cells {w : World} {b : Nat} {n : Int} {v : Value} (h : LBlk w b n v) : w.cell? ⟨b, 0, none⟩ = some (.int .i64 n) ∧ w.cell? ⟨b, 1, none⟩ = some v := by
  unfold LBlk at h
  constructor <;> simp [World.cell?, h]

set_option maxHeartbeats 4000000 in
set_option maxRecDepth 100000 in
theorem lawKdcOk (n : Int) (a : Option Addr) (cap : Nat) (xs : List Sl) (w : World) (h : SRow w a xs) (hm : xs.length ≤ 9223372036854775807) :
    Calls Try.prog 4 #[.agg #[.int .i64 n, .slice a xs.length cap]] w fun r w' => r = .returned (.bool true) ∧ Below w.heap.size w w' := by
  go_enter Try.func4, Try.ntmps4
  have H0 : Hid (LBlk (w.alloc (.cells #[.int .i64 n, .slice a xs.length cap] 31)) w.heap.size n (.slice a xs.length cap) ∧ Below w.heap.size w (w.alloc (.cells #[.int .i64 n, .slice a xs.length cap] 31)) ∧ SRow (w.alloc (.cells #[.int .i64 n, .slice a xs.length cap] 31)) a xs) := ⟨LBlk.new _ _ _, Below.alloc_ _ _, h.later (Below.alloc_ _ _)⟩
  clear h
  go_wp2_with fail
  refine (szKdc_any n a xs.length cap 1048576 _ (by omega) (by omega) hm).mono ?_
  rintro r w1 ⟨rfl, b1⟩
  have H1 : Hid (LBlk w1 w.heap.size n (.slice a xs.length cap) ∧ Below w.heap.size w w1 ∧ SRow w1 a xs) := ⟨H0.out.1.later b1, H0.out.2.1.trans (b1.mono H0.out.2.1.size), H0.out.2.2.later b1⟩
  clear H0 b1
  by_cases hn : leftI 1048576 xs.length < 0
  · go_wp2_with fail
    go_ret
    exact ⟨rfl, H1.out.2.1⟩
  · have hx : xs.length ≤ 1048576 := by
      unfold leftI at hn
      split at hn <;> omega
    obtain ⟨p0, p1⟩ := H1.out.1.cells
    go_wp2_with fail
    refine (toKdc_any n a cap xs _ H1.out.2.2 (by omega)).mono ?_
    rintro r w2 ⟨g2, rfl, hg2, r2, _, b2⟩
    have H2 : Hid (LBlk w2 w.heap.size n (.slice a xs.length cap) ∧ Below w.heap.size w w2 ∧ SRow w2 a xs ∧ SRow w2 (some ⟨g2, 0, none⟩) xs) := ⟨H1.out.1.later b2, H1.out.2.1.trans (b2.mono H1.out.2.1.size), H1.out.2.2.later b2, r2⟩
    clear H1 b2 r2 p0 p1
    go_wp2_with fail
    refine (specKdcOk_any n (some ⟨g2, 0, none⟩) xs.length xs _ H2.out.2.2.2 (Nat.le_refl _) (by omega)).mono ?_
    rintro r w3 ⟨rfl, b3⟩
    have H3 : Hid (LBlk w3 w.heap.size n (.slice a xs.length cap) ∧ Below w.heap.size w w3 ∧ SRow w3 a xs) := ⟨H2.out.1.later b3, H2.out.2.1.trans (b3.mono H2.out.2.1.size), H2.out.2.2.1.later b3⟩
    clear H2 b3
    obtain ⟨p0, p1⟩ := H3.out.1.cells
    have L3 := H3.out.1.lt
    go_wp2_with fail
    refine (toKdc_any n a cap xs _ H3.out.2.2 (by omega)).mono ?_
    rintro r w4 ⟨g4, rfl, hg4, r4, _, b4⟩
    have L34 := b4.size
    have H4 : Hid (KBlk (w4.alloc (.cells #[.int .i64 n, .slice (some ⟨g4, 0, none⟩) xs.length xs.length] 24)) w4.heap.size n (.slice (some ⟨g4, 0, none⟩) xs.length xs.length) ∧ LBlk (w4.alloc (.cells #[.int .i64 n, .slice (some ⟨g4, 0, none⟩) xs.length xs.length] 24)) w.heap.size n (.slice a xs.length cap) ∧ Below w.heap.size w (w4.alloc (.cells #[.int .i64 n, .slice (some ⟨g4, 0, none⟩) xs.length xs.length] 24)) ∧ SRow (w4.alloc (.cells #[.int .i64 n, .slice (some ⟨g4, 0, none⟩) xs.length xs.length] 24)) a xs ∧ SRow (w4.alloc (.cells #[.int .i64 n, .slice (some ⟨g4, 0, none⟩) xs.length xs.length] 24)) (some ⟨g4, 0, none⟩) xs) := by
      have bb := b4.trans ((Below.alloc_ w4 (.cells #[.int .i64 n, .slice (some ⟨g4, 0, none⟩) xs.length xs.length] 24)).mono b4.size)
      exact ⟨KBlk.new _ _ _, H3.out.1.later bb, H3.out.2.1.trans (bb.mono H3.out.2.1.size), H3.out.2.2.later bb, r4.later (Below.alloc_ _ _)⟩
    clear H3 b4 r4 p0 p1
    go_wp2_with fail
    refine (implKdcOk_any n (some ⟨g4, 0, none⟩) xs.length xs _ H4.out.2.2.2.2 (Nat.le_refl _)).mono ?_
    rintro r w5 ⟨rfl, b5⟩
    have H5 : Hid (KBlk w5 w4.heap.size n (.slice (some ⟨g4, 0, none⟩) xs.length xs.length) ∧ LBlk w5 w.heap.size n (.slice a xs.length cap) ∧ Below w.heap.size w w5 ∧ SRow w5 a xs ∧ SRow w5 (some ⟨g4, 0, none⟩) xs) := ⟨H4.out.1.later b5, H4.out.2.1.later b5, H4.out.2.2.1.trans (b5.mono H4.out.2.2.1.size), H4.out.2.2.2.1.later b5, H4.out.2.2.2.2.later b5⟩
    clear H4 b5
    go_wp2_with fail
    refine wp_region_held_drew (S := fun w' => Below w5.heap.size w5 w') (by kernel_rfl) (Below.refl _ _).drew (fun hS => ?_)
    generalize w5.drew = W5 at hS ⊢
    refine take1 0 22 (Value.agg #[.int .i64 n, .slice (some ⟨g4, 0, none⟩) xs.length xs.length]) rfl rfl (by kernel_rfl) (by kernel_rfl) (by kernel_rfl) (by rfl) (fun _ _ _ h => h) hS (fun w' hS' => ?_) ?_
    · obtain ⟨p0, p1⟩ := (H5.out.1.later hS').cells
      (go_simp) <;> (intro hx9; omega)
    simp only [Act.put, List.setIfInBounds_toArray, List.set_cons_zero, List.set_cons_succ]
    refine take1 1 23 (Value.agg #[.int .i64 n, .slice a xs.length cap]) rfl rfl (by kernel_rfl) (by kernel_rfl) (by kernel_rfl) (by rfl) (fun _ _ _ h => h) hS (fun w' hS' => ?_) ?_
    · obtain ⟨q0, q1⟩ := (H5.out.2.1.later hS').cells
      (go_simp) <;> (intro hx9; omega)
    simp only [Act.put, List.setIfInBounds_toArray, List.set_cons_zero, List.set_cons_succ]
    refine wpAnyH_ready (rs := [2]) (by kernel_rfl) (by simp) ?_
    refine AllReadyH.cons rfl (fun K hK => ?_) AllReadyH.nil
    go_simp
    refine (toKdc_any n a cap xs _ (H5.out.2.2.2.1.later hS) (by omega)).mono ?_
    rintro r w6 ⟨g6, rfl, hg6, r6, _, b6⟩
    have S6 : Below w5.heap.size w5 w6 := hS.trans (b6.mono hS.size)
    have R6 : Hid (SRow w6 (some ⟨g6, 0, none⟩) xs) := r6
    clear r6 hg6
    refine hK.out _ _ S6 (fun hS => ?_)
    clear hK K b6 S6
    refine wpAnyH_ready (rs := [3]) (by kernel_rfl) (by simp) ?_
    refine AllReadyH.cons rfl (fun K hK => ?_) AllReadyH.nil
    go_simp
    refine (eqKdc_same n _ _ _ _ xs _ (H5.out.2.2.2.2.later hS) R6.out (by omega)).mono ?_
    rintro r w7 ⟨rfl, b7⟩
    have S7 : Below w5.heap.size w5 w7 := hS.trans (b7.mono hS.size)
    refine hK.out _ _ S7 (fun hS => ?_)
    clear hK K b7 S7
    refine take1 4 26 (.bool false) rfl rfl (by kernel_rfl) (by kernel_rfl) (by kernel_rfl) (by rfl) (fun _ _ _ h => h) hS (fun w' hS' => ?_) ?_
    · (go_simp) <;> (intro hx9; omega)
    simp only [Act.put, List.setIfInBounds_toArray, List.set_cons_zero, List.set_cons_succ]
    refine wpAnyH_done (by kernel_rfl) ?_ _
    have H7 : Hid (Below w.heap.size w w7) := H5.out.2.2.1.trans (hS.mono H5.out.2.2.1.size)
    clear H5 hS R6
    go_wp2_with fail
    go_ret
    exact ⟨rfl, H7.out⟩

end Go.Proofs.Ytdogpkeolhonbaa
