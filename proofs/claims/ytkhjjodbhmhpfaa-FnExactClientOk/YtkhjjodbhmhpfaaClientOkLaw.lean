/-
  The law on ClientOk, walked.
-/
import Derived.Test.YtkhjjodbhmhpfaaClientOkI
import Derived.Test.YtkhjjodbhmhpfaaClSpecB
namespace Go.Proofs.Ytkhjjodbhmhpfaa
open Go.RowKit
attribute [local go_sem ↓] Go.wp_at_zero Go.wp_at_succ

theorem restC_neg {l1 l2 l3 l4 : Nat} (h : ¬ restC 1048576 l1 l2 l3 l4 < 0) : l1 ≤ 1048576 ∧ l2 ≤ 1048576 ∧ l3 ≤ 1048576 ∧ l4 ≤ 1048576 := by
  unfold restC at h
  split at h
  · omega
  · split at h
    · omega
    · split at h
      · omega
      · split at h
        · omega
        · omega
set_option maxHeartbeats 8000000 in
set_option maxRecDepth 100000 in
theorem lawClientOk (i n : Int) (a1 a2 a3 a4 : Option Addr) (c1 c2 c3 c4 : Nat) (ws : List Wn) (cs : List Cd) (ss ms : List Ca) (w : World) (h : CRows w a1 a2 a3 a4 ws cs ss ms) (hm1 : ws.length ≤ 9223372036854775807) (hm2 : cs.length ≤ 9223372036854775807) (hm3 : ss.length ≤ 9223372036854775807) (hm4 : ms.length ≤ 9223372036854775807) :
    Calls Try.prog 4 #[.agg #[.int .i64 i, .int .i64 n, .slice a1 ws.length c1, .slice a2 cs.length c2, .slice a3 ss.length c3, .slice a4 ms.length c4]] w fun r w' => r = .returned (.bool true) ∧ Below w.heap.size w w' := by
  have H0 : Hid (DBlk (w.alloc (.cells #[.int .i64 i, .int .i64 n, .slice a1 ws.length c1, .slice a2 cs.length c2, .slice a3 ss.length c3, .slice a4 ms.length c4] 36)) w.heap.size i n (.slice a1 ws.length c1) (.slice a2 cs.length c2) (.slice a3 ss.length c3) (.slice a4 ms.length c4) ∧ Below w.heap.size w (w.alloc (.cells #[.int .i64 i, .int .i64 n, .slice a1 ws.length c1, .slice a2 cs.length c2, .slice a3 ss.length c3, .slice a4 ms.length c4] 36)) ∧ CRows (w.alloc (.cells #[.int .i64 i, .int .i64 n, .slice a1 ws.length c1, .slice a2 cs.length c2, .slice a3 ss.length c3, .slice a4 ms.length c4] 36)) a1 a2 a3 a4 ws cs ss ms) := ⟨DBlk.new _ _ _ _ _ _ _, Below.alloc_ _ _, h.later (Below.alloc_ _ _)⟩
  clear h
  go_enter Try.func4, Try.ntmps4
  go_wp2_with fail
  refine (szClient_any i n a1 a2 a3 a4 ws.length cs.length ss.length ms.length c1 c2 c3 c4 1048576 _ (by omega) (by omega) hm1 hm2 hm3 hm4).mono ?_
  rintro r w1 ⟨rfl, b1⟩
  have H1 : Hid (DBlk w1 w.heap.size i n (.slice a1 ws.length c1) (.slice a2 cs.length c2) (.slice a3 ss.length c3) (.slice a4 ms.length c4) ∧ Below w.heap.size w w1 ∧ CRows w1 a1 a2 a3 a4 ws cs ss ms) := ⟨H0.out.1.later b1, H0.out.2.1.trans (b1.mono H0.out.2.1.size), H0.out.2.2.later b1⟩
  clear H0 b1
  by_cases hn : restC 1048576 ws.length cs.length ss.length ms.length < 0
  · go_wp2_with fail
    go_ret
    exact ⟨rfl, H1.out.2.1⟩
  · obtain ⟨x1, x2, x3, x4⟩ := restC_neg hn
    obtain ⟨p0, p1, p2, p3, p4, p5⟩ := H1.out.1.cells
    go_wp2_with fail
    refine (toClient_any i n a1 a2 a3 a4 c1 c2 c3 c4 ws cs ss ms _ H1.out.2.2 x1 x2 x3 x4).mono ?_
    rintro r w2 ⟨k1, k2, k3, k4, rfl, _, r2, _, b2⟩
    have H2 : Hid (DBlk w2 w.heap.size i n (.slice a1 ws.length c1) (.slice a2 cs.length c2) (.slice a3 ss.length c3) (.slice a4 ms.length c4) ∧ Below w.heap.size w w2 ∧ CRows w2 a1 a2 a3 a4 ws cs ss ms ∧ CRows w2 (some ⟨k1, 0, none⟩) (some ⟨k2, 0, none⟩) (some ⟨k3, 0, none⟩) (some ⟨k4, 0, none⟩) ws cs ss ms) := ⟨H1.out.1.later b2, H1.out.2.1.trans (b2.mono H1.out.2.1.size), H1.out.2.2.later b2, r2⟩
    clear H1 b2 r2 p0 p1 p2 p3 p4 p5
    go_wp2_with fail
    refine (specClientOk_any i n _ _ _ _ _ _ _ _ ws cs ss ms _ H2.out.2.2.2 (Nat.le_refl _) x1 x2 x3 x4).mono ?_
    rintro r w3 ⟨rfl, b3⟩
    have H3 : Hid (DBlk w3 w.heap.size i n (.slice a1 ws.length c1) (.slice a2 cs.length c2) (.slice a3 ss.length c3) (.slice a4 ms.length c4) ∧ Below w.heap.size w w3 ∧ CRows w3 a1 a2 a3 a4 ws cs ss ms) := ⟨H2.out.1.later b3, H2.out.2.1.trans (b3.mono H2.out.2.1.size), H2.out.2.2.1.later b3⟩
    clear H2 b3
    obtain ⟨p0, p1, p2, p3, p4, p5⟩ := H3.out.1.cells
    have L3 := H3.out.1.lt
    go_wp2_with fail
    refine (toClient_any i n a1 a2 a3 a4 c1 c2 c3 c4 ws cs ss ms _ H3.out.2.2 x1 x2 x3 x4).mono ?_
    rintro r w4 ⟨g1, g2, g3, g4, rfl, _, r4, _, b4⟩
    have L34 := b4.size
    have H4 : Hid (CBlk (w4.alloc (.cells #[.int .i64 i, .int .i64 n, .slice (some ⟨g1, 0, none⟩) ws.length ws.length, .slice (some ⟨g2, 0, none⟩) cs.length cs.length, .slice (some ⟨g3, 0, none⟩) ss.length ss.length, .slice (some ⟨g4, 0, none⟩) ms.length ms.length] 26)) w4.heap.size i n (.slice (some ⟨g1, 0, none⟩) ws.length ws.length) (.slice (some ⟨g2, 0, none⟩) cs.length cs.length) (.slice (some ⟨g3, 0, none⟩) ss.length ss.length) (.slice (some ⟨g4, 0, none⟩) ms.length ms.length) ∧ DBlk (w4.alloc (.cells #[.int .i64 i, .int .i64 n, .slice (some ⟨g1, 0, none⟩) ws.length ws.length, .slice (some ⟨g2, 0, none⟩) cs.length cs.length, .slice (some ⟨g3, 0, none⟩) ss.length ss.length, .slice (some ⟨g4, 0, none⟩) ms.length ms.length] 26)) w.heap.size i n (.slice a1 ws.length c1) (.slice a2 cs.length c2) (.slice a3 ss.length c3) (.slice a4 ms.length c4) ∧ Below w.heap.size w (w4.alloc (.cells #[.int .i64 i, .int .i64 n, .slice (some ⟨g1, 0, none⟩) ws.length ws.length, .slice (some ⟨g2, 0, none⟩) cs.length cs.length, .slice (some ⟨g3, 0, none⟩) ss.length ss.length, .slice (some ⟨g4, 0, none⟩) ms.length ms.length] 26)) ∧ CRows (w4.alloc (.cells #[.int .i64 i, .int .i64 n, .slice (some ⟨g1, 0, none⟩) ws.length ws.length, .slice (some ⟨g2, 0, none⟩) cs.length cs.length, .slice (some ⟨g3, 0, none⟩) ss.length ss.length, .slice (some ⟨g4, 0, none⟩) ms.length ms.length] 26)) a1 a2 a3 a4 ws cs ss ms ∧ CRows (w4.alloc (.cells #[.int .i64 i, .int .i64 n, .slice (some ⟨g1, 0, none⟩) ws.length ws.length, .slice (some ⟨g2, 0, none⟩) cs.length cs.length, .slice (some ⟨g3, 0, none⟩) ss.length ss.length, .slice (some ⟨g4, 0, none⟩) ms.length ms.length] 26)) (some ⟨g1, 0, none⟩) (some ⟨g2, 0, none⟩) (some ⟨g3, 0, none⟩) (some ⟨g4, 0, none⟩) ws cs ss ms) := by
      have bb := b4.trans ((Below.alloc_ w4 (.cells #[.int .i64 i, .int .i64 n, .slice (some ⟨g1, 0, none⟩) ws.length ws.length, .slice (some ⟨g2, 0, none⟩) cs.length cs.length, .slice (some ⟨g3, 0, none⟩) ss.length ss.length, .slice (some ⟨g4, 0, none⟩) ms.length ms.length] 26)).mono b4.size)
      exact ⟨CBlk.new _ _ _ _ _ _ _, H3.out.1.later bb, H3.out.2.1.trans (bb.mono H3.out.2.1.size), H3.out.2.2.later bb, r4.later (Below.alloc_ _ _)⟩
    clear H3 b4 r4 p0 p1 p2 p3 p4 p5
    go_wp2_with fail
    refine (implClientOk_any i n _ _ _ _ _ _ _ _ ws cs ss ms _ H4.out.2.2.2.2 (Nat.le_refl _) x1 x2 x3 x4).mono ?_
    rintro r w5 ⟨rfl, b5⟩
    have H5 : Hid (CBlk w5 w4.heap.size i n (.slice (some ⟨g1, 0, none⟩) ws.length ws.length) (.slice (some ⟨g2, 0, none⟩) cs.length cs.length) (.slice (some ⟨g3, 0, none⟩) ss.length ss.length) (.slice (some ⟨g4, 0, none⟩) ms.length ms.length) ∧ DBlk w5 w.heap.size i n (.slice a1 ws.length c1) (.slice a2 cs.length c2) (.slice a3 ss.length c3) (.slice a4 ms.length c4) ∧ Below w.heap.size w w5 ∧ CRows w5 a1 a2 a3 a4 ws cs ss ms ∧ CRows w5 (some ⟨g1, 0, none⟩) (some ⟨g2, 0, none⟩) (some ⟨g3, 0, none⟩) (some ⟨g4, 0, none⟩) ws cs ss ms) := ⟨H4.out.1.later b5, H4.out.2.1.later b5, H4.out.2.2.1.trans (b5.mono H4.out.2.2.1.size), H4.out.2.2.2.1.later b5, H4.out.2.2.2.2.later b5⟩
    clear H4 b5
    go_wp2_with fail
    refine wp_region_held_drew (S := fun w' => Below w5.heap.size w5 w') (by kernel_rfl) (Below.refl _ _).drew (fun hS => ?_)
    generalize w5.drew = W5 at hS ⊢
    refine take1 0 22 (Value.agg #[.int .i64 i, .int .i64 n, .slice (some ⟨g1, 0, none⟩) ws.length ws.length, .slice (some ⟨g2, 0, none⟩) cs.length cs.length, .slice (some ⟨g3, 0, none⟩) ss.length ss.length, .slice (some ⟨g4, 0, none⟩) ms.length ms.length]) rfl rfl (by kernel_rfl) (by kernel_rfl) (by kernel_rfl) (by rfl) (fun _ _ _ h => h) hS (fun w' hS' => ?_) ?_
    · obtain ⟨p0, p1, p2, p3, p4, p5⟩ := (H5.out.1.later hS').cells
      (go_simp) <;> (intro hx9; omega)
    simp only [Act.put, List.setIfInBounds_toArray, List.set_cons_zero, List.set_cons_succ]
    refine take1 1 23 (Value.agg #[.int .i64 i, .int .i64 n, .slice a1 ws.length c1, .slice a2 cs.length c2, .slice a3 ss.length c3, .slice a4 ms.length c4]) rfl rfl (by kernel_rfl) (by kernel_rfl) (by kernel_rfl) (by rfl) (fun _ _ _ h => h) hS (fun w' hS' => ?_) ?_
    · obtain ⟨q0, q1, q2, q3, q4, q5⟩ := (H5.out.2.1.later hS').cells
      (go_simp) <;> (intro hx9; omega)
    simp only [Act.put, List.setIfInBounds_toArray, List.set_cons_zero, List.set_cons_succ]
    refine wpAnyH_ready (rs := [2]) (by kernel_rfl) (by simp) ?_
    refine AllReadyH.cons rfl (fun K hK => ?_) AllReadyH.nil
    go_simp
    refine (toClient_any i n a1 a2 a3 a4 c1 c2 c3 c4 ws cs ss ms _ (H5.out.2.2.2.1.later hS) x1 x2 x3 x4).mono ?_
    rintro r w6 ⟨k1, k2, k3, k4, rfl, _, r6, _, b6⟩
    have S6 : Below w5.heap.size w5 w6 := hS.trans (b6.mono hS.size)
    have R6 : Hid (CRows w6 (some ⟨k1, 0, none⟩) (some ⟨k2, 0, none⟩) (some ⟨k3, 0, none⟩) (some ⟨k4, 0, none⟩) ws cs ss ms) := r6
    clear r6
    refine hK.out _ _ S6 (fun hS => ?_)
    clear hK K b6 S6
    refine wpAnyH_ready (rs := [3]) (by kernel_rfl) (by simp) ?_
    refine AllReadyH.cons rfl (fun K hK => ?_) AllReadyH.nil
    go_simp
    refine (eqClient_same i n _ _ _ _ _ _ _ _ _ _ _ _ _ _ _ _ ws cs ss ms _ (H5.out.2.2.2.2.later hS) R6.out (by omega) (by omega) (by omega) (by omega)).mono ?_
    rintro r w7 ⟨rfl, b7⟩
    have S7 : Below w5.heap.size w5 w7 := hS.trans (b7.mono hS.size)
    refine hK.out _ _ S7 (fun hS => ?_)
    clear hK K b7 S7
    refine take1 4 26 (.bool false) rfl rfl (by kernel_rfl) (by kernel_rfl) (by kernel_rfl) (by rfl) (fun _ _ _ h => h) hS (fun w' hS' => ?_) ?_
    · (go_simp) <;> (intro hx9; omega)
    simp only [Act.put, List.setIfInBounds_toArray, List.set_cons_zero, List.set_cons_succ]
    refine wpAnyH_done (by kernel_rfl) ?_ _
    have H7 : Hid (Below w.heap.size w w7) := H5.out.2.2.1.trans (hS.mono H5.out.2.2.1.size)
    clear H5 hS R6
    go_wp2_with fail
    go_ret
    exact ⟨rfl, H7.out⟩

end Go.Proofs.Ytkhjjodbhmhpfaa
