/-
  The law on ServOk, walked, whatever the two functions answer.
-/
import Derived.Test.YtgbhgfeadecbgaaExLaw
import Derived.Test.YtgbhgfeadecbgaaServTo
import Derived.Test.YtgbhgfeadecbgaaRegInv
namespace Go.Proofs.Ytgbhgfeadecbgaa
open Go.RowKit
attribute [local go_sem ↓] Go.wp_at_zero Go.wp_at_succ

set_option maxHeartbeats 40000000 in
set_option maxRecDepth 100000 in
theorem lawServOk_gen (i s : Int) (a1 a2 : Option Addr) (c1 c2 : Nat) (xs : List Sl) (ts : List Ca) (w : World) (h1 : SRow w a1 xs) (h2 : NRow celC w a2 ts) (hm1 : xs.length ≤ 9223372036854775807) (hm2 : ts.length ≤ 9223372036854775807) (T : Bool)
    (HS : Hid (∀ (g1 g2 : Nat) (w1 : World), SRow w1 (some ⟨g1, 0, none⟩) xs → NRow celC w1 (some ⟨g2, 0, none⟩) ts → xs.length ≤ 1048576 → ts.length ≤ 1048576 → Calls Try.prog 12 #[.agg #[.int .i64 i, .int .i64 s, Value.slice (some ⟨g1, 0, none⟩) xs.length xs.length, Value.slice (some ⟨g2, 0, none⟩) ts.length ts.length]] w1 fun r w' => r = .returned (.bool T) ∧ Below w1.heap.size w1 w'))
    (HI : Hid (∀ (g1 g2 : Nat) (w1 : World), SRow w1 (some ⟨g1, 0, none⟩) xs → NRow celC w1 (some ⟨g2, 0, none⟩) ts → xs.length ≤ 1048576 → ts.length ≤ 1048576 → Calls Try.prog 14 #[.agg #[.int .i64 i, .int .i64 s, Value.slice (some ⟨g1, 0, none⟩) xs.length xs.length, Value.slice (some ⟨g2, 0, none⟩) ts.length ts.length]] w1 fun r w' => r = .returned (.bool T) ∧ Below w1.heap.size w1 w')) :
    Calls Try.prog 4 #[.agg #[.int .i64 i, .int .i64 s, Value.slice a1 xs.length c1, Value.slice a2 ts.length c2]] w fun r w' => r = .returned (.bool true) ∧ Below w.heap.size w w' := by
  have JA : Hid (SRow w a1 xs ∧ NRow celC w a2 ts) := ⟨h1, h2⟩
  have H0 : Hid ((ABlk 34 (w.alloc (.cells #[.int .i64 i, .int .i64 s, Value.slice a1 xs.length c1, Value.slice a2 ts.length c2] 34)) w.heap.size #[.int .i64 i, .int .i64 s, Value.slice a1 xs.length c1, Value.slice a2 ts.length c2]) ∧ (Below w.heap.size w (w.alloc (.cells #[.int .i64 i, .int .i64 s, Value.slice a1 xs.length c1, Value.slice a2 ts.length c2] 34)))) := ⟨ABlk.new _ _ _, Below.alloc_ _ _⟩
  clear h1 h2
  go_enter Try.func4, Try.ntmps4
  go_wp2_with fail
  generalize (w.alloc (.cells #[.int .i64 i, .int .i64 s, Value.slice a1 xs.length c1, Value.slice a2 ts.length c2] 34)) = W0 at H0 ⊢
  refine (szServ_any i s a1 a2 xs.length ts.length c1 c2 1048576 _ (by omega) (by omega) hm1 hm2).mono ?_
  rintro r w1 ⟨rfl, b9⟩
  have H1 : Hid ((ABlk 34 w1 w.heap.size #[.int .i64 i, .int .i64 s, Value.slice a1 xs.length c1, Value.slice a2 ts.length c2]) ∧ (Below w.heap.size w w1)) := ⟨H0.out.1.later b9, H0.out.2.trans (b9.mono H0.out.2.size)⟩
  clear H0 b9
  by_cases hn : restServ 1048576 xs.length ts.length < 0
  · go_wp2_with fail
    go_ret
    exact ⟨rfl, H1.out.2⟩
  have hn2 := (restServ_neg hn).2
  have x1 : xs.length ≤ 1048576 := by omega
  have x2 : ts.length ≤ 1048576 := by omega
  clear hn2
  have p0 := H1.out.1.at 0 _ rfl
  have p1 := H1.out.1.at 1 _ rfl
  have p2 := H1.out.1.at 2 _ rfl
  have p3 := H1.out.1.at 3 _ rfl
  go_wp2_with fail
  refine (toServ_any i s a1 a2 c1 c2 xs ts _ ((JA.out.1).later H1.out.2) ((JA.out.2).later H1.out.2) x1 x2).mono ?_
  rintro r w2 ⟨g1, g2, rfl, _, ⟨f0, f1⟩, _, b9⟩
  have H2 : Hid ((ABlk 34 w2 w.heap.size #[.int .i64 i, .int .i64 s, Value.slice a1 xs.length c1, Value.slice a2 ts.length c2]) ∧ (Below w.heap.size w w2) ∧ (SRow w2 (some ⟨g1, 0, none⟩) xs) ∧ (NRow celC w2 (some ⟨g2, 0, none⟩) ts)) := ⟨H1.out.1.later b9, H1.out.2.trans (b9.mono H1.out.2.size), f0, f1⟩
  clear H1 b9 f0 f1 p0 p1 p2 p3
  go_wp2_with fail
  refine (HS.out g1 g2 _ (H2.out.2.2.1) (H2.out.2.2.2) x1 x2).mono ?_
  rintro r w3 ⟨rfl, b9⟩
  have H3 : Hid ((ABlk 34 w3 w.heap.size #[.int .i64 i, .int .i64 s, Value.slice a1 xs.length c1, Value.slice a2 ts.length c2]) ∧ (Below w.heap.size w w3)) := ⟨H2.out.1.later b9, H2.out.2.1.trans (b9.mono H2.out.2.1.size)⟩
  clear H2 b9
  have L3 := H3.out.1.lt
  have p0 := (H3.out.1).at 0 _ rfl
  have p1 := (H3.out.1).at 1 _ rfl
  have p2 := (H3.out.1).at 2 _ rfl
  have p3 := (H3.out.1).at 3 _ rfl
  go_wp2_with fail
  clear L3 p0 p1 p2 p3
  have b9 := Below.refl w3.heap.size w3
  have HL : Hid ((ABlk 34 w3 w.heap.size #[.int .i64 i, .int .i64 s, Value.slice a1 xs.length c1, Value.slice a2 ts.length c2]) ∧ (Below w.heap.size w w3)) := ⟨(H3.out.1).later b9, (H3.out.2).trans (b9.mono (H3.out.2).size)⟩
  clear H3 b9
  -- a copy
  have p0 := (HL.out.1).at 0 _ rfl
  have p1 := (HL.out.1).at 1 _ rfl
  have p2 := (HL.out.1).at 2 _ rfl
  have p3 := (HL.out.1).at 3 _ rfl
  have L3 := (HL.out.1).lt
  go_wp2_with fail
  clear L3 p0 p1 p2 p3
  refine (toServ_any i s a1 a2 c1 c2 xs ts _ ((JA.out.1).later (HL.out.2)) ((JA.out.2).later (HL.out.2)) x1 x2).mono ?_
  rintro r w4 ⟨q1, q2, rfl, hq, ⟨f0, f1⟩, wb, b9⟩
  have H4 : Hid ((Below w3.heap.size w3 w4) ∧ (SRow w4 (some ⟨q1, 0, none⟩) xs) ∧ (NRow celC w4 (some ⟨q2, 0, none⟩) ts) ∧ (WB w4 q1 (xs.length * 7)) ∧ (WB w4 q2 (ts.length * 4))) := ⟨b9, f0, f1, wb.1, wb.2⟩
  have hl1 := (wb.1).lt
  have hl2 := (wb.2).lt
  replace hq : w3.heap.size ≤ q1 ∧ q1 < w4.heap.size ∧ w3.heap.size ≤ q2 ∧ q2 < w4.heap.size ∧ q1 < q2 := by omega
  clear b9 wb f0 f1 hl1 hl2
  go_wp2_with fail
  have b9 := Below.alloc_ w4 (.cells #[.int .i64 i, .int .i64 s, Value.slice (some ⟨q1, 0, none⟩) xs.length xs.length, Value.slice (some ⟨q2, 0, none⟩) ts.length ts.length] 25)
  have xb := ABlk.new w4 25 #[.int .i64 i, .int .i64 s, Value.slice (some ⟨q1, 0, none⟩) xs.length xs.length, Value.slice (some ⟨q2, 0, none⟩) ts.length ts.length]
  obtain ⟨w5, hw9⟩ : ∃ w9, w9 = (w4.alloc (.cells #[.int .i64 i, .int .i64 s, Value.slice (some ⟨q1, 0, none⟩) xs.length xs.length, Value.slice (some ⟨q2, 0, none⟩) ts.length ts.length] 25)) := ⟨_, rfl⟩
  have L5 : w4.heap.size < w5.heap.size := by rw [hw9]; simp
  rw [← hw9] at b9 xb ⊢
  clear hw9
  have H5 : Hid ((Below w3.heap.size w3 w5) ∧ (SRow w5 (some ⟨q1, 0, none⟩) xs) ∧ (NRow celC w5 (some ⟨q2, 0, none⟩) ts) ∧ (WB w5 q1 (xs.length * 7)) ∧ (WB w5 q2 (ts.length * 4)) ∧ (ABlk 25 w5 w4.heap.size #[.int .i64 i, .int .i64 s, Value.slice (some ⟨q1, 0, none⟩) xs.length xs.length, Value.slice (some ⟨q2, 0, none⟩) ts.length ts.length])) := ⟨(H4.out.1).trans (b9.mono (H4.out.1).size), (H4.out.2.1).later b9, (H4.out.2.2.1).later b9, (H4.out.2.2.2.1).later b9, (H4.out.2.2.2.2).later b9, xb⟩
  clear H4 b9 xb
  refine (HI.out q1 q2 _ (H5.out.2.1) (H5.out.2.2.1) x1 x2).mono ?_
  rintro r w6 ⟨rfl, b9⟩
  have L6 : w5.heap.size ≤ w6.heap.size := b9.size
  have H6 : Hid ((Below w3.heap.size w3 w6) ∧ (SRow w6 (some ⟨q1, 0, none⟩) xs) ∧ (NRow celC w6 (some ⟨q2, 0, none⟩) ts) ∧ (WB w6 q1 (xs.length * 7)) ∧ (WB w6 q2 (ts.length * 4)) ∧ (ABlk 25 w6 w4.heap.size #[.int .i64 i, .int .i64 s, Value.slice (some ⟨q1, 0, none⟩) xs.length xs.length, Value.slice (some ⟨q2, 0, none⟩) ts.length ts.length])) := ⟨(H5.out.1).trans (b9.mono (H5.out.1).size), (H5.out.2.1).later b9, (H5.out.2.2.1).later b9, (H5.out.2.2.2.1).later b9, (H5.out.2.2.2.2.1).later b9, (H5.out.2.2.2.2.2).later b9⟩
  clear H5 b9
  go_wp2_with fail
  refine wp_region_held_drew (S := fun w' => Below w6.heap.size w6 w') (by kernel_rfl) (Below.refl _ _).drew (fun hS => ?_)
  generalize w6.drew = WD at hS ⊢
  refine take1 0 22 (Value.agg #[.int .i64 i, .int .i64 s, Value.slice (some ⟨q1, 0, none⟩) xs.length xs.length, Value.slice (some ⟨q2, 0, none⟩) ts.length ts.length]) rfl rfl (by kernel_rfl) (by kernel_rfl) (by kernel_rfl) (by rfl) (fun _ _ _ h => h) hS (fun w' hS' => ?_) ?_
  · have x20 := ((H6.out.2.2.2.2.2).later hS').at 0 _ rfl
    have x21 := ((H6.out.2.2.2.2.2).later hS').at 1 _ rfl
    have x22 := ((H6.out.2.2.2.2.2).later hS').at 2 _ rfl
    have x23 := ((H6.out.2.2.2.2.2).later hS').at 3 _ rfl
    (go_simp) <;> (intro hx9; omega)
  simp only [Act.put, List.setIfInBounds_toArray, List.set_cons_zero, List.set_cons_succ]
  refine take1 1 23 (Value.agg #[.int .i64 i, .int .i64 s, Value.slice a1 xs.length c1, Value.slice a2 ts.length c2]) rfl rfl (by kernel_rfl) (by kernel_rfl) (by kernel_rfl) (by rfl) (fun _ _ _ h => h) hS (fun w' hS' => ?_) ?_
  · have x20 := (((HL.out.1).later H6.out.1).later hS').at 0 _ rfl
    have x21 := (((HL.out.1).later H6.out.1).later hS').at 1 _ rfl
    have x22 := (((HL.out.1).later H6.out.1).later hS').at 2 _ rfl
    have x23 := (((HL.out.1).later H6.out.1).later hS').at 3 _ rfl
    (go_simp) <;> (intro hx9; omega)
  simp only [Act.put, List.setIfInBounds_toArray, List.set_cons_zero, List.set_cons_succ]
  refine wpAnyH_ready (rs := [2]) (by kernel_rfl) (by simp) ?_
  refine AllReadyH.cons rfl (fun K hK => ?_) AllReadyH.nil
  go_simp
  have bb : Below w.heap.size w WD := ((HL.out.2).trans ((H6.out.1).mono (HL.out.2).size)).trans (hS.mono ((HL.out.2).trans ((H6.out.1).mono (HL.out.2).size)).size)
  refine (toServ_any i s a1 a2 c1 c2 xs ts _ ((JA.out.1).later bb) ((JA.out.2).later bb) x1 x2).mono ?_
  rintro r v1 ⟨u1, u2, rfl, _, ⟨f0, f1⟩, _, b6⟩
  have S6 : Below w6.heap.size w6 v1 := hS.trans (b6.mono hS.size)
  have R6 : Hid (SRow v1 (some ⟨u1, 0, none⟩) xs ∧ NRow celC v1 (some ⟨u2, 0, none⟩) ts) := ⟨f0, f1⟩
  clear f0 f1
  refine hK.out _ _ S6 (fun hS => ?_)
  clear hK K b6 S6 bb
  refine wpAnyH_ready (rs := [3]) (by kernel_rfl) (by simp) ?_
  refine AllReadyH.cons rfl (fun K hK => ?_) AllReadyH.nil
  go_simp
  refine (eqServ_same i s _ _ _ _ _ _ _ _ xs ts _ ((H6.out.2.1).later hS) ((H6.out.2.2.1).later hS) (R6.out.1) (R6.out.2) (by omega) (by omega)).mono ?_
  rintro r w7 ⟨rfl, b7⟩
  have b9 : Below w6.heap.size w6 w7 := hS.trans (b7.mono hS.size)
  refine hK.out _ _ b9 (fun hS => ?_)
  clear hK K b7
  refine take1 4 26 (.bool false) rfl rfl (by kernel_rfl) (by kernel_rfl) (by kernel_rfl) (by rfl) (fun _ _ _ h => h) hS (fun w' hS' => ?_) ?_
  · (go_simp) <;> (intro hx9; omega)
  simp only [Act.put, List.setIfInBounds_toArray, List.set_cons_zero, List.set_cons_succ]
  refine wpAnyH_done (by kernel_rfl) ?_ _
  clear hS R6
  have H7 : Hid ((Below w3.heap.size w3 w7) ∧ (SRow w7 (some ⟨q1, 0, none⟩) xs) ∧ (NRow celC w7 (some ⟨q2, 0, none⟩) ts) ∧ (WB w7 q1 (xs.length * 7)) ∧ (WB w7 q2 (ts.length * 4)) ∧ (ABlk 25 w7 w4.heap.size #[.int .i64 i, .int .i64 s, Value.slice (some ⟨q1, 0, none⟩) xs.length xs.length, Value.slice (some ⟨q2, 0, none⟩) ts.length ts.length])) := ⟨(H6.out.1).trans (b9.mono (H6.out.1).size), (H6.out.2.1).later b9, (H6.out.2.2.1).later b9, (H6.out.2.2.2.1).later b9, (H6.out.2.2.2.2.1).later b9, (H6.out.2.2.2.2.2).later b9⟩
  clear H6 b9
  have HE : Hid (Below w.heap.size w w7) := (HL.out.2).trans ((H7.out.1).mono (HL.out.2).size)
  clear H7 HL
  go_wp2_with fail
  go_ret
  exact ⟨rfl, HE.out⟩

end Go.Proofs.Ytgbhgfeadecbgaa
