/-
  The law on ServFall, walked, whatever the two functions answer.
-/
import Derived.Test.YtbkmcdhfhpjbmaaExLaw
import Derived.Test.YtbkmcdhfhpjbmaaServTo
import Derived.Test.YtbkmcdhfhpjbmaaRegInv
namespace Go.Proofs.Ytbkmcdhfhpjbmaa
open Go.RowKit
attribute [local go_sem ↓] Go.wp_at_zero Go.wp_at_succ

set_option maxHeartbeats 40000000 in
set_option maxRecDepth 100000 in
theorem lawServFall_gen (i s : Int) (a1 a2 : Option Addr) (c1 c2 : Nat) (xs : List Sl) (ts : List Ca) (now : Int) (w : World) (h1 : SRow w a1 xs) (h2 : NRow celC w a2 ts) (hm1 : xs.length ≤ 9223372036854775807) (hm2 : ts.length ≤ 9223372036854775807) (I00 I01 : Int) (X00 : List Sl) (X01 : List Ca)
    (hX : xs.length ≤ 1048576 → ts.length ≤ 1048576 → X00.length ≤ 2000000 ∧ X01.length ≤ 2000000)
    (HS : Hid (∀ (g1 g2 : Nat) (w1 : World), SRow w1 (some ⟨g1, 0, none⟩) xs → NRow celC w1 (some ⟨g2, 0, none⟩) ts → xs.length ≤ 1048576 → ts.length ≤ 1048576 → Calls Try.prog 5 #[.agg #[.int .i64 i, .int .i64 s, Value.slice (some ⟨g1, 0, none⟩) xs.length xs.length, Value.slice (some ⟨g2, 0, none⟩) ts.length ts.length], .int .i64 now] w1 fun r w' => ∃ b00 e00 b01 e01, r = .returned (.agg #[.int .i64 I00, .int .i64 I01, Value.slice b00 X00.length e00, Value.slice b01 X01.length e01]) ∧ OwnS w' w1.heap.size (Value.slice b00 X00.length e00) X00 ∧ OwnN celC 59 w' w1.heap.size (Value.slice b01 X01.length e01) X01 ∧ Below w1.heap.size w1 w'))
    (HI : Hid (∀ (g1 g2 : Nat) (w1 : World), SRow w1 (some ⟨g1, 0, none⟩) xs → NRow celC w1 (some ⟨g2, 0, none⟩) ts → xs.length ≤ 1048576 → ts.length ≤ 1048576 → Calls Try.prog 7 #[.agg #[.int .i64 i, .int .i64 s, Value.slice (some ⟨g1, 0, none⟩) xs.length xs.length, Value.slice (some ⟨g2, 0, none⟩) ts.length ts.length], .int .i64 now] w1 fun r w' => ∃ b00 e00 b01 e01, r = .returned (.agg #[.int .i64 I00, .int .i64 I01, Value.slice b00 X00.length e00, Value.slice b01 X01.length e01]) ∧ OwnS w' w1.heap.size (Value.slice b00 X00.length e00) X00 ∧ OwnN celC 59 w' w1.heap.size (Value.slice b01 X01.length e01) X01 ∧ Below w1.heap.size w1 w')) :
    Calls Try.prog 3 #[.agg #[.int .i64 i, .int .i64 s, Value.slice a1 xs.length c1, Value.slice a2 ts.length c2], .int .i64 now] w fun r w' => r = .returned (.bool true) ∧ Below w.heap.size w w' := by
  have JA : Hid (SRow w a1 xs ∧ NRow celC w a2 ts) := ⟨h1, h2⟩
  have H0 : Hid ((ABlk 25 (w.alloc (.cells #[.int .i64 i, .int .i64 s, Value.slice a1 xs.length c1, Value.slice a2 ts.length c2] 25)) w.heap.size #[.int .i64 i, .int .i64 s, Value.slice a1 xs.length c1, Value.slice a2 ts.length c2]) ∧ (Below w.heap.size w (w.alloc (.cells #[.int .i64 i, .int .i64 s, Value.slice a1 xs.length c1, Value.slice a2 ts.length c2] 25)))) := ⟨ABlk.new _ _ _, Below.alloc_ _ _⟩
  clear h1 h2
  go_enter Try.func3, Try.ntmps3
  go_wp2_with fail
  generalize (w.alloc (.cells #[.int .i64 i, .int .i64 s, Value.slice a1 xs.length c1, Value.slice a2 ts.length c2] 25)) = W0 at H0 ⊢
  refine (szServ_any i s a1 a2 xs.length ts.length c1 c2 1048576 _ (by omega) (by omega) hm1 hm2).mono ?_
  rintro r w1 ⟨rfl, b9⟩
  have H1 : Hid ((ABlk 25 w1 w.heap.size #[.int .i64 i, .int .i64 s, Value.slice a1 xs.length c1, Value.slice a2 ts.length c2]) ∧ (Below w.heap.size w w1)) := ⟨H0.out.1.later b9, H0.out.2.trans (b9.mono H0.out.2.size)⟩
  clear H0 b9
  by_cases hn : restServ 1048576 xs.length ts.length < 0
  · go_wp2_with fail
    go_ret
    exact ⟨rfl, H1.out.2⟩
  have hn2 := (restServ_neg hn).2
  have x1 : xs.length ≤ 1048576 := by omega
  have x2 : ts.length ≤ 1048576 := by omega
  clear hn2
  have hX := hX x1 x2
  obtain ⟨hX0, hX1⟩ := hX
  have p0 := H1.out.1.at 0 _ rfl
  have p1 := H1.out.1.at 1 _ rfl
  have p2 := H1.out.1.at 2 _ rfl
  have p3 := H1.out.1.at 3 _ rfl
  go_wp2_with fail
  refine (toServ_any i s a1 a2 c1 c2 xs ts _ ((JA.out.1).later H1.out.2) ((JA.out.2).later H1.out.2) x1 x2).mono ?_
  rintro r w2 ⟨g1, g2, rfl, _, ⟨f0, f1⟩, _, b9⟩
  have H2 : Hid ((ABlk 25 w2 w.heap.size #[.int .i64 i, .int .i64 s, Value.slice a1 xs.length c1, Value.slice a2 ts.length c2]) ∧ (Below w.heap.size w w2) ∧ (SRow w2 (some ⟨g1, 0, none⟩) xs) ∧ (NRow celC w2 (some ⟨g2, 0, none⟩) ts)) := ⟨H1.out.1.later b9, H1.out.2.trans (b9.mono H1.out.2.size), f0, f1⟩
  clear H1 b9 f0 f1 p0 p1 p2 p3
  go_wp2_with fail
  refine (HS.out g1 g2 _ (H2.out.2.2.1) (H2.out.2.2.2) x1 x2).mono ?_
  rintro r w3 ⟨az00, cz00, az01, cz01, rfl, o0, o1, b9⟩
  have H3 : Hid ((ABlk 25 w3 w.heap.size #[.int .i64 i, .int .i64 s, Value.slice a1 xs.length c1, Value.slice a2 ts.length c2]) ∧ (Below w.heap.size w w3) ∧ (SRow w3 az00 X00) ∧ (NRow celC w3 az01 X01)) := ⟨H2.out.1.later b9, H2.out.2.1.trans (b9.mono H2.out.2.1.size), OwnS.rowAt (o0), OwnN.rowAt (o1)⟩
  clear H2 b9 o0 o1
  have L3 := H3.out.1.lt
  have p0 := (H3.out.1).at 0 _ rfl
  have p1 := (H3.out.1).at 1 _ rfl
  have p2 := (H3.out.1).at 2 _ rfl
  have p3 := (H3.out.1).at 3 _ rfl
  go_wp2_with fail
  clear L3 p0 p1 p2 p3
  obtain ⟨wL, hw9⟩ : ∃ w9, w9 = (w3.alloc (.cells #[.int .i64 I00, .int .i64 I01, Value.slice az00 X00.length cz00, Value.slice az01 X01.length cz01] 30)) := ⟨_, rfl⟩
  have b9 : Below w3.heap.size w3 wL := by
    rw [hw9]
    exact Below.alloc_ _ _
  have k0 : ABlk 30 wL (w3.heap.size) #[.int .i64 I00, .int .i64 I01, Value.slice az00 X00.length cz00, Value.slice az01 X01.length cz01] := by
    rw [hw9]
    exact ABlk.new _ _ _
  rw [← hw9]
  clear hw9
  have HL : Hid ((ABlk 25 wL w.heap.size #[.int .i64 i, .int .i64 s, Value.slice a1 xs.length c1, Value.slice a2 ts.length c2]) ∧ (Below w.heap.size w wL) ∧ (ABlk 30 wL (w3.heap.size) #[.int .i64 I00, .int .i64 I01, Value.slice az00 X00.length cz00, Value.slice az01 X01.length cz01]) ∧ (SRow wL az00 X00) ∧ (NRow celC wL az01 X01)) := ⟨(H3.out.1).later b9, (H3.out.2.1).trans (b9.mono (H3.out.2.1).size), k0, (H3.out.2.2.1).later b9, (H3.out.2.2.2).later b9⟩
  clear H3 b9 k0
  -- a copy
  refine (toServ_any i s a1 a2 c1 c2 xs ts _ ((JA.out.1).later (HL.out.2.1)) ((JA.out.2).later (HL.out.2.1)) x1 x2).mono ?_
  rintro r w4 ⟨q1, q2, rfl, hq, ⟨f0, f1⟩, wb, b9⟩
  have H4 : Hid ((Below wL.heap.size wL w4) ∧ (SRow w4 (some ⟨q1, 0, none⟩) xs) ∧ (NRow celC w4 (some ⟨q2, 0, none⟩) ts) ∧ (WB w4 q1 (xs.length * 7)) ∧ (WB w4 q2 (ts.length * 4))) := ⟨b9, f0, f1, wb.1, wb.2⟩
  have hl1 := (wb.1).lt
  have hl2 := (wb.2).lt
  replace hq : wL.heap.size ≤ q1 ∧ q1 < w4.heap.size ∧ wL.heap.size ≤ q2 ∧ q2 < w4.heap.size ∧ q1 < q2 := by omega
  clear b9 wb f0 f1 hl1 hl2
  go_wp2_with fail
  have b9 := Below.alloc_ w4 (.cells #[.int .i64 i, .int .i64 s, Value.slice (some ⟨q1, 0, none⟩) xs.length xs.length, Value.slice (some ⟨q2, 0, none⟩) ts.length ts.length] 30)
  have xb := ABlk.new w4 30 #[.int .i64 i, .int .i64 s, Value.slice (some ⟨q1, 0, none⟩) xs.length xs.length, Value.slice (some ⟨q2, 0, none⟩) ts.length ts.length]
  obtain ⟨w5, hw9⟩ : ∃ w9, w9 = (w4.alloc (.cells #[.int .i64 i, .int .i64 s, Value.slice (some ⟨q1, 0, none⟩) xs.length xs.length, Value.slice (some ⟨q2, 0, none⟩) ts.length ts.length] 30)) := ⟨_, rfl⟩
  have L5 : w4.heap.size < w5.heap.size := by rw [hw9]; simp
  rw [← hw9] at b9 xb ⊢
  clear hw9
  have H5 : Hid ((Below wL.heap.size wL w5) ∧ (SRow w5 (some ⟨q1, 0, none⟩) xs) ∧ (NRow celC w5 (some ⟨q2, 0, none⟩) ts) ∧ (WB w5 q1 (xs.length * 7)) ∧ (WB w5 q2 (ts.length * 4)) ∧ (ABlk 30 w5 w4.heap.size #[.int .i64 i, .int .i64 s, Value.slice (some ⟨q1, 0, none⟩) xs.length xs.length, Value.slice (some ⟨q2, 0, none⟩) ts.length ts.length])) := ⟨(H4.out.1).trans (b9.mono (H4.out.1).size), (H4.out.2.1).later b9, (H4.out.2.2.1).later b9, (H4.out.2.2.2.1).later b9, (H4.out.2.2.2.2).later b9, xb⟩
  clear H4 b9 xb
  refine (HI.out q1 q2 _ (H5.out.2.1) (H5.out.2.2.1) x1 x2).mono ?_
  rintro r w6 ⟨ax00, cx00, ax01, cx01, rfl, o0, o1, b9⟩
  have L6 : w5.heap.size ≤ w6.heap.size := b9.size
  have H6 : Hid ((Below wL.heap.size wL w6) ∧ (SRow w6 (some ⟨q1, 0, none⟩) xs) ∧ (NRow celC w6 (some ⟨q2, 0, none⟩) ts) ∧ (WB w6 q1 (xs.length * 7)) ∧ (WB w6 q2 (ts.length * 4)) ∧ (ABlk 30 w6 w4.heap.size #[.int .i64 i, .int .i64 s, Value.slice (some ⟨q1, 0, none⟩) xs.length xs.length, Value.slice (some ⟨q2, 0, none⟩) ts.length ts.length]) ∧ (OwnS w6 w5.heap.size (Value.slice ax00 X00.length cx00) X00) ∧ (OwnN celC 59 w6 w5.heap.size (Value.slice ax01 X01.length cx01) X01)) := ⟨(H5.out.1).trans (b9.mono (H5.out.1).size), (H5.out.2.1).later b9, (H5.out.2.2.1).later b9, (H5.out.2.2.2.1).later b9, (H5.out.2.2.2.2.1).later b9, (H5.out.2.2.2.2.2).later b9, o0, o1⟩
  clear H5 b9 o0 o1
  have L6z := ((HL.out.2.2.1).later H6.out.1).lt
  have z0 := ((HL.out.2.2.1).later H6.out.1).at 0 _ rfl
  have z1 := ((HL.out.2.2.1).later H6.out.1).at 1 _ rfl
  have z2 := ((HL.out.2.2.1).later H6.out.1).at 2 _ rfl
  have z3 := ((HL.out.2.2.1).later H6.out.1).at 3 _ rfl
  go_wp2_with fail
  clear L6z z0 z1 z2 z3
  obtain ⟨w7, hw9⟩ : ∃ w9, w9 = (w6.alloc (.cells #[.int .i64 I00, .int .i64 I01, Value.slice ax00 X00.length cx00, Value.slice ax01 X01.length cx01] 30)) := ⟨_, rfl⟩
  have b9 : Below w6.heap.size w6 w7 := by
    rw [hw9]
    exact Below.alloc_ _ _
  have k0 : ABlk 30 w7 (w6.heap.size) #[.int .i64 I00, .int .i64 I01, Value.slice ax00 X00.length cx00, Value.slice ax01 X01.length cx01] := by
    rw [hw9]
    exact ABlk.new _ _ _
  rw [← hw9]
  clear hw9
  have H7 : Hid ((Below wL.heap.size wL w7) ∧ (SRow w7 (some ⟨q1, 0, none⟩) xs) ∧ (NRow celC w7 (some ⟨q2, 0, none⟩) ts) ∧ (WB w7 q1 (xs.length * 7)) ∧ (WB w7 q2 (ts.length * 4)) ∧ (ABlk 30 w7 w4.heap.size #[.int .i64 i, .int .i64 s, Value.slice (some ⟨q1, 0, none⟩) xs.length xs.length, Value.slice (some ⟨q2, 0, none⟩) ts.length ts.length]) ∧ (OwnS w7 w5.heap.size (Value.slice ax00 X00.length cx00) X00) ∧ (OwnN celC 59 w7 w5.heap.size (Value.slice ax01 X01.length cx01) X01) ∧ (ABlk 30 w7 (w6.heap.size) #[.int .i64 I00, .int .i64 I01, Value.slice ax00 X00.length cx00, Value.slice ax01 X01.length cx01])) := ⟨(H6.out.1).trans (b9.mono (H6.out.1).size), (H6.out.2.1).later b9, (H6.out.2.2.1).later b9, (H6.out.2.2.2.1).later b9, (H6.out.2.2.2.2.1).later b9, (H6.out.2.2.2.2.2.1).later b9, (H6.out.2.2.2.2.2.2.1).later b9, (H6.out.2.2.2.2.2.2.2).later b9, k0⟩
  clear H6 b9 k0
  refine (eqServ_same I00 I01 ax00 ax01 az00 az01 cx00 cx01 cz00 cz01 X00 X01 _ (OwnS.rowAt ((H7.out.2.2.2.2.2.2.1))) (OwnN.rowAt ((H7.out.2.2.2.2.2.2.2.1))) ((HL.out.2.2.2.1).later H7.out.1) ((HL.out.2.2.2.2).later H7.out.1) hX0 hX1).mono ?_
  rintro r w8 ⟨rfl, b9⟩
  have H8 : Hid ((Below wL.heap.size wL w8) ∧ (SRow w8 (some ⟨q1, 0, none⟩) xs) ∧ (NRow celC w8 (some ⟨q2, 0, none⟩) ts) ∧ (WB w8 q1 (xs.length * 7)) ∧ (WB w8 q2 (ts.length * 4)) ∧ (ABlk 30 w8 w4.heap.size #[.int .i64 i, .int .i64 s, Value.slice (some ⟨q1, 0, none⟩) xs.length xs.length, Value.slice (some ⟨q2, 0, none⟩) ts.length ts.length]) ∧ (OwnS w8 w5.heap.size (Value.slice ax00 X00.length cx00) X00) ∧ (OwnN celC 59 w8 w5.heap.size (Value.slice ax01 X01.length cx01) X01) ∧ (ABlk 30 w8 (w6.heap.size) #[.int .i64 I00, .int .i64 I01, Value.slice ax00 X00.length cx00, Value.slice ax01 X01.length cx01])) := ⟨(H7.out.1).trans (b9.mono (H7.out.1).size), (H7.out.2.1).later b9, (H7.out.2.2.1).later b9, (H7.out.2.2.2.1).later b9, (H7.out.2.2.2.2.1).later b9, (H7.out.2.2.2.2.2.1).later b9, (H7.out.2.2.2.2.2.2.1).later b9, (H7.out.2.2.2.2.2.2.2.1).later b9, (H7.out.2.2.2.2.2.2.2.2).later b9⟩
  clear H7 b9
  go_wp2_with fail
  refine wp_region_held_drew (S := fun w' => Below w8.heap.size w8 w') (by kernel_rfl) (Below.refl _ _).drew (fun hS => ?_)
  generalize w8.drew = WD at hS ⊢
  refine take1 0 31 (Value.agg #[.int .i64 i, .int .i64 s, Value.slice (some ⟨q1, 0, none⟩) xs.length xs.length, Value.slice (some ⟨q2, 0, none⟩) ts.length ts.length]) rfl rfl (by kernel_rfl) (by kernel_rfl) (by kernel_rfl) (by rfl) (fun _ _ _ h => h) hS (fun w' hS' => ?_) ?_
  · have x20 := ((H8.out.2.2.2.2.2.1).later hS').at 0 _ rfl
    have x21 := ((H8.out.2.2.2.2.2.1).later hS').at 1 _ rfl
    have x22 := ((H8.out.2.2.2.2.2.1).later hS').at 2 _ rfl
    have x23 := ((H8.out.2.2.2.2.2.1).later hS').at 3 _ rfl
    (go_simp) <;> (intro hx9; omega)
  simp only [Act.put, List.setIfInBounds_toArray, List.set_cons_zero, List.set_cons_succ]
  refine take1 1 32 (Value.agg #[.int .i64 i, .int .i64 s, Value.slice a1 xs.length c1, Value.slice a2 ts.length c2]) rfl rfl (by kernel_rfl) (by kernel_rfl) (by kernel_rfl) (by rfl) (fun _ _ _ h => h) hS (fun w' hS' => ?_) ?_
  · have x20 := (((HL.out.1).later H8.out.1).later hS').at 0 _ rfl
    have x21 := (((HL.out.1).later H8.out.1).later hS').at 1 _ rfl
    have x22 := (((HL.out.1).later H8.out.1).later hS').at 2 _ rfl
    have x23 := (((HL.out.1).later H8.out.1).later hS').at 3 _ rfl
    (go_simp) <;> (intro hx9; omega)
  simp only [Act.put, List.setIfInBounds_toArray, List.set_cons_zero, List.set_cons_succ]
  refine wpAnyH_ready (rs := [2]) (by kernel_rfl) (by simp) ?_
  refine AllReadyH.cons rfl (fun K hK => ?_) AllReadyH.nil
  go_simp
  have bb : Below w.heap.size w WD := ((HL.out.2.1).trans ((H8.out.1).mono (HL.out.2.1).size)).trans (hS.mono ((HL.out.2.1).trans ((H8.out.1).mono (HL.out.2.1).size)).size)
  refine (toServ_any i s a1 a2 c1 c2 xs ts _ ((JA.out.1).later bb) ((JA.out.2).later bb) x1 x2).mono ?_
  rintro r v1 ⟨u1, u2, rfl, _, ⟨f0, f1⟩, _, b6⟩
  have S6 : Below w8.heap.size w8 v1 := hS.trans (b6.mono hS.size)
  have R6 : Hid (SRow v1 (some ⟨u1, 0, none⟩) xs ∧ NRow celC v1 (some ⟨u2, 0, none⟩) ts) := ⟨f0, f1⟩
  clear f0 f1
  refine hK.out _ _ S6 (fun hS => ?_)
  clear hK K b6 S6 bb
  refine wpAnyH_ready (rs := [3]) (by kernel_rfl) (by simp) ?_
  refine AllReadyH.cons rfl (fun K hK => ?_) AllReadyH.nil
  go_simp
  refine (eqServ_same i s _ _ _ _ _ _ _ _ xs ts _ ((H8.out.2.1).later hS) ((H8.out.2.2.1).later hS) (R6.out.1) (R6.out.2) (by omega) (by omega)).mono ?_
  rintro r w9 ⟨rfl, b7⟩
  have b9 : Below w8.heap.size w8 w9 := hS.trans (b7.mono hS.size)
  refine hK.out _ _ b9 (fun hS => ?_)
  clear hK K b7
  refine take1 4 35 (.bool false) rfl rfl (by kernel_rfl) (by kernel_rfl) (by kernel_rfl) (by rfl) (fun _ _ _ h => h) hS (fun w' hS' => ?_) ?_
  · (go_simp) <;> (intro hx9; omega)
  simp only [Act.put, List.setIfInBounds_toArray, List.set_cons_zero, List.set_cons_succ]
  refine wpAnyH_done (by kernel_rfl) ?_ _
  clear hS R6
  have H9 : Hid ((Below wL.heap.size wL w9) ∧ (SRow w9 (some ⟨q1, 0, none⟩) xs) ∧ (NRow celC w9 (some ⟨q2, 0, none⟩) ts) ∧ (WB w9 q1 (xs.length * 7)) ∧ (WB w9 q2 (ts.length * 4)) ∧ (ABlk 30 w9 w4.heap.size #[.int .i64 i, .int .i64 s, Value.slice (some ⟨q1, 0, none⟩) xs.length xs.length, Value.slice (some ⟨q2, 0, none⟩) ts.length ts.length]) ∧ (OwnS w9 w5.heap.size (Value.slice ax00 X00.length cx00) X00) ∧ (OwnN celC 59 w9 w5.heap.size (Value.slice ax01 X01.length cx01) X01) ∧ (ABlk 30 w9 (w6.heap.size) #[.int .i64 I00, .int .i64 I01, Value.slice ax00 X00.length cx00, Value.slice ax01 X01.length cx01])) := ⟨(H8.out.1).trans (b9.mono (H8.out.1).size), (H8.out.2.1).later b9, (H8.out.2.2.1).later b9, (H8.out.2.2.2.1).later b9, (H8.out.2.2.2.2.1).later b9, (H8.out.2.2.2.2.2.1).later b9, (H8.out.2.2.2.2.2.2.1).later b9, (H8.out.2.2.2.2.2.2.2.1).later b9, (H8.out.2.2.2.2.2.2.2.2).later b9⟩
  clear H8 b9
  have p0 := (H9.out.2.2.2.2.2.1).at 0 _ rfl
  have p1 := (H9.out.2.2.2.2.2.1).at 1 _ rfl
  have p2 := (H9.out.2.2.2.2.2.1).at 2 _ rfl
  have p3 := (H9.out.2.2.2.2.2.1).at 3 _ rfl
  go_wp2_with fail
  clear p0 p1 p2 p3
  refine (markServ_row i s q1 xs.length q2 ts.length 1 _ ⟨H9.out.2.2.2.1, H9.out.2.2.2.2.1⟩ (by omega) (by omega) (by omega) (by omega) (by omega)).mono ?_
  rintro r w10 ⟨rfl, g9⟩
  have H10 : Hid ((Below wL.heap.size wL w10) ∧ (OwnS w10 w5.heap.size (Value.slice ax00 X00.length cx00) X00) ∧ (OwnN celC 59 w10 w5.heap.size (Value.slice ax01 X01.length cx01) X01) ∧ (ABlk 30 w10 (w6.heap.size) #[.int .i64 I00, .int .i64 I01, Value.slice ax00 X00.length cx00, Value.slice ax01 X01.length cx01])) := ⟨below_grl (H9.out.1) g9 (H9.out.1).size (fun k hk => by simp at hk; omega), (H9.out.2.2.2.2.2.2.1).grl g9 (fun k e => by have h7 := (H9.out.2.2.2.2.2.2.1).low k e; simp; omega), (H9.out.2.2.2.2.2.2.2.1).grl g9 (fun k e => by have h7 := (H9.out.2.2.2.2.2.2.2.1).low k e; simp; omega), (H9.out.2.2.2.2.2.2.2.2).grl g9 (by simp; omega)⟩
  clear H9 g9
  have hm0 : ¬ (1 + 7 * (xs.length : Int) + 4 * (ts.length : Int)) < 0 := by omega
  have z0 := ((HL.out.2.2.1).later H10.out.1).at 0 _ rfl
  have z1 := ((HL.out.2.2.1).later H10.out.1).at 1 _ rfl
  have z2 := ((HL.out.2.2.1).later H10.out.1).at 2 _ rfl
  have z3 := ((HL.out.2.2.1).later H10.out.1).at 3 _ rfl
  have y0 := (H10.out.2.2.2).at 0 _ rfl
  have y1 := (H10.out.2.2.2).at 1 _ rfl
  have y2 := (H10.out.2.2.2).at 2 _ rfl
  have y3 := (H10.out.2.2.2).at 3 _ rfl
  go_wp2_with fail
  clear hm0 z0 z1 z2 z3 y0 y1 y2 y3
  refine (eqServ_same I00 I01 ax00 ax01 az00 az01 cx00 cx01 cz00 cz01 X00 X01 _ (OwnS.rowAt ((H10.out.2.1))) (OwnN.rowAt ((H10.out.2.2.1))) ((HL.out.2.2.2.1).later H10.out.1) ((HL.out.2.2.2.2).later H10.out.1) hX0 hX1).mono ?_
  rintro r w11 ⟨rfl, b9⟩
  have H11 : Hid ((Below wL.heap.size wL w11) ∧ (OwnS w11 w5.heap.size (Value.slice ax00 X00.length cx00) X00) ∧ (OwnN celC 59 w11 w5.heap.size (Value.slice ax01 X01.length cx01) X01) ∧ (ABlk 30 w11 (w6.heap.size) #[.int .i64 I00, .int .i64 I01, Value.slice ax00 X00.length cx00, Value.slice ax01 X01.length cx01])) := ⟨(H10.out.1).trans (b9.mono (H10.out.1).size), (H10.out.2.1).later b9, (H10.out.2.2.1).later b9, (H10.out.2.2.2).later b9⟩
  clear H10 b9
  have y0 := (H11.out.2.2.2).at 0 _ rfl
  have y1 := (H11.out.2.2.2).at 1 _ rfl
  have y2 := (H11.out.2.2.2).at 2 _ rfl
  have y3 := (H11.out.2.2.2).at 3 _ rfl
  go_wp2_with fail
  clear y0 y1 y2 y3
  refine (markServ_own I00 I01 (1) (H11.out.2.1) (H11.out.2.2.1) (own_ne (H11.out.2.1) (H11.out.2.2.1) (by decide)) hX0 hX1 (by omega) (by omega)).mono ?_
  rintro r w12 ⟨rfl, g9, m9⟩
  have H12 : Hid ((Below wL.heap.size wL w12) ∧ (ABlk 30 w12 (w6.heap.size) #[.int .i64 I00, .int .i64 I01, Value.slice ax00 X00.length cx00, Value.slice ax01 X01.length cx01]) ∧ (Mk7 w12 (Value.slice ax00 X00.length cx00) X00.length (1)) ∧ (MkN 4 w12 (Value.slice ax01 X01.length cx01) X01.length (1 + 7 * (X00.length : Int)))) := ⟨below_grl (H11.out.1) g9 (H11.out.1).size (fun k hk => by simp only [List.mem_cons, List.not_mem_nil, or_false] at hk; have h8 := (H11.out.1).size; exact hk.elim (fun hk => by have h7 := ((H11.out.2.1)).low k hk.symm; omega) (fun hk => by have h7 := ((H11.out.2.2.1)).low k hk.symm; omega)), (H11.out.2.2.2).grl g9 (by simp only [List.mem_cons, List.not_mem_nil, or_false, not_or]; exact ⟨fun e => own_off (H11.out.2.2.2) ((H11.out.2.1)) (by decide) e.symm, fun e => own_off (H11.out.2.2.2) ((H11.out.2.2.1)) (by decide) e.symm⟩), m9.1, m9.2⟩
  clear H11 g9 m9
  have hk0 : ¬ (1 + 7 * (X00.length : Int) + 4 * (X01.length : Int)) < 0 := by omega
  have y0 := (H12.out.2.1).at 0 _ rfl
  have y1 := (H12.out.2.1).at 1 _ rfl
  have y2 := (H12.out.2.1).at 2 _ rfl
  have y3 := (H12.out.2.1).at 3 _ rfl
  go_wp2_with fail
  clear y0 y1 y2 y3
  refine (heldServ_own I00 I01 (1) ⟨H12.out.2.2.1, H12.out.2.2.2⟩ hX0 hX1 (by omega) (by omega)).mono ?_
  rintro r w13 ⟨rfl, b9⟩
  have H13 : Hid ((Below wL.heap.size wL w13) ∧ (ABlk 30 w13 (w6.heap.size) #[.int .i64 I00, .int .i64 I01, Value.slice ax00 X00.length cx00, Value.slice ax01 X01.length cx01]) ∧ (Mk7 w13 (Value.slice ax00 X00.length cx00) X00.length (1)) ∧ (MkN 4 w13 (Value.slice ax01 X01.length cx01) X01.length (1 + 7 * (X00.length : Int)))) := ⟨(H12.out.1).trans (b9.mono (H12.out.1).size), (H12.out.2.1).later b9, (H12.out.2.2.1).later b9, (H12.out.2.2.2).later b9⟩
  clear H12 b9
  have L9 := ((HL.out.1).later H13.out.1).lt
  have p0 := ((HL.out.1).later H13.out.1).at 0 _ rfl
  have p1 := ((HL.out.1).later H13.out.1).at 1 _ rfl
  have p2 := ((HL.out.1).later H13.out.1).at 2 _ rfl
  have p3 := ((HL.out.1).later H13.out.1).at 3 _ rfl
  go_wp2_with fail
  clear L9 p0 p1 p2 p3
  refine (toServ_any i s a1 a2 c1 c2 xs ts _ ((JA.out.1).later ((HL.out.2.1).trans ((H13.out.1).mono (HL.out.2.1).size))) ((JA.out.2).later ((HL.out.2.1).trans ((H13.out.1).mono (HL.out.2.1).size))) x1 x2).mono ?_
  rintro r w14 ⟨t1, t2, rfl, _, ⟨f0, f1⟩, _, b9⟩
  have H14 : Hid ((Below wL.heap.size wL w14) ∧ (ABlk 30 w14 (w6.heap.size) #[.int .i64 I00, .int .i64 I01, Value.slice ax00 X00.length cx00, Value.slice ax01 X01.length cx01]) ∧ (Mk7 w14 (Value.slice ax00 X00.length cx00) X00.length (1)) ∧ (MkN 4 w14 (Value.slice ax01 X01.length cx01) X01.length (1 + 7 * (X00.length : Int))) ∧ (SRow w14 (some ⟨t1, 0, none⟩) xs) ∧ (NRow celC w14 (some ⟨t2, 0, none⟩) ts)) := ⟨(H13.out.1).trans (b9.mono (H13.out.1).size), (H13.out.2.1).later b9, (H13.out.2.2.1).later b9, (H13.out.2.2.2).later b9, f0, f1⟩
  clear H13 b9 f0 f1
  go_wp2_with fail
  refine (HI.out t1 t2 _ (H14.out.2.2.2.2.1) (H14.out.2.2.2.2.2) x1 x2).mono ?_
  rintro r w15 ⟨ah00, ch00, ah01, ch01, rfl, o0, o1, b9⟩
  have H15 : Hid ((Below wL.heap.size wL w15) ∧ (ABlk 30 w15 (w6.heap.size) #[.int .i64 I00, .int .i64 I01, Value.slice ax00 X00.length cx00, Value.slice ax01 X01.length cx01]) ∧ (Mk7 w15 (Value.slice ax00 X00.length cx00) X00.length (1)) ∧ (MkN 4 w15 (Value.slice ax01 X01.length cx01) X01.length (1 + 7 * (X00.length : Int))) ∧ (SRow w15 ah00 X00) ∧ (NRow celC w15 ah01 X01)) := ⟨(H14.out.1).trans (b9.mono (H14.out.1).size), (H14.out.2.1).later b9, (H14.out.2.2.1).later b9, (H14.out.2.2.2.1).later b9, OwnS.rowAt (o0), OwnN.rowAt (o1)⟩
  clear H14 b9 o0 o1
  have L9 := ((HL.out.2.2.1).later H15.out.1).lt
  have z0 := ((HL.out.2.2.1).later H15.out.1).at 0 _ rfl
  have z1 := ((HL.out.2.2.1).later H15.out.1).at 1 _ rfl
  have z2 := ((HL.out.2.2.1).later H15.out.1).at 2 _ rfl
  have z3 := ((HL.out.2.2.1).later H15.out.1).at 3 _ rfl
  go_wp2_with fail
  clear L9 z0 z1 z2 z3
  obtain ⟨w16, hw9⟩ : ∃ w9, w9 = (w15.alloc (.cells #[.int .i64 I00, .int .i64 I01, Value.slice ah00 X00.length ch00, Value.slice ah01 X01.length ch01] 30)) := ⟨_, rfl⟩
  have b9 : Below w15.heap.size w15 w16 := by
    rw [hw9]
    exact Below.alloc_ _ _
  have k0 : ABlk 30 w16 (w15.heap.size) #[.int .i64 I00, .int .i64 I01, Value.slice ah00 X00.length ch00, Value.slice ah01 X01.length ch01] := by
    rw [hw9]
    exact ABlk.new _ _ _
  rw [← hw9]
  clear hw9
  have H16 : Hid ((Below wL.heap.size wL w16) ∧ (ABlk 30 w16 (w6.heap.size) #[.int .i64 I00, .int .i64 I01, Value.slice ax00 X00.length cx00, Value.slice ax01 X01.length cx01]) ∧ (Mk7 w16 (Value.slice ax00 X00.length cx00) X00.length (1)) ∧ (MkN 4 w16 (Value.slice ax01 X01.length cx01) X01.length (1 + 7 * (X00.length : Int))) ∧ (SRow w16 ah00 X00) ∧ (NRow celC w16 ah01 X01) ∧ (ABlk 30 w16 (w15.heap.size) #[.int .i64 I00, .int .i64 I01, Value.slice ah00 X00.length ch00, Value.slice ah01 X01.length ch01])) := ⟨(H15.out.1).trans (b9.mono (H15.out.1).size), (H15.out.2.1).later b9, (H15.out.2.2.1).later b9, (H15.out.2.2.2.1).later b9, (H15.out.2.2.2.2.1).later b9, (H15.out.2.2.2.2.2).later b9, k0⟩
  clear H15 b9 k0
  refine (eqServ_same I00 I01 ah00 ah01 az00 az01 ch00 ch01 cz00 cz01 X00 X01 _ ((H16.out.2.2.2.2.1)) ((H16.out.2.2.2.2.2.1)) ((HL.out.2.2.2.1).later H16.out.1) ((HL.out.2.2.2.2).later H16.out.1) hX0 hX1).mono ?_
  rintro r w17 ⟨rfl, b9⟩
  have H17 : Hid ((Below wL.heap.size wL w17) ∧ (ABlk 30 w17 (w6.heap.size) #[.int .i64 I00, .int .i64 I01, Value.slice ax00 X00.length cx00, Value.slice ax01 X01.length cx01]) ∧ (Mk7 w17 (Value.slice ax00 X00.length cx00) X00.length (1)) ∧ (MkN 4 w17 (Value.slice ax01 X01.length cx01) X01.length (1 + 7 * (X00.length : Int))) ∧ (SRow w17 ah00 X00) ∧ (NRow celC w17 ah01 X01) ∧ (ABlk 30 w17 (w15.heap.size) #[.int .i64 I00, .int .i64 I01, Value.slice ah00 X00.length ch00, Value.slice ah01 X01.length ch01])) := ⟨(H16.out.1).trans (b9.mono (H16.out.1).size), (H16.out.2.1).later b9, (H16.out.2.2.1).later b9, (H16.out.2.2.2.1).later b9, (H16.out.2.2.2.2.1).later b9, (H16.out.2.2.2.2.2.1).later b9, (H16.out.2.2.2.2.2.2).later b9⟩
  clear H16 b9
  have y0 := (H17.out.2.1).at 0 _ rfl
  have y1 := (H17.out.2.1).at 1 _ rfl
  have y2 := (H17.out.2.1).at 2 _ rfl
  have y3 := (H17.out.2.1).at 3 _ rfl
  go_wp2_with fail
  clear y0 y1 y2 y3
  refine (heldServ_own I00 I01 (1) ⟨H17.out.2.2.1, H17.out.2.2.2.1⟩ hX0 hX1 (by omega) (by omega)).mono ?_
  rintro r w18 ⟨rfl, b9⟩
  have H18 : Hid ((Below wL.heap.size wL w18) ∧ (ABlk 30 w18 (w6.heap.size) #[.int .i64 I00, .int .i64 I01, Value.slice ax00 X00.length cx00, Value.slice ax01 X01.length cx01]) ∧ (Mk7 w18 (Value.slice ax00 X00.length cx00) X00.length (1)) ∧ (MkN 4 w18 (Value.slice ax01 X01.length cx01) X01.length (1 + 7 * (X00.length : Int))) ∧ (SRow w18 ah00 X00) ∧ (NRow celC w18 ah01 X01) ∧ (ABlk 30 w18 (w15.heap.size) #[.int .i64 I00, .int .i64 I01, Value.slice ah00 X00.length ch00, Value.slice ah01 X01.length ch01])) := ⟨(H17.out.1).trans (b9.mono (H17.out.1).size), (H17.out.2.1).later b9, (H17.out.2.2.1).later b9, (H17.out.2.2.2.1).later b9, (H17.out.2.2.2.2.1).later b9, (H17.out.2.2.2.2.2.1).later b9, (H17.out.2.2.2.2.2.2).later b9⟩
  clear H17 b9
  have HE : Hid (Below w.heap.size w w18) := (HL.out.2.1).trans ((H18.out.1).mono (HL.out.2.1).size)
  clear H18 HL
  go_wp2_with fail
  go_ret
  exact ⟨rfl, HE.out⟩

end Go.Proofs.Ytbkmcdhfhpjbmaa
