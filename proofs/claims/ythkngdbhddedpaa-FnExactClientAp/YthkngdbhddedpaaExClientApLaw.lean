/-
  The law on ClientAp, walked, whatever the two functions answer.
-/
import Derived.Test.YthkngdbhddedpaaExLaw
import Derived.Test.YthkngdbhddedpaaClMkRow
import Derived.Test.YthkngdbhddedpaaRegInv
namespace Go.Proofs.Ythkngdbhddedpaa
open Go.RowKit
attribute [local go_sem ↓] Go.wp_at_zero Go.wp_at_succ

set_option maxHeartbeats 40000000 in
set_option maxRecDepth 100000 in
theorem lawClientAp_gen (i n : Int) (a1 a2 a3 a4 : Option Addr) (c1 c2 c3 c4 : Nat) (ws : List Wn) (cs : List Cd) (ss : List Ca) (ms : List Ca) (serv now : Int) (w : World) (h1 : CRows w a1 a2 a3 a4 ws cs ss ms) (hm1 : ws.length ≤ 9223372036854775807) (hm2 : cs.length ≤ 9223372036854775807) (hm3 : ss.length ≤ 9223372036854775807) (hm4 : ms.length ≤ 9223372036854775807) (I00 I01 : Int) (X00 : List Wn) (X01 : List Cd) (X02 : List Ca) (X03 : List Ca) (I10 I11 I12 I13 : Int) (X10 : List Sl) (T : Bool)
    (hX : ws.length ≤ 1048576 → cs.length ≤ 1048576 → ss.length ≤ 1048576 → ms.length ≤ 1048576 → X00.length ≤ 2000000 ∧ X01.length ≤ 2000000 ∧ X02.length ≤ 2000000 ∧ X03.length ≤ 2000000 ∧ X10.length ≤ 2000000)
    (HS : Hid (∀ (g1 g2 g3 g4 : Nat) (w1 : World), CRows w1 (some ⟨g1, 0, none⟩) (some ⟨g2, 0, none⟩) (some ⟨g3, 0, none⟩) (some ⟨g4, 0, none⟩) ws cs ss ms → ws.length ≤ 1048576 → cs.length ≤ 1048576 → ss.length ≤ 1048576 → ms.length ≤ 1048576 → Calls Try.prog 15 #[.agg #[.int .i64 i, .int .i64 n, Value.slice (some ⟨g1, 0, none⟩) ws.length ws.length, Value.slice (some ⟨g2, 0, none⟩) cs.length cs.length, Value.slice (some ⟨g3, 0, none⟩) ss.length ss.length, Value.slice (some ⟨g4, 0, none⟩) ms.length ms.length], .int .i64 serv, .int .i64 now] w1 fun r w' => ∃ b00 e00 b01 e01 b02 e02 b03 e03 b10 e10, r = .returned (.tuple #[.agg #[.int .i64 I00, .int .i64 I01, Value.slice b00 X00.length e00, Value.slice b01 X01.length e01, Value.slice b02 X02.length e02, Value.slice b03 X03.length e03], .agg #[.int .i64 I10, .int .i64 I11, .int .i64 I12, .int .i64 I13, Value.slice b10 X10.length e10], .bool T]) ∧ Own4 w' w1.heap.size (Value.slice b00 X00.length e00) (Value.slice b01 X01.length e01) (Value.slice b02 X02.length e02) (Value.slice b03 X03.length e03) X00 X01 X02 X03 ∧ OwnS w' w1.heap.size (Value.slice b10 X10.length e10) X10 ∧ Below w1.heap.size w1 w'))
    (HI : Hid (∀ (g1 g2 g3 g4 : Nat) (w1 : World), CRows w1 (some ⟨g1, 0, none⟩) (some ⟨g2, 0, none⟩) (some ⟨g3, 0, none⟩) (some ⟨g4, 0, none⟩) ws cs ss ms → ws.length ≤ 1048576 → cs.length ≤ 1048576 → ss.length ≤ 1048576 → ms.length ≤ 1048576 → Calls Try.prog 16 #[.agg #[.int .i64 i, .int .i64 n, Value.slice (some ⟨g1, 0, none⟩) ws.length ws.length, Value.slice (some ⟨g2, 0, none⟩) cs.length cs.length, Value.slice (some ⟨g3, 0, none⟩) ss.length ss.length, Value.slice (some ⟨g4, 0, none⟩) ms.length ms.length], .int .i64 serv, .int .i64 now] w1 fun r w' => ∃ b00 e00 b01 e01 b02 e02 b03 e03 b10 e10, r = .returned (.tuple #[.agg #[.int .i64 I00, .int .i64 I01, Value.slice b00 X00.length e00, Value.slice b01 X01.length e01, Value.slice b02 X02.length e02, Value.slice b03 X03.length e03], .agg #[.int .i64 I10, .int .i64 I11, .int .i64 I12, .int .i64 I13, Value.slice b10 X10.length e10], .bool T]) ∧ Own4 w' w1.heap.size (Value.slice b00 X00.length e00) (Value.slice b01 X01.length e01) (Value.slice b02 X02.length e02) (Value.slice b03 X03.length e03) X00 X01 X02 X03 ∧ OwnS w' w1.heap.size (Value.slice b10 X10.length e10) X10 ∧ Below w1.heap.size w1 w')) :
    Calls Try.prog 4 #[.agg #[.int .i64 i, .int .i64 n, Value.slice a1 ws.length c1, Value.slice a2 cs.length c2, Value.slice a3 ss.length c3, Value.slice a4 ms.length c4], .int .i64 serv, .int .i64 now] w fun r w' => r = .returned (.bool true) ∧ Below w.heap.size w w' := by
  have JA : Hid (CRows w a1 a2 a3 a4 ws cs ss ms) := h1
  have H0 : Hid ((ABlk 26 (w.alloc (.cells #[.int .i64 i, .int .i64 n, Value.slice a1 ws.length c1, Value.slice a2 cs.length c2, Value.slice a3 ss.length c3, Value.slice a4 ms.length c4] 26)) w.heap.size #[.int .i64 i, .int .i64 n, Value.slice a1 ws.length c1, Value.slice a2 cs.length c2, Value.slice a3 ss.length c3, Value.slice a4 ms.length c4]) ∧ (Below w.heap.size w (w.alloc (.cells #[.int .i64 i, .int .i64 n, Value.slice a1 ws.length c1, Value.slice a2 cs.length c2, Value.slice a3 ss.length c3, Value.slice a4 ms.length c4] 26)))) := ⟨ABlk.new _ _ _, Below.alloc_ _ _⟩
  clear h1
  go_enter Try.func4, Try.ntmps4
  go_wp2_with fail
  generalize (w.alloc (.cells #[.int .i64 i, .int .i64 n, Value.slice a1 ws.length c1, Value.slice a2 cs.length c2, Value.slice a3 ss.length c3, Value.slice a4 ms.length c4] 26)) = W0 at H0 ⊢
  refine (szClient_any i n a1 a2 a3 a4 ws.length cs.length ss.length ms.length c1 c2 c3 c4 1048576 _ (by omega) (by omega) hm1 hm2 hm3 hm4).mono ?_
  rintro r w1 ⟨rfl, b9⟩
  have H1 : Hid ((ABlk 26 w1 w.heap.size #[.int .i64 i, .int .i64 n, Value.slice a1 ws.length c1, Value.slice a2 cs.length c2, Value.slice a3 ss.length c3, Value.slice a4 ms.length c4]) ∧ (Below w.heap.size w w1)) := ⟨H0.out.1.later b9, H0.out.2.trans (b9.mono H0.out.2.size)⟩
  clear H0 b9
  by_cases hn : restC 1048576 ws.length cs.length ss.length ms.length < 0
  · go_wp2_with fail
    go_ret
    exact ⟨rfl, H1.out.2⟩
  obtain ⟨x1, x2, x3, x4⟩ := restCl_neg hn
  have hX := hX x1 x2 x3 x4
  obtain ⟨hX0, hX1, hX2, hX3, hX4⟩ := hX
  have p0 := H1.out.1.at 0 _ rfl
  have p1 := H1.out.1.at 1 _ rfl
  have p2 := H1.out.1.at 2 _ rfl
  have p3 := H1.out.1.at 3 _ rfl
  have p4 := H1.out.1.at 4 _ rfl
  have p5 := H1.out.1.at 5 _ rfl
  go_wp2_with fail
  refine (toClient_any i n a1 a2 a3 a4 c1 c2 c3 c4 ws cs ss ms _ ((JA.out).later H1.out.2) x1 x2 x3 x4).mono ?_
  rintro r w2 ⟨g1, g2, g3, g4, rfl, _, f0, _, b9⟩
  have H2 : Hid ((ABlk 26 w2 w.heap.size #[.int .i64 i, .int .i64 n, Value.slice a1 ws.length c1, Value.slice a2 cs.length c2, Value.slice a3 ss.length c3, Value.slice a4 ms.length c4]) ∧ (Below w.heap.size w w2) ∧ (CRows w2 (some ⟨g1, 0, none⟩) (some ⟨g2, 0, none⟩) (some ⟨g3, 0, none⟩) (some ⟨g4, 0, none⟩) ws cs ss ms)) := ⟨H1.out.1.later b9, H1.out.2.trans (b9.mono H1.out.2.size), f0⟩
  clear H1 b9 f0 p0 p1 p2 p3 p4 p5
  go_wp2_with fail
  refine (HS.out g1 g2 g3 g4 _ (H2.out.2.2) x1 x2 x3 x4).mono ?_
  rintro r w3 ⟨az00, cz00, az01, cz01, az02, cz02, az03, cz03, az10, cz10, rfl, o0, o1, b9⟩
  have H3 : Hid ((ABlk 26 w3 w.heap.size #[.int .i64 i, .int .i64 n, Value.slice a1 ws.length c1, Value.slice a2 cs.length c2, Value.slice a3 ss.length c3, Value.slice a4 ms.length c4]) ∧ (Below w.heap.size w w3) ∧ (CRows w3 az00 az01 az02 az03 X00 X01 X02 X03) ∧ (SRow w3 az10 X10)) := ⟨H2.out.1.later b9, H2.out.2.1.trans (b9.mono H2.out.2.1.size), ⟨(o0).o1.rowAt, (o0).o2.rowAt, (o0).o3.rowAt, (o0).o4.rowAt⟩, OwnS.rowAt (o1)⟩
  clear H2 b9 o0 o1
  have L3 := H3.out.1.lt
  have p0 := (H3.out.1).at 0 _ rfl
  have p1 := (H3.out.1).at 1 _ rfl
  have p2 := (H3.out.1).at 2 _ rfl
  have p3 := (H3.out.1).at 3 _ rfl
  have p4 := (H3.out.1).at 4 _ rfl
  have p5 := (H3.out.1).at 5 _ rfl
  go_wp2_with fail
  clear L3 p0 p1 p2 p3 p4 p5
  obtain ⟨wL, hw9⟩ : ∃ w9, w9 = ((w3.alloc (.cells #[.int .i64 I00, .int .i64 I01, Value.slice az00 X00.length cz00, Value.slice az01 X01.length cz01, Value.slice az02 X02.length cz02, Value.slice az03 X03.length cz03] 32)).alloc (.cells #[.int .i64 I10, .int .i64 I11, .int .i64 I12, .int .i64 I13, Value.slice az10 X10.length cz10] 35)) := ⟨_, rfl⟩
  have b9 : Below w3.heap.size w3 wL := by
    rw [hw9]
    exact (Below.alloc_ _ _).trans ((Below.alloc_ _ _).mono (by simp))
  have k0 : ABlk 32 wL (w3.heap.size) #[.int .i64 I00, .int .i64 I01, Value.slice az00 X00.length cz00, Value.slice az01 X01.length cz01, Value.slice az02 X02.length cz02, Value.slice az03 X03.length cz03] := by
    rw [hw9]
    exact (ABlk.new _ _ _).later (Below.alloc_ _ _)
  have k1 : ABlk 35 wL (w3.heap.size + 1) #[.int .i64 I10, .int .i64 I11, .int .i64 I12, .int .i64 I13, Value.slice az10 X10.length cz10] := by
    rw [hw9]
    have e := ABlk.new (w3.alloc (.cells #[.int .i64 I00, .int .i64 I01, Value.slice az00 X00.length cz00, Value.slice az01 X01.length cz01, Value.slice az02 X02.length cz02, Value.slice az03 X03.length cz03] 32)) 35 #[.int .i64 I10, .int .i64 I11, .int .i64 I12, .int .i64 I13, Value.slice az10 X10.length cz10]
    rw [World.size_alloc] at e
    exact e
  rw [← hw9]
  clear hw9
  have HL : Hid ((ABlk 26 wL w.heap.size #[.int .i64 i, .int .i64 n, Value.slice a1 ws.length c1, Value.slice a2 cs.length c2, Value.slice a3 ss.length c3, Value.slice a4 ms.length c4]) ∧ (Below w.heap.size w wL) ∧ (ABlk 32 wL (w3.heap.size) #[.int .i64 I00, .int .i64 I01, Value.slice az00 X00.length cz00, Value.slice az01 X01.length cz01, Value.slice az02 X02.length cz02, Value.slice az03 X03.length cz03]) ∧ (ABlk 35 wL (w3.heap.size + 1) #[.int .i64 I10, .int .i64 I11, .int .i64 I12, .int .i64 I13, Value.slice az10 X10.length cz10]) ∧ (CRows wL az00 az01 az02 az03 X00 X01 X02 X03) ∧ (SRow wL az10 X10)) := ⟨(H3.out.1).later b9, (H3.out.2.1).trans (b9.mono (H3.out.2.1).size), k0, k1, (H3.out.2.2.1).later b9, (H3.out.2.2.2).later b9⟩
  clear H3 b9 k0 k1
  -- a copy
  refine (toClient_any i n a1 a2 a3 a4 c1 c2 c3 c4 ws cs ss ms _ ((JA.out).later (HL.out.2.1)) x1 x2 x3 x4).mono ?_
  rintro r w4 ⟨q1, q2, q3, q4, rfl, hq, f0, wb, b9⟩
  have H4 : Hid ((Below wL.heap.size wL w4) ∧ (CRows w4 (some ⟨q1, 0, none⟩) (some ⟨q2, 0, none⟩) (some ⟨q3, 0, none⟩) (some ⟨q4, 0, none⟩) ws cs ss ms) ∧ (WB w4 q1 (ws.length * 2)) ∧ (WB w4 q2 (cs.length * 10)) ∧ (WB w4 q3 (ss.length * 4)) ∧ (WB w4 q4 (ms.length * 4))) := ⟨b9, f0, wb.1, wb.2.1, wb.2.2.1, wb.2.2.2⟩
  have hl1 := (wb.1).lt
  have hl2 := (wb.2.1).lt
  have hl3 := (wb.2.2.1).lt
  have hl4 := (wb.2.2.2).lt
  replace hq : wL.heap.size ≤ q1 ∧ q1 < w4.heap.size ∧ wL.heap.size ≤ q2 ∧ q2 < w4.heap.size ∧ wL.heap.size ≤ q3 ∧ q3 < w4.heap.size ∧ wL.heap.size ≤ q4 ∧ q4 < w4.heap.size ∧ q1 < q2 ∧ q2 < q3 ∧ q3 < q4 := by omega
  clear b9 wb f0 hl1 hl2 hl3 hl4
  go_wp2_with fail
  have b9 := Below.alloc_ w4 (.cells #[.int .i64 i, .int .i64 n, Value.slice (some ⟨q1, 0, none⟩) ws.length ws.length, Value.slice (some ⟨q2, 0, none⟩) cs.length cs.length, Value.slice (some ⟨q3, 0, none⟩) ss.length ss.length, Value.slice (some ⟨q4, 0, none⟩) ms.length ms.length] 32)
  have xb := ABlk.new w4 32 #[.int .i64 i, .int .i64 n, Value.slice (some ⟨q1, 0, none⟩) ws.length ws.length, Value.slice (some ⟨q2, 0, none⟩) cs.length cs.length, Value.slice (some ⟨q3, 0, none⟩) ss.length ss.length, Value.slice (some ⟨q4, 0, none⟩) ms.length ms.length]
  obtain ⟨w5, hw9⟩ : ∃ w9, w9 = (w4.alloc (.cells #[.int .i64 i, .int .i64 n, Value.slice (some ⟨q1, 0, none⟩) ws.length ws.length, Value.slice (some ⟨q2, 0, none⟩) cs.length cs.length, Value.slice (some ⟨q3, 0, none⟩) ss.length ss.length, Value.slice (some ⟨q4, 0, none⟩) ms.length ms.length] 32)) := ⟨_, rfl⟩
  have L5 : w4.heap.size < w5.heap.size := by rw [hw9]; simp
  rw [← hw9] at b9 xb ⊢
  clear hw9
  have H5 : Hid ((Below wL.heap.size wL w5) ∧ (CRows w5 (some ⟨q1, 0, none⟩) (some ⟨q2, 0, none⟩) (some ⟨q3, 0, none⟩) (some ⟨q4, 0, none⟩) ws cs ss ms) ∧ (WB w5 q1 (ws.length * 2)) ∧ (WB w5 q2 (cs.length * 10)) ∧ (WB w5 q3 (ss.length * 4)) ∧ (WB w5 q4 (ms.length * 4)) ∧ (ABlk 32 w5 w4.heap.size #[.int .i64 i, .int .i64 n, Value.slice (some ⟨q1, 0, none⟩) ws.length ws.length, Value.slice (some ⟨q2, 0, none⟩) cs.length cs.length, Value.slice (some ⟨q3, 0, none⟩) ss.length ss.length, Value.slice (some ⟨q4, 0, none⟩) ms.length ms.length])) := ⟨(H4.out.1).trans (b9.mono (H4.out.1).size), (H4.out.2.1).later b9, (H4.out.2.2.1).later b9, (H4.out.2.2.2.1).later b9, (H4.out.2.2.2.2.1).later b9, (H4.out.2.2.2.2.2).later b9, xb⟩
  clear H4 b9 xb
  refine (HI.out q1 q2 q3 q4 _ (H5.out.2.1) x1 x2 x3 x4).mono ?_
  rintro r w6 ⟨ax00, cx00, ax01, cx01, ax02, cx02, ax03, cx03, ax10, cx10, rfl, o0, o1, b9⟩
  have L6 : w5.heap.size ≤ w6.heap.size := b9.size
  have H6 : Hid ((Below wL.heap.size wL w6) ∧ (CRows w6 (some ⟨q1, 0, none⟩) (some ⟨q2, 0, none⟩) (some ⟨q3, 0, none⟩) (some ⟨q4, 0, none⟩) ws cs ss ms) ∧ (WB w6 q1 (ws.length * 2)) ∧ (WB w6 q2 (cs.length * 10)) ∧ (WB w6 q3 (ss.length * 4)) ∧ (WB w6 q4 (ms.length * 4)) ∧ (ABlk 32 w6 w4.heap.size #[.int .i64 i, .int .i64 n, Value.slice (some ⟨q1, 0, none⟩) ws.length ws.length, Value.slice (some ⟨q2, 0, none⟩) cs.length cs.length, Value.slice (some ⟨q3, 0, none⟩) ss.length ss.length, Value.slice (some ⟨q4, 0, none⟩) ms.length ms.length]) ∧ (Own4 w6 w5.heap.size (Value.slice ax00 X00.length cx00) (Value.slice ax01 X01.length cx01) (Value.slice ax02 X02.length cx02) (Value.slice ax03 X03.length cx03) X00 X01 X02 X03) ∧ (OwnS w6 w5.heap.size (Value.slice ax10 X10.length cx10) X10)) := ⟨(H5.out.1).trans (b9.mono (H5.out.1).size), (H5.out.2.1).later b9, (H5.out.2.2.1).later b9, (H5.out.2.2.2.1).later b9, (H5.out.2.2.2.2.1).later b9, (H5.out.2.2.2.2.2.1).later b9, (H5.out.2.2.2.2.2.2).later b9, o0, o1⟩
  clear H5 b9 o0 o1
  have L6z := ((HL.out.2.2.1).later H6.out.1).lt
  have z0 := ((HL.out.2.2.1).later H6.out.1).at 0 _ rfl
  have z1 := ((HL.out.2.2.1).later H6.out.1).at 1 _ rfl
  have z2 := ((HL.out.2.2.1).later H6.out.1).at 2 _ rfl
  have z3 := ((HL.out.2.2.1).later H6.out.1).at 3 _ rfl
  have z4 := ((HL.out.2.2.1).later H6.out.1).at 4 _ rfl
  have z5 := ((HL.out.2.2.1).later H6.out.1).at 5 _ rfl
  go_wp2_with fail
  clear L6z z0 z1 z2 z3 z4 z5
  obtain ⟨w7, hw9⟩ : ∃ w9, w9 = ((w6.alloc (.cells #[.int .i64 I00, .int .i64 I01, Value.slice ax00 X00.length cx00, Value.slice ax01 X01.length cx01, Value.slice ax02 X02.length cx02, Value.slice ax03 X03.length cx03] 32)).alloc (.cells #[.int .i64 I10, .int .i64 I11, .int .i64 I12, .int .i64 I13, Value.slice ax10 X10.length cx10] 35)) := ⟨_, rfl⟩
  have b9 : Below w6.heap.size w6 w7 := by
    rw [hw9]
    exact (Below.alloc_ _ _).trans ((Below.alloc_ _ _).mono (by simp))
  have k0 : ABlk 32 w7 (w6.heap.size) #[.int .i64 I00, .int .i64 I01, Value.slice ax00 X00.length cx00, Value.slice ax01 X01.length cx01, Value.slice ax02 X02.length cx02, Value.slice ax03 X03.length cx03] := by
    rw [hw9]
    exact (ABlk.new _ _ _).later (Below.alloc_ _ _)
  have k1 : ABlk 35 w7 (w6.heap.size + 1) #[.int .i64 I10, .int .i64 I11, .int .i64 I12, .int .i64 I13, Value.slice ax10 X10.length cx10] := by
    rw [hw9]
    have e := ABlk.new (w6.alloc (.cells #[.int .i64 I00, .int .i64 I01, Value.slice ax00 X00.length cx00, Value.slice ax01 X01.length cx01, Value.slice ax02 X02.length cx02, Value.slice ax03 X03.length cx03] 32)) 35 #[.int .i64 I10, .int .i64 I11, .int .i64 I12, .int .i64 I13, Value.slice ax10 X10.length cx10]
    rw [World.size_alloc] at e
    exact e
  rw [← hw9]
  clear hw9
  have H7 : Hid ((Below wL.heap.size wL w7) ∧ (CRows w7 (some ⟨q1, 0, none⟩) (some ⟨q2, 0, none⟩) (some ⟨q3, 0, none⟩) (some ⟨q4, 0, none⟩) ws cs ss ms) ∧ (WB w7 q1 (ws.length * 2)) ∧ (WB w7 q2 (cs.length * 10)) ∧ (WB w7 q3 (ss.length * 4)) ∧ (WB w7 q4 (ms.length * 4)) ∧ (ABlk 32 w7 w4.heap.size #[.int .i64 i, .int .i64 n, Value.slice (some ⟨q1, 0, none⟩) ws.length ws.length, Value.slice (some ⟨q2, 0, none⟩) cs.length cs.length, Value.slice (some ⟨q3, 0, none⟩) ss.length ss.length, Value.slice (some ⟨q4, 0, none⟩) ms.length ms.length]) ∧ (Own4 w7 w5.heap.size (Value.slice ax00 X00.length cx00) (Value.slice ax01 X01.length cx01) (Value.slice ax02 X02.length cx02) (Value.slice ax03 X03.length cx03) X00 X01 X02 X03) ∧ (OwnS w7 w5.heap.size (Value.slice ax10 X10.length cx10) X10) ∧ (ABlk 32 w7 (w6.heap.size) #[.int .i64 I00, .int .i64 I01, Value.slice ax00 X00.length cx00, Value.slice ax01 X01.length cx01, Value.slice ax02 X02.length cx02, Value.slice ax03 X03.length cx03]) ∧ (ABlk 35 w7 (w6.heap.size + 1) #[.int .i64 I10, .int .i64 I11, .int .i64 I12, .int .i64 I13, Value.slice ax10 X10.length cx10])) := ⟨(H6.out.1).trans (b9.mono (H6.out.1).size), (H6.out.2.1).later b9, (H6.out.2.2.1).later b9, (H6.out.2.2.2.1).later b9, (H6.out.2.2.2.2.1).later b9, (H6.out.2.2.2.2.2.1).later b9, (H6.out.2.2.2.2.2.2.1).later b9, (H6.out.2.2.2.2.2.2.2.1).later b9, (H6.out.2.2.2.2.2.2.2.2).later b9, k0, k1⟩
  clear H6 b9 k0 k1
  refine (eqClient_same I00 I01 ax00 ax01 ax02 ax03 az00 az01 az02 az03 cx00 cx01 cx02 cx03 cz00 cz01 cz02 cz03 X00 X01 X02 X03 _ (⟨((H7.out.2.2.2.2.2.2.2.1)).o1.rowAt, ((H7.out.2.2.2.2.2.2.2.1)).o2.rowAt, ((H7.out.2.2.2.2.2.2.2.1)).o3.rowAt, ((H7.out.2.2.2.2.2.2.2.1)).o4.rowAt⟩) ((HL.out.2.2.2.2.1).later H7.out.1) hX0 hX1 hX2 hX3).mono ?_
  rintro r w8 ⟨rfl, b9⟩
  have H8 : Hid ((Below wL.heap.size wL w8) ∧ (CRows w8 (some ⟨q1, 0, none⟩) (some ⟨q2, 0, none⟩) (some ⟨q3, 0, none⟩) (some ⟨q4, 0, none⟩) ws cs ss ms) ∧ (WB w8 q1 (ws.length * 2)) ∧ (WB w8 q2 (cs.length * 10)) ∧ (WB w8 q3 (ss.length * 4)) ∧ (WB w8 q4 (ms.length * 4)) ∧ (ABlk 32 w8 w4.heap.size #[.int .i64 i, .int .i64 n, Value.slice (some ⟨q1, 0, none⟩) ws.length ws.length, Value.slice (some ⟨q2, 0, none⟩) cs.length cs.length, Value.slice (some ⟨q3, 0, none⟩) ss.length ss.length, Value.slice (some ⟨q4, 0, none⟩) ms.length ms.length]) ∧ (Own4 w8 w5.heap.size (Value.slice ax00 X00.length cx00) (Value.slice ax01 X01.length cx01) (Value.slice ax02 X02.length cx02) (Value.slice ax03 X03.length cx03) X00 X01 X02 X03) ∧ (OwnS w8 w5.heap.size (Value.slice ax10 X10.length cx10) X10) ∧ (ABlk 32 w8 (w6.heap.size) #[.int .i64 I00, .int .i64 I01, Value.slice ax00 X00.length cx00, Value.slice ax01 X01.length cx01, Value.slice ax02 X02.length cx02, Value.slice ax03 X03.length cx03]) ∧ (ABlk 35 w8 (w6.heap.size + 1) #[.int .i64 I10, .int .i64 I11, .int .i64 I12, .int .i64 I13, Value.slice ax10 X10.length cx10])) := ⟨(H7.out.1).trans (b9.mono (H7.out.1).size), (H7.out.2.1).later b9, (H7.out.2.2.1).later b9, (H7.out.2.2.2.1).later b9, (H7.out.2.2.2.2.1).later b9, (H7.out.2.2.2.2.2.1).later b9, (H7.out.2.2.2.2.2.2.1).later b9, (H7.out.2.2.2.2.2.2.2.1).later b9, (H7.out.2.2.2.2.2.2.2.2.1).later b9, (H7.out.2.2.2.2.2.2.2.2.2.1).later b9, (H7.out.2.2.2.2.2.2.2.2.2.2).later b9⟩
  clear H7 b9
  have z0 := ((HL.out.2.2.2.1).later H8.out.1).at 0 _ rfl
  have z1 := ((HL.out.2.2.2.1).later H8.out.1).at 1 _ rfl
  have z2 := ((HL.out.2.2.2.1).later H8.out.1).at 2 _ rfl
  have z3 := ((HL.out.2.2.2.1).later H8.out.1).at 3 _ rfl
  have z4 := ((HL.out.2.2.2.1).later H8.out.1).at 4 _ rfl
  have y0 := (H8.out.2.2.2.2.2.2.2.2.2.2).at 0 _ rfl
  have y1 := (H8.out.2.2.2.2.2.2.2.2.2.2).at 1 _ rfl
  have y2 := (H8.out.2.2.2.2.2.2.2.2.2.2).at 2 _ rfl
  have y3 := (H8.out.2.2.2.2.2.2.2.2.2.2).at 3 _ rfl
  have y4 := (H8.out.2.2.2.2.2.2.2.2.2.2).at 4 _ rfl
  go_wp2_with fail
  clear z0 z1 z2 z3 z4 y0 y1 y2 y3 y4
  refine (eqMsg_same I10 I11 I12 I13 ax10 az10 cx10 cz10 X10 _ (OwnS.rowAt ((H8.out.2.2.2.2.2.2.2.2.1))) ((HL.out.2.2.2.2.2).later H8.out.1) hX4).mono ?_
  rintro r w9 ⟨rfl, b9⟩
  have H9 : Hid ((Below wL.heap.size wL w9) ∧ (CRows w9 (some ⟨q1, 0, none⟩) (some ⟨q2, 0, none⟩) (some ⟨q3, 0, none⟩) (some ⟨q4, 0, none⟩) ws cs ss ms) ∧ (WB w9 q1 (ws.length * 2)) ∧ (WB w9 q2 (cs.length * 10)) ∧ (WB w9 q3 (ss.length * 4)) ∧ (WB w9 q4 (ms.length * 4)) ∧ (ABlk 32 w9 w4.heap.size #[.int .i64 i, .int .i64 n, Value.slice (some ⟨q1, 0, none⟩) ws.length ws.length, Value.slice (some ⟨q2, 0, none⟩) cs.length cs.length, Value.slice (some ⟨q3, 0, none⟩) ss.length ss.length, Value.slice (some ⟨q4, 0, none⟩) ms.length ms.length]) ∧ (Own4 w9 w5.heap.size (Value.slice ax00 X00.length cx00) (Value.slice ax01 X01.length cx01) (Value.slice ax02 X02.length cx02) (Value.slice ax03 X03.length cx03) X00 X01 X02 X03) ∧ (OwnS w9 w5.heap.size (Value.slice ax10 X10.length cx10) X10) ∧ (ABlk 32 w9 (w6.heap.size) #[.int .i64 I00, .int .i64 I01, Value.slice ax00 X00.length cx00, Value.slice ax01 X01.length cx01, Value.slice ax02 X02.length cx02, Value.slice ax03 X03.length cx03]) ∧ (ABlk 35 w9 (w6.heap.size + 1) #[.int .i64 I10, .int .i64 I11, .int .i64 I12, .int .i64 I13, Value.slice ax10 X10.length cx10])) := ⟨(H8.out.1).trans (b9.mono (H8.out.1).size), (H8.out.2.1).later b9, (H8.out.2.2.1).later b9, (H8.out.2.2.2.1).later b9, (H8.out.2.2.2.2.1).later b9, (H8.out.2.2.2.2.2.1).later b9, (H8.out.2.2.2.2.2.2.1).later b9, (H8.out.2.2.2.2.2.2.2.1).later b9, (H8.out.2.2.2.2.2.2.2.2.1).later b9, (H8.out.2.2.2.2.2.2.2.2.2.1).later b9, (H8.out.2.2.2.2.2.2.2.2.2.2).later b9⟩
  clear H8 b9
  go_wp2_with fail
  refine wp_region_held_drew (S := fun w' => Below w9.heap.size w9 w') (by kernel_rfl) (Below.refl _ _).drew (fun hS => ?_)
  generalize w9.drew = WD at hS ⊢
  refine take1 0 60 (Value.agg #[.int .i64 i, .int .i64 n, Value.slice (some ⟨q1, 0, none⟩) ws.length ws.length, Value.slice (some ⟨q2, 0, none⟩) cs.length cs.length, Value.slice (some ⟨q3, 0, none⟩) ss.length ss.length, Value.slice (some ⟨q4, 0, none⟩) ms.length ms.length]) rfl rfl (by kernel_rfl) (by kernel_rfl) (by kernel_rfl) (by rfl) (fun _ _ _ h => h) hS (fun w' hS' => ?_) ?_
  · have x20 := ((H9.out.2.2.2.2.2.2.1).later hS').at 0 _ rfl
    have x21 := ((H9.out.2.2.2.2.2.2.1).later hS').at 1 _ rfl
    have x22 := ((H9.out.2.2.2.2.2.2.1).later hS').at 2 _ rfl
    have x23 := ((H9.out.2.2.2.2.2.2.1).later hS').at 3 _ rfl
    have x24 := ((H9.out.2.2.2.2.2.2.1).later hS').at 4 _ rfl
    have x25 := ((H9.out.2.2.2.2.2.2.1).later hS').at 5 _ rfl
    (go_simp) <;> (intro hx9; omega)
  simp only [Act.put, List.setIfInBounds_toArray, List.set_cons_zero, List.set_cons_succ]
  refine take1 1 61 (Value.agg #[.int .i64 i, .int .i64 n, Value.slice a1 ws.length c1, Value.slice a2 cs.length c2, Value.slice a3 ss.length c3, Value.slice a4 ms.length c4]) rfl rfl (by kernel_rfl) (by kernel_rfl) (by kernel_rfl) (by rfl) (fun _ _ _ h => h) hS (fun w' hS' => ?_) ?_
  · have x20 := (((HL.out.1).later H9.out.1).later hS').at 0 _ rfl
    have x21 := (((HL.out.1).later H9.out.1).later hS').at 1 _ rfl
    have x22 := (((HL.out.1).later H9.out.1).later hS').at 2 _ rfl
    have x23 := (((HL.out.1).later H9.out.1).later hS').at 3 _ rfl
    have x24 := (((HL.out.1).later H9.out.1).later hS').at 4 _ rfl
    have x25 := (((HL.out.1).later H9.out.1).later hS').at 5 _ rfl
    (go_simp) <;> (intro hx9; omega)
  simp only [Act.put, List.setIfInBounds_toArray, List.set_cons_zero, List.set_cons_succ]
  refine wpAnyH_ready (rs := [2]) (by kernel_rfl) (by simp) ?_
  refine AllReadyH.cons rfl (fun K hK => ?_) AllReadyH.nil
  go_simp
  have bb : Below w.heap.size w WD := ((HL.out.2.1).trans ((H9.out.1).mono (HL.out.2.1).size)).trans (hS.mono ((HL.out.2.1).trans ((H9.out.1).mono (HL.out.2.1).size)).size)
  refine (toClient_any i n a1 a2 a3 a4 c1 c2 c3 c4 ws cs ss ms _ ((JA.out).later bb) x1 x2 x3 x4).mono ?_
  rintro r v1 ⟨u1, u2, u3, u4, rfl, _, f0, _, b6⟩
  have S6 : Below w9.heap.size w9 v1 := hS.trans (b6.mono hS.size)
  have R6 : Hid (CRows v1 (some ⟨u1, 0, none⟩) (some ⟨u2, 0, none⟩) (some ⟨u3, 0, none⟩) (some ⟨u4, 0, none⟩) ws cs ss ms) := f0
  clear f0
  refine hK.out _ _ S6 (fun hS => ?_)
  clear hK K b6 S6 bb
  refine wpAnyH_ready (rs := [3]) (by kernel_rfl) (by simp) ?_
  refine AllReadyH.cons rfl (fun K hK => ?_) AllReadyH.nil
  go_simp
  refine (eqClient_same i n _ _ _ _ _ _ _ _ _ _ _ _ _ _ _ _ ws cs ss ms _ ((H9.out.2.1).later hS) (R6.out) (by omega) (by omega) (by omega) (by omega)).mono ?_
  rintro r w10 ⟨rfl, b7⟩
  have b9 : Below w9.heap.size w9 w10 := hS.trans (b7.mono hS.size)
  refine hK.out _ _ b9 (fun hS => ?_)
  clear hK K b7
  refine take1 4 64 (.bool false) rfl rfl (by kernel_rfl) (by kernel_rfl) (by kernel_rfl) (by rfl) (fun _ _ _ h => h) hS (fun w' hS' => ?_) ?_
  · (go_simp) <;> (intro hx9; omega)
  simp only [Act.put, List.setIfInBounds_toArray, List.set_cons_zero, List.set_cons_succ]
  refine wpAnyH_done (by kernel_rfl) ?_ _
  clear hS R6
  have H10 : Hid ((Below wL.heap.size wL w10) ∧ (CRows w10 (some ⟨q1, 0, none⟩) (some ⟨q2, 0, none⟩) (some ⟨q3, 0, none⟩) (some ⟨q4, 0, none⟩) ws cs ss ms) ∧ (WB w10 q1 (ws.length * 2)) ∧ (WB w10 q2 (cs.length * 10)) ∧ (WB w10 q3 (ss.length * 4)) ∧ (WB w10 q4 (ms.length * 4)) ∧ (ABlk 32 w10 w4.heap.size #[.int .i64 i, .int .i64 n, Value.slice (some ⟨q1, 0, none⟩) ws.length ws.length, Value.slice (some ⟨q2, 0, none⟩) cs.length cs.length, Value.slice (some ⟨q3, 0, none⟩) ss.length ss.length, Value.slice (some ⟨q4, 0, none⟩) ms.length ms.length]) ∧ (Own4 w10 w5.heap.size (Value.slice ax00 X00.length cx00) (Value.slice ax01 X01.length cx01) (Value.slice ax02 X02.length cx02) (Value.slice ax03 X03.length cx03) X00 X01 X02 X03) ∧ (OwnS w10 w5.heap.size (Value.slice ax10 X10.length cx10) X10) ∧ (ABlk 32 w10 (w6.heap.size) #[.int .i64 I00, .int .i64 I01, Value.slice ax00 X00.length cx00, Value.slice ax01 X01.length cx01, Value.slice ax02 X02.length cx02, Value.slice ax03 X03.length cx03]) ∧ (ABlk 35 w10 (w6.heap.size + 1) #[.int .i64 I10, .int .i64 I11, .int .i64 I12, .int .i64 I13, Value.slice ax10 X10.length cx10])) := ⟨(H9.out.1).trans (b9.mono (H9.out.1).size), (H9.out.2.1).later b9, (H9.out.2.2.1).later b9, (H9.out.2.2.2.1).later b9, (H9.out.2.2.2.2.1).later b9, (H9.out.2.2.2.2.2.1).later b9, (H9.out.2.2.2.2.2.2.1).later b9, (H9.out.2.2.2.2.2.2.2.1).later b9, (H9.out.2.2.2.2.2.2.2.2.1).later b9, (H9.out.2.2.2.2.2.2.2.2.2.1).later b9, (H9.out.2.2.2.2.2.2.2.2.2.2).later b9⟩
  clear H9 b9
  have p0 := (H10.out.2.2.2.2.2.2.1).at 0 _ rfl
  have p1 := (H10.out.2.2.2.2.2.2.1).at 1 _ rfl
  have p2 := (H10.out.2.2.2.2.2.2.1).at 2 _ rfl
  have p3 := (H10.out.2.2.2.2.2.2.1).at 3 _ rfl
  have p4 := (H10.out.2.2.2.2.2.2.1).at 4 _ rfl
  have p5 := (H10.out.2.2.2.2.2.2.1).at 5 _ rfl
  go_wp2_with fail
  clear p0 p1 p2 p3 p4 p5
  refine (markClient_row i n q1 ws.length q2 cs.length q3 ss.length q4 ms.length 1 _ ⟨H10.out.2.2.1, H10.out.2.2.2.1, H10.out.2.2.2.2.1, H10.out.2.2.2.2.2.1⟩ ⟨by omega, by omega, by omega⟩ (by omega) (by omega) (by omega) (by omega) (by omega) (by omega)).mono ?_
  rintro r w11 ⟨rfl, g9⟩
  have H11 : Hid ((Below wL.heap.size wL w11) ∧ (Own4 w11 w5.heap.size (Value.slice ax00 X00.length cx00) (Value.slice ax01 X01.length cx01) (Value.slice ax02 X02.length cx02) (Value.slice ax03 X03.length cx03) X00 X01 X02 X03) ∧ (OwnS w11 w5.heap.size (Value.slice ax10 X10.length cx10) X10) ∧ (ABlk 32 w11 (w6.heap.size) #[.int .i64 I00, .int .i64 I01, Value.slice ax00 X00.length cx00, Value.slice ax01 X01.length cx01, Value.slice ax02 X02.length cx02, Value.slice ax03 X03.length cx03]) ∧ (ABlk 35 w11 (w6.heap.size + 1) #[.int .i64 I10, .int .i64 I11, .int .i64 I12, .int .i64 I13, Value.slice ax10 X10.length cx10])) := ⟨below_grl (H10.out.1) g9 (H10.out.1).size (fun k hk => by simp at hk; omega), (H10.out.2.2.2.2.2.2.2.1).grl g9 (fun k e => by have h7 := (H10.out.2.2.2.2.2.2.2.1).low k e; simp; omega), (H10.out.2.2.2.2.2.2.2.2.1).grl g9 (fun k e => by have h7 := (H10.out.2.2.2.2.2.2.2.2.1).low k e; simp; omega), (H10.out.2.2.2.2.2.2.2.2.2.1).grl g9 (by simp; omega), (H10.out.2.2.2.2.2.2.2.2.2.2).grl g9 (by simp; omega)⟩
  clear H10 g9
  have hm0 : ¬ (1 + 2 * (ws.length : Int) + 10 * (cs.length : Int) + 4 * (ss.length : Int) + 4 * (ms.length : Int)) < 0 := by omega
  have z0 := ((HL.out.2.2.1).later H11.out.1).at 0 _ rfl
  have z1 := ((HL.out.2.2.1).later H11.out.1).at 1 _ rfl
  have z2 := ((HL.out.2.2.1).later H11.out.1).at 2 _ rfl
  have z3 := ((HL.out.2.2.1).later H11.out.1).at 3 _ rfl
  have z4 := ((HL.out.2.2.1).later H11.out.1).at 4 _ rfl
  have z5 := ((HL.out.2.2.1).later H11.out.1).at 5 _ rfl
  have y0 := (H11.out.2.2.2.1).at 0 _ rfl
  have y1 := (H11.out.2.2.2.1).at 1 _ rfl
  have y2 := (H11.out.2.2.2.1).at 2 _ rfl
  have y3 := (H11.out.2.2.2.1).at 3 _ rfl
  have y4 := (H11.out.2.2.2.1).at 4 _ rfl
  have y5 := (H11.out.2.2.2.1).at 5 _ rfl
  go_wp2_with fail
  clear hm0 z0 z1 z2 z3 z4 z5 y0 y1 y2 y3 y4 y5
  refine (eqClient_same I00 I01 ax00 ax01 ax02 ax03 az00 az01 az02 az03 cx00 cx01 cx02 cx03 cz00 cz01 cz02 cz03 X00 X01 X02 X03 _ (⟨((H11.out.2.1)).o1.rowAt, ((H11.out.2.1)).o2.rowAt, ((H11.out.2.1)).o3.rowAt, ((H11.out.2.1)).o4.rowAt⟩) ((HL.out.2.2.2.2.1).later H11.out.1) hX0 hX1 hX2 hX3).mono ?_
  rintro r w12 ⟨rfl, b9⟩
  have H12 : Hid ((Below wL.heap.size wL w12) ∧ (Own4 w12 w5.heap.size (Value.slice ax00 X00.length cx00) (Value.slice ax01 X01.length cx01) (Value.slice ax02 X02.length cx02) (Value.slice ax03 X03.length cx03) X00 X01 X02 X03) ∧ (OwnS w12 w5.heap.size (Value.slice ax10 X10.length cx10) X10) ∧ (ABlk 32 w12 (w6.heap.size) #[.int .i64 I00, .int .i64 I01, Value.slice ax00 X00.length cx00, Value.slice ax01 X01.length cx01, Value.slice ax02 X02.length cx02, Value.slice ax03 X03.length cx03]) ∧ (ABlk 35 w12 (w6.heap.size + 1) #[.int .i64 I10, .int .i64 I11, .int .i64 I12, .int .i64 I13, Value.slice ax10 X10.length cx10])) := ⟨(H11.out.1).trans (b9.mono (H11.out.1).size), (H11.out.2.1).later b9, (H11.out.2.2.1).later b9, (H11.out.2.2.2.1).later b9, (H11.out.2.2.2.2).later b9⟩
  clear H11 b9
  have z0 := ((HL.out.2.2.2.1).later H12.out.1).at 0 _ rfl
  have z1 := ((HL.out.2.2.2.1).later H12.out.1).at 1 _ rfl
  have z2 := ((HL.out.2.2.2.1).later H12.out.1).at 2 _ rfl
  have z3 := ((HL.out.2.2.2.1).later H12.out.1).at 3 _ rfl
  have z4 := ((HL.out.2.2.2.1).later H12.out.1).at 4 _ rfl
  have y0 := (H12.out.2.2.2.2).at 0 _ rfl
  have y1 := (H12.out.2.2.2.2).at 1 _ rfl
  have y2 := (H12.out.2.2.2.2).at 2 _ rfl
  have y3 := (H12.out.2.2.2.2).at 3 _ rfl
  have y4 := (H12.out.2.2.2.2).at 4 _ rfl
  go_wp2_with fail
  clear z0 z1 z2 z3 z4 y0 y1 y2 y3 y4
  refine (eqMsg_same I10 I11 I12 I13 ax10 az10 cx10 cz10 X10 _ (OwnS.rowAt ((H12.out.2.2.1))) ((HL.out.2.2.2.2.2).later H12.out.1) hX4).mono ?_
  rintro r w13 ⟨rfl, b9⟩
  have H13 : Hid ((Below wL.heap.size wL w13) ∧ (Own4 w13 w5.heap.size (Value.slice ax00 X00.length cx00) (Value.slice ax01 X01.length cx01) (Value.slice ax02 X02.length cx02) (Value.slice ax03 X03.length cx03) X00 X01 X02 X03) ∧ (OwnS w13 w5.heap.size (Value.slice ax10 X10.length cx10) X10) ∧ (ABlk 32 w13 (w6.heap.size) #[.int .i64 I00, .int .i64 I01, Value.slice ax00 X00.length cx00, Value.slice ax01 X01.length cx01, Value.slice ax02 X02.length cx02, Value.slice ax03 X03.length cx03]) ∧ (ABlk 35 w13 (w6.heap.size + 1) #[.int .i64 I10, .int .i64 I11, .int .i64 I12, .int .i64 I13, Value.slice ax10 X10.length cx10])) := ⟨(H12.out.1).trans (b9.mono (H12.out.1).size), (H12.out.2.1).later b9, (H12.out.2.2.1).later b9, (H12.out.2.2.2.1).later b9, (H12.out.2.2.2.2).later b9⟩
  clear H12 b9
  have nd001 : Hid (∀ k, (Value.slice ax00 X00.length cx00).ownBlock = some k ∨ (Value.slice ax01 X01.length cx01).ownBlock = some k ∨ (Value.slice ax02 X02.length cx02).ownBlock = some k ∨ (Value.slice ax03 X03.length cx03).ownBlock = some k → some k ∉ [(Value.slice ax10 X10.length cx10).ownBlock]) := by
    intro k e
    simp only [List.mem_cons, List.not_mem_nil, or_false]
    rcases e with e | e | e | e
    · exact fun e2 => own_ne (((H13.out.2.1)).o1) ((H13.out.2.2.1)) (by decide) k e e2.symm
    · exact fun e2 => own_ne (((H13.out.2.1)).o2) ((H13.out.2.2.1)) (by decide) k e e2.symm
    · exact fun e2 => own_ne (((H13.out.2.1)).o3) ((H13.out.2.2.1)) (by decide) k e e2.symm
    · exact fun e2 => own_ne (((H13.out.2.1)).o4) ((H13.out.2.2.1)) (by decide) k e e2.symm
  have nd100 : Hid (∀ k, (Value.slice ax10 X10.length cx10).ownBlock = some k → some k ∉ [(Value.slice ax00 X00.length cx00).ownBlock, (Value.slice ax01 X01.length cx01).ownBlock, (Value.slice ax02 X02.length cx02).ownBlock, (Value.slice ax03 X03.length cx03).ownBlock]) := by
    intro k e
    simp only [List.mem_cons, List.not_mem_nil, or_false, not_or]
    exact ⟨fun e2 => own_ne ((H13.out.2.2.1)) (((H13.out.2.1)).o1) (by decide) k e e2.symm, fun e2 => own_ne ((H13.out.2.2.1)) (((H13.out.2.1)).o2) (by decide) k e e2.symm, fun e2 => own_ne ((H13.out.2.2.1)) (((H13.out.2.1)).o3) (by decide) k e e2.symm, fun e2 => own_ne ((H13.out.2.2.1)) (((H13.out.2.1)).o4) (by decide) k e e2.symm⟩
  have y0 := (H13.out.2.2.2.1).at 0 _ rfl
  have y1 := (H13.out.2.2.2.1).at 1 _ rfl
  have y2 := (H13.out.2.2.2.1).at 2 _ rfl
  have y3 := (H13.out.2.2.2.1).at 3 _ rfl
  have y4 := (H13.out.2.2.2.1).at 4 _ rfl
  have y5 := (H13.out.2.2.2.1).at 5 _ rfl
  go_wp2_with fail
  clear y0 y1 y2 y3 y4 y5
  refine (markClient_own I00 I01 (1) (H13.out.2.1) hX0 hX1 hX2 hX3 (by omega) (by omega)).mono ?_
  rintro r w14 ⟨rfl, g9, m9⟩
  have H14 : Hid ((Below wL.heap.size wL w14) ∧ (OwnS w14 w5.heap.size (Value.slice ax10 X10.length cx10) X10) ∧ (ABlk 32 w14 (w6.heap.size) #[.int .i64 I00, .int .i64 I01, Value.slice ax00 X00.length cx00, Value.slice ax01 X01.length cx01, Value.slice ax02 X02.length cx02, Value.slice ax03 X03.length cx03]) ∧ (ABlk 35 w14 (w6.heap.size + 1) #[.int .i64 I10, .int .i64 I11, .int .i64 I12, .int .i64 I13, Value.slice ax10 X10.length cx10]) ∧ (Mk4 w14 (Value.slice ax00 X00.length cx00) (Value.slice ax01 X01.length cx01) (Value.slice ax02 X02.length cx02) (Value.slice ax03 X03.length cx03) X00.length X01.length X02.length X03.length (1))) := ⟨below_grl (H13.out.1) g9 (H13.out.1).size (fun k hk => by simp only [List.mem_cons, List.not_mem_nil, or_false] at hk; have h7 := ((H13.out.2.1)).low k (by simpa [eq_comm] using hk); have h8 := (H13.out.1).size; omega), (H13.out.2.2.1).grl g9 nd100.out, (H13.out.2.2.2.1).grl g9 (by simp only [List.mem_cons, List.not_mem_nil, or_false, not_or]; exact ⟨fun e => own_off (H13.out.2.2.2.1) (((H13.out.2.1)).o1) (by decide) e.symm, fun e => own_off (H13.out.2.2.2.1) (((H13.out.2.1)).o2) (by decide) e.symm, fun e => own_off (H13.out.2.2.2.1) (((H13.out.2.1)).o3) (by decide) e.symm, fun e => own_off (H13.out.2.2.2.1) (((H13.out.2.1)).o4) (by decide) e.symm⟩), (H13.out.2.2.2.2).grl g9 (by simp only [List.mem_cons, List.not_mem_nil, or_false, not_or]; exact ⟨fun e => own_off (H13.out.2.2.2.2) (((H13.out.2.1)).o1) (by decide) e.symm, fun e => own_off (H13.out.2.2.2.2) (((H13.out.2.1)).o2) (by decide) e.symm, fun e => own_off (H13.out.2.2.2.2) (((H13.out.2.1)).o3) (by decide) e.symm, fun e => own_off (H13.out.2.2.2.2) (((H13.out.2.1)).o4) (by decide) e.symm⟩), m9⟩
  clear H13 g9 m9
  have y0 := (H14.out.2.2.2.1).at 0 _ rfl
  have y1 := (H14.out.2.2.2.1).at 1 _ rfl
  have y2 := (H14.out.2.2.2.1).at 2 _ rfl
  have y3 := (H14.out.2.2.2.1).at 3 _ rfl
  have y4 := (H14.out.2.2.2.1).at 4 _ rfl
  go_wp2_with fail
  clear y0 y1 y2 y3 y4
  refine (markMsg_own2 I10 I11 I12 I13 (1 + 2 * (X00.length : Int) + 10 * (X01.length : Int) + 4 * (X02.length : Int) + 4 * (X03.length : Int)) (H14.out.2.1) hX4 (by omega) (by omega)).mono ?_
  rintro r w15 ⟨rfl, g9, m9⟩
  replace g9 := GrL.of g9
  have H15 : Hid ((Below wL.heap.size wL w15) ∧ (ABlk 32 w15 (w6.heap.size) #[.int .i64 I00, .int .i64 I01, Value.slice ax00 X00.length cx00, Value.slice ax01 X01.length cx01, Value.slice ax02 X02.length cx02, Value.slice ax03 X03.length cx03]) ∧ (ABlk 35 w15 (w6.heap.size + 1) #[.int .i64 I10, .int .i64 I11, .int .i64 I12, .int .i64 I13, Value.slice ax10 X10.length cx10]) ∧ (Mk4 w15 (Value.slice ax00 X00.length cx00) (Value.slice ax01 X01.length cx01) (Value.slice ax02 X02.length cx02) (Value.slice ax03 X03.length cx03) X00.length X01.length X02.length X03.length (1)) ∧ (Mk7 w15 (Value.slice ax10 X10.length cx10) X10.length (1 + 2 * (X00.length : Int) + 10 * (X01.length : Int) + 4 * (X02.length : Int) + 4 * (X03.length : Int)))) := ⟨below_grl (H14.out.1) g9 (H14.out.1).size (fun k hk => by simp only [List.mem_cons, List.not_mem_nil, or_false] at hk; have h7 := ((H14.out.2.1)).low k (by simpa [eq_comm] using hk); have h8 := (H14.out.1).size; omega), (H14.out.2.2.1).grl g9 (by simp only [List.mem_cons, List.not_mem_nil, or_false]; exact fun e => own_off (H14.out.2.2.1) ((H14.out.2.1)) (by decide) e.symm), (H14.out.2.2.2.1).grl g9 (by simp only [List.mem_cons, List.not_mem_nil, or_false]; exact fun e => own_off (H14.out.2.2.2.1) ((H14.out.2.1)) (by decide) e.symm), (H14.out.2.2.2.2).grl g9 nd001.out, m9⟩
  clear H14 g9 m9
  clear nd001 nd100
  have hk0 : ¬ (1 + 2 * (X00.length : Int) + 10 * (X01.length : Int) + 4 * (X02.length : Int) + 4 * (X03.length : Int)) < 0 := by omega
  have hk1 : ¬ (1 + 2 * (X00.length : Int) + 10 * (X01.length : Int) + 4 * (X02.length : Int) + 4 * (X03.length : Int) + 7 * (X10.length : Int)) < 0 := by omega
  have y0 := (H15.out.2.1).at 0 _ rfl
  have y1 := (H15.out.2.1).at 1 _ rfl
  have y2 := (H15.out.2.1).at 2 _ rfl
  have y3 := (H15.out.2.1).at 3 _ rfl
  have y4 := (H15.out.2.1).at 4 _ rfl
  have y5 := (H15.out.2.1).at 5 _ rfl
  go_wp2_with fail
  clear y0 y1 y2 y3 y4 y5
  refine (heldClient_own I00 I01 (1) (H15.out.2.2.2.1) hX0 hX1 hX2 hX3 (by omega) (by omega)).mono ?_
  rintro r w16 ⟨rfl, b9⟩
  have H16 : Hid ((Below wL.heap.size wL w16) ∧ (ABlk 32 w16 (w6.heap.size) #[.int .i64 I00, .int .i64 I01, Value.slice ax00 X00.length cx00, Value.slice ax01 X01.length cx01, Value.slice ax02 X02.length cx02, Value.slice ax03 X03.length cx03]) ∧ (ABlk 35 w16 (w6.heap.size + 1) #[.int .i64 I10, .int .i64 I11, .int .i64 I12, .int .i64 I13, Value.slice ax10 X10.length cx10]) ∧ (Mk4 w16 (Value.slice ax00 X00.length cx00) (Value.slice ax01 X01.length cx01) (Value.slice ax02 X02.length cx02) (Value.slice ax03 X03.length cx03) X00.length X01.length X02.length X03.length (1)) ∧ (Mk7 w16 (Value.slice ax10 X10.length cx10) X10.length (1 + 2 * (X00.length : Int) + 10 * (X01.length : Int) + 4 * (X02.length : Int) + 4 * (X03.length : Int)))) := ⟨(H15.out.1).trans (b9.mono (H15.out.1).size), (H15.out.2.1).later b9, (H15.out.2.2.1).later b9, (H15.out.2.2.2.1).later b9, (H15.out.2.2.2.2).later b9⟩
  clear H15 b9
  have y0 := (H16.out.2.2.1).at 0 _ rfl
  have y1 := (H16.out.2.2.1).at 1 _ rfl
  have y2 := (H16.out.2.2.1).at 2 _ rfl
  have y3 := (H16.out.2.2.1).at 3 _ rfl
  have y4 := (H16.out.2.2.1).at 4 _ rfl
  go_wp2_with fail
  clear y0 y1 y2 y3 y4
  refine (heldMsg_own I10 I11 I12 I13 (1 + 2 * (X00.length : Int) + 10 * (X01.length : Int) + 4 * (X02.length : Int) + 4 * (X03.length : Int)) (H16.out.2.2.2.2) hX4 (by omega) (by omega)).mono ?_
  rintro r w17 ⟨rfl, b9⟩
  have H17 : Hid ((Below wL.heap.size wL w17) ∧ (ABlk 32 w17 (w6.heap.size) #[.int .i64 I00, .int .i64 I01, Value.slice ax00 X00.length cx00, Value.slice ax01 X01.length cx01, Value.slice ax02 X02.length cx02, Value.slice ax03 X03.length cx03]) ∧ (ABlk 35 w17 (w6.heap.size + 1) #[.int .i64 I10, .int .i64 I11, .int .i64 I12, .int .i64 I13, Value.slice ax10 X10.length cx10]) ∧ (Mk4 w17 (Value.slice ax00 X00.length cx00) (Value.slice ax01 X01.length cx01) (Value.slice ax02 X02.length cx02) (Value.slice ax03 X03.length cx03) X00.length X01.length X02.length X03.length (1)) ∧ (Mk7 w17 (Value.slice ax10 X10.length cx10) X10.length (1 + 2 * (X00.length : Int) + 10 * (X01.length : Int) + 4 * (X02.length : Int) + 4 * (X03.length : Int)))) := ⟨(H16.out.1).trans (b9.mono (H16.out.1).size), (H16.out.2.1).later b9, (H16.out.2.2.1).later b9, (H16.out.2.2.2.1).later b9, (H16.out.2.2.2.2).later b9⟩
  clear H16 b9
  have L9 := ((HL.out.1).later H17.out.1).lt
  have p0 := ((HL.out.1).later H17.out.1).at 0 _ rfl
  have p1 := ((HL.out.1).later H17.out.1).at 1 _ rfl
  have p2 := ((HL.out.1).later H17.out.1).at 2 _ rfl
  have p3 := ((HL.out.1).later H17.out.1).at 3 _ rfl
  have p4 := ((HL.out.1).later H17.out.1).at 4 _ rfl
  have p5 := ((HL.out.1).later H17.out.1).at 5 _ rfl
  go_wp2_with fail
  clear L9 p0 p1 p2 p3 p4 p5
  refine (toClient_any i n a1 a2 a3 a4 c1 c2 c3 c4 ws cs ss ms _ ((JA.out).later ((HL.out.2.1).trans ((H17.out.1).mono (HL.out.2.1).size))) x1 x2 x3 x4).mono ?_
  rintro r w18 ⟨t1, t2, t3, t4, rfl, _, f0, _, b9⟩
  have H18 : Hid ((Below wL.heap.size wL w18) ∧ (ABlk 32 w18 (w6.heap.size) #[.int .i64 I00, .int .i64 I01, Value.slice ax00 X00.length cx00, Value.slice ax01 X01.length cx01, Value.slice ax02 X02.length cx02, Value.slice ax03 X03.length cx03]) ∧ (ABlk 35 w18 (w6.heap.size + 1) #[.int .i64 I10, .int .i64 I11, .int .i64 I12, .int .i64 I13, Value.slice ax10 X10.length cx10]) ∧ (Mk4 w18 (Value.slice ax00 X00.length cx00) (Value.slice ax01 X01.length cx01) (Value.slice ax02 X02.length cx02) (Value.slice ax03 X03.length cx03) X00.length X01.length X02.length X03.length (1)) ∧ (Mk7 w18 (Value.slice ax10 X10.length cx10) X10.length (1 + 2 * (X00.length : Int) + 10 * (X01.length : Int) + 4 * (X02.length : Int) + 4 * (X03.length : Int))) ∧ (CRows w18 (some ⟨t1, 0, none⟩) (some ⟨t2, 0, none⟩) (some ⟨t3, 0, none⟩) (some ⟨t4, 0, none⟩) ws cs ss ms)) := ⟨(H17.out.1).trans (b9.mono (H17.out.1).size), (H17.out.2.1).later b9, (H17.out.2.2.1).later b9, (H17.out.2.2.2.1).later b9, (H17.out.2.2.2.2).later b9, f0⟩
  clear H17 b9 f0
  go_wp2_with fail
  refine (HI.out t1 t2 t3 t4 _ (H18.out.2.2.2.2.2) x1 x2 x3 x4).mono ?_
  rintro r w19 ⟨ah00, ch00, ah01, ch01, ah02, ch02, ah03, ch03, ah10, ch10, rfl, o0, o1, b9⟩
  have H19 : Hid ((Below wL.heap.size wL w19) ∧ (ABlk 32 w19 (w6.heap.size) #[.int .i64 I00, .int .i64 I01, Value.slice ax00 X00.length cx00, Value.slice ax01 X01.length cx01, Value.slice ax02 X02.length cx02, Value.slice ax03 X03.length cx03]) ∧ (ABlk 35 w19 (w6.heap.size + 1) #[.int .i64 I10, .int .i64 I11, .int .i64 I12, .int .i64 I13, Value.slice ax10 X10.length cx10]) ∧ (Mk4 w19 (Value.slice ax00 X00.length cx00) (Value.slice ax01 X01.length cx01) (Value.slice ax02 X02.length cx02) (Value.slice ax03 X03.length cx03) X00.length X01.length X02.length X03.length (1)) ∧ (Mk7 w19 (Value.slice ax10 X10.length cx10) X10.length (1 + 2 * (X00.length : Int) + 10 * (X01.length : Int) + 4 * (X02.length : Int) + 4 * (X03.length : Int))) ∧ (CRows w19 ah00 ah01 ah02 ah03 X00 X01 X02 X03) ∧ (SRow w19 ah10 X10)) := ⟨(H18.out.1).trans (b9.mono (H18.out.1).size), (H18.out.2.1).later b9, (H18.out.2.2.1).later b9, (H18.out.2.2.2.1).later b9, (H18.out.2.2.2.2.1).later b9, ⟨(o0).o1.rowAt, (o0).o2.rowAt, (o0).o3.rowAt, (o0).o4.rowAt⟩, OwnS.rowAt (o1)⟩
  clear H18 b9 o0 o1
  have L9 := ((HL.out.2.2.1).later H19.out.1).lt
  have z0 := ((HL.out.2.2.1).later H19.out.1).at 0 _ rfl
  have z1 := ((HL.out.2.2.1).later H19.out.1).at 1 _ rfl
  have z2 := ((HL.out.2.2.1).later H19.out.1).at 2 _ rfl
  have z3 := ((HL.out.2.2.1).later H19.out.1).at 3 _ rfl
  have z4 := ((HL.out.2.2.1).later H19.out.1).at 4 _ rfl
  have z5 := ((HL.out.2.2.1).later H19.out.1).at 5 _ rfl
  go_wp2_with fail
  clear L9 z0 z1 z2 z3 z4 z5
  obtain ⟨w20, hw9⟩ : ∃ w9, w9 = ((w19.alloc (.cells #[.int .i64 I00, .int .i64 I01, Value.slice ah00 X00.length ch00, Value.slice ah01 X01.length ch01, Value.slice ah02 X02.length ch02, Value.slice ah03 X03.length ch03] 32)).alloc (.cells #[.int .i64 I10, .int .i64 I11, .int .i64 I12, .int .i64 I13, Value.slice ah10 X10.length ch10] 35)) := ⟨_, rfl⟩
  have b9 : Below w19.heap.size w19 w20 := by
    rw [hw9]
    exact (Below.alloc_ _ _).trans ((Below.alloc_ _ _).mono (by simp))
  have k0 : ABlk 32 w20 (w19.heap.size) #[.int .i64 I00, .int .i64 I01, Value.slice ah00 X00.length ch00, Value.slice ah01 X01.length ch01, Value.slice ah02 X02.length ch02, Value.slice ah03 X03.length ch03] := by
    rw [hw9]
    exact (ABlk.new _ _ _).later (Below.alloc_ _ _)
  have k1 : ABlk 35 w20 (w19.heap.size + 1) #[.int .i64 I10, .int .i64 I11, .int .i64 I12, .int .i64 I13, Value.slice ah10 X10.length ch10] := by
    rw [hw9]
    have e := ABlk.new (w19.alloc (.cells #[.int .i64 I00, .int .i64 I01, Value.slice ah00 X00.length ch00, Value.slice ah01 X01.length ch01, Value.slice ah02 X02.length ch02, Value.slice ah03 X03.length ch03] 32)) 35 #[.int .i64 I10, .int .i64 I11, .int .i64 I12, .int .i64 I13, Value.slice ah10 X10.length ch10]
    rw [World.size_alloc] at e
    exact e
  rw [← hw9]
  clear hw9
  have H20 : Hid ((Below wL.heap.size wL w20) ∧ (ABlk 32 w20 (w6.heap.size) #[.int .i64 I00, .int .i64 I01, Value.slice ax00 X00.length cx00, Value.slice ax01 X01.length cx01, Value.slice ax02 X02.length cx02, Value.slice ax03 X03.length cx03]) ∧ (ABlk 35 w20 (w6.heap.size + 1) #[.int .i64 I10, .int .i64 I11, .int .i64 I12, .int .i64 I13, Value.slice ax10 X10.length cx10]) ∧ (Mk4 w20 (Value.slice ax00 X00.length cx00) (Value.slice ax01 X01.length cx01) (Value.slice ax02 X02.length cx02) (Value.slice ax03 X03.length cx03) X00.length X01.length X02.length X03.length (1)) ∧ (Mk7 w20 (Value.slice ax10 X10.length cx10) X10.length (1 + 2 * (X00.length : Int) + 10 * (X01.length : Int) + 4 * (X02.length : Int) + 4 * (X03.length : Int))) ∧ (CRows w20 ah00 ah01 ah02 ah03 X00 X01 X02 X03) ∧ (SRow w20 ah10 X10) ∧ (ABlk 32 w20 (w19.heap.size) #[.int .i64 I00, .int .i64 I01, Value.slice ah00 X00.length ch00, Value.slice ah01 X01.length ch01, Value.slice ah02 X02.length ch02, Value.slice ah03 X03.length ch03]) ∧ (ABlk 35 w20 (w19.heap.size + 1) #[.int .i64 I10, .int .i64 I11, .int .i64 I12, .int .i64 I13, Value.slice ah10 X10.length ch10])) := ⟨(H19.out.1).trans (b9.mono (H19.out.1).size), (H19.out.2.1).later b9, (H19.out.2.2.1).later b9, (H19.out.2.2.2.1).later b9, (H19.out.2.2.2.2.1).later b9, (H19.out.2.2.2.2.2.1).later b9, (H19.out.2.2.2.2.2.2).later b9, k0, k1⟩
  clear H19 b9 k0 k1
  refine (eqClient_same I00 I01 ah00 ah01 ah02 ah03 az00 az01 az02 az03 ch00 ch01 ch02 ch03 cz00 cz01 cz02 cz03 X00 X01 X02 X03 _ ((H20.out.2.2.2.2.2.1)) ((HL.out.2.2.2.2.1).later H20.out.1) hX0 hX1 hX2 hX3).mono ?_
  rintro r w21 ⟨rfl, b9⟩
  have H21 : Hid ((Below wL.heap.size wL w21) ∧ (ABlk 32 w21 (w6.heap.size) #[.int .i64 I00, .int .i64 I01, Value.slice ax00 X00.length cx00, Value.slice ax01 X01.length cx01, Value.slice ax02 X02.length cx02, Value.slice ax03 X03.length cx03]) ∧ (ABlk 35 w21 (w6.heap.size + 1) #[.int .i64 I10, .int .i64 I11, .int .i64 I12, .int .i64 I13, Value.slice ax10 X10.length cx10]) ∧ (Mk4 w21 (Value.slice ax00 X00.length cx00) (Value.slice ax01 X01.length cx01) (Value.slice ax02 X02.length cx02) (Value.slice ax03 X03.length cx03) X00.length X01.length X02.length X03.length (1)) ∧ (Mk7 w21 (Value.slice ax10 X10.length cx10) X10.length (1 + 2 * (X00.length : Int) + 10 * (X01.length : Int) + 4 * (X02.length : Int) + 4 * (X03.length : Int))) ∧ (CRows w21 ah00 ah01 ah02 ah03 X00 X01 X02 X03) ∧ (SRow w21 ah10 X10) ∧ (ABlk 32 w21 (w19.heap.size) #[.int .i64 I00, .int .i64 I01, Value.slice ah00 X00.length ch00, Value.slice ah01 X01.length ch01, Value.slice ah02 X02.length ch02, Value.slice ah03 X03.length ch03]) ∧ (ABlk 35 w21 (w19.heap.size + 1) #[.int .i64 I10, .int .i64 I11, .int .i64 I12, .int .i64 I13, Value.slice ah10 X10.length ch10])) := ⟨(H20.out.1).trans (b9.mono (H20.out.1).size), (H20.out.2.1).later b9, (H20.out.2.2.1).later b9, (H20.out.2.2.2.1).later b9, (H20.out.2.2.2.2.1).later b9, (H20.out.2.2.2.2.2.1).later b9, (H20.out.2.2.2.2.2.2.1).later b9, (H20.out.2.2.2.2.2.2.2.1).later b9, (H20.out.2.2.2.2.2.2.2.2).later b9⟩
  clear H20 b9
  have z0 := ((HL.out.2.2.2.1).later H21.out.1).at 0 _ rfl
  have z1 := ((HL.out.2.2.2.1).later H21.out.1).at 1 _ rfl
  have z2 := ((HL.out.2.2.2.1).later H21.out.1).at 2 _ rfl
  have z3 := ((HL.out.2.2.2.1).later H21.out.1).at 3 _ rfl
  have z4 := ((HL.out.2.2.2.1).later H21.out.1).at 4 _ rfl
  have y0 := (H21.out.2.2.2.2.2.2.2.2).at 0 _ rfl
  have y1 := (H21.out.2.2.2.2.2.2.2.2).at 1 _ rfl
  have y2 := (H21.out.2.2.2.2.2.2.2.2).at 2 _ rfl
  have y3 := (H21.out.2.2.2.2.2.2.2.2).at 3 _ rfl
  have y4 := (H21.out.2.2.2.2.2.2.2.2).at 4 _ rfl
  go_wp2_with fail
  clear z0 z1 z2 z3 z4 y0 y1 y2 y3 y4
  refine (eqMsg_same I10 I11 I12 I13 ah10 az10 ch10 cz10 X10 _ ((H21.out.2.2.2.2.2.2.1)) ((HL.out.2.2.2.2.2).later H21.out.1) hX4).mono ?_
  rintro r w22 ⟨rfl, b9⟩
  have H22 : Hid ((Below wL.heap.size wL w22) ∧ (ABlk 32 w22 (w6.heap.size) #[.int .i64 I00, .int .i64 I01, Value.slice ax00 X00.length cx00, Value.slice ax01 X01.length cx01, Value.slice ax02 X02.length cx02, Value.slice ax03 X03.length cx03]) ∧ (ABlk 35 w22 (w6.heap.size + 1) #[.int .i64 I10, .int .i64 I11, .int .i64 I12, .int .i64 I13, Value.slice ax10 X10.length cx10]) ∧ (Mk4 w22 (Value.slice ax00 X00.length cx00) (Value.slice ax01 X01.length cx01) (Value.slice ax02 X02.length cx02) (Value.slice ax03 X03.length cx03) X00.length X01.length X02.length X03.length (1)) ∧ (Mk7 w22 (Value.slice ax10 X10.length cx10) X10.length (1 + 2 * (X00.length : Int) + 10 * (X01.length : Int) + 4 * (X02.length : Int) + 4 * (X03.length : Int))) ∧ (CRows w22 ah00 ah01 ah02 ah03 X00 X01 X02 X03) ∧ (SRow w22 ah10 X10) ∧ (ABlk 32 w22 (w19.heap.size) #[.int .i64 I00, .int .i64 I01, Value.slice ah00 X00.length ch00, Value.slice ah01 X01.length ch01, Value.slice ah02 X02.length ch02, Value.slice ah03 X03.length ch03]) ∧ (ABlk 35 w22 (w19.heap.size + 1) #[.int .i64 I10, .int .i64 I11, .int .i64 I12, .int .i64 I13, Value.slice ah10 X10.length ch10])) := ⟨(H21.out.1).trans (b9.mono (H21.out.1).size), (H21.out.2.1).later b9, (H21.out.2.2.1).later b9, (H21.out.2.2.2.1).later b9, (H21.out.2.2.2.2.1).later b9, (H21.out.2.2.2.2.2.1).later b9, (H21.out.2.2.2.2.2.2.1).later b9, (H21.out.2.2.2.2.2.2.2.1).later b9, (H21.out.2.2.2.2.2.2.2.2).later b9⟩
  clear H21 b9
  have y0 := (H22.out.2.1).at 0 _ rfl
  have y1 := (H22.out.2.1).at 1 _ rfl
  have y2 := (H22.out.2.1).at 2 _ rfl
  have y3 := (H22.out.2.1).at 3 _ rfl
  have y4 := (H22.out.2.1).at 4 _ rfl
  have y5 := (H22.out.2.1).at 5 _ rfl
  go_wp2_with fail
  clear y0 y1 y2 y3 y4 y5
  refine (heldClient_own I00 I01 (1) (H22.out.2.2.2.1) hX0 hX1 hX2 hX3 (by omega) (by omega)).mono ?_
  rintro r w23 ⟨rfl, b9⟩
  have H23 : Hid ((Below wL.heap.size wL w23) ∧ (ABlk 32 w23 (w6.heap.size) #[.int .i64 I00, .int .i64 I01, Value.slice ax00 X00.length cx00, Value.slice ax01 X01.length cx01, Value.slice ax02 X02.length cx02, Value.slice ax03 X03.length cx03]) ∧ (ABlk 35 w23 (w6.heap.size + 1) #[.int .i64 I10, .int .i64 I11, .int .i64 I12, .int .i64 I13, Value.slice ax10 X10.length cx10]) ∧ (Mk4 w23 (Value.slice ax00 X00.length cx00) (Value.slice ax01 X01.length cx01) (Value.slice ax02 X02.length cx02) (Value.slice ax03 X03.length cx03) X00.length X01.length X02.length X03.length (1)) ∧ (Mk7 w23 (Value.slice ax10 X10.length cx10) X10.length (1 + 2 * (X00.length : Int) + 10 * (X01.length : Int) + 4 * (X02.length : Int) + 4 * (X03.length : Int))) ∧ (CRows w23 ah00 ah01 ah02 ah03 X00 X01 X02 X03) ∧ (SRow w23 ah10 X10) ∧ (ABlk 32 w23 (w19.heap.size) #[.int .i64 I00, .int .i64 I01, Value.slice ah00 X00.length ch00, Value.slice ah01 X01.length ch01, Value.slice ah02 X02.length ch02, Value.slice ah03 X03.length ch03]) ∧ (ABlk 35 w23 (w19.heap.size + 1) #[.int .i64 I10, .int .i64 I11, .int .i64 I12, .int .i64 I13, Value.slice ah10 X10.length ch10])) := ⟨(H22.out.1).trans (b9.mono (H22.out.1).size), (H22.out.2.1).later b9, (H22.out.2.2.1).later b9, (H22.out.2.2.2.1).later b9, (H22.out.2.2.2.2.1).later b9, (H22.out.2.2.2.2.2.1).later b9, (H22.out.2.2.2.2.2.2.1).later b9, (H22.out.2.2.2.2.2.2.2.1).later b9, (H22.out.2.2.2.2.2.2.2.2).later b9⟩
  clear H22 b9
  have y0 := (H23.out.2.2.1).at 0 _ rfl
  have y1 := (H23.out.2.2.1).at 1 _ rfl
  have y2 := (H23.out.2.2.1).at 2 _ rfl
  have y3 := (H23.out.2.2.1).at 3 _ rfl
  have y4 := (H23.out.2.2.1).at 4 _ rfl
  go_wp2_with fail
  clear y0 y1 y2 y3 y4
  refine (heldMsg_own I10 I11 I12 I13 (1 + 2 * (X00.length : Int) + 10 * (X01.length : Int) + 4 * (X02.length : Int) + 4 * (X03.length : Int)) (H23.out.2.2.2.2.1) hX4 (by omega) (by omega)).mono ?_
  rintro r w24 ⟨rfl, b9⟩
  have H24 : Hid ((Below wL.heap.size wL w24) ∧ (ABlk 32 w24 (w6.heap.size) #[.int .i64 I00, .int .i64 I01, Value.slice ax00 X00.length cx00, Value.slice ax01 X01.length cx01, Value.slice ax02 X02.length cx02, Value.slice ax03 X03.length cx03]) ∧ (ABlk 35 w24 (w6.heap.size + 1) #[.int .i64 I10, .int .i64 I11, .int .i64 I12, .int .i64 I13, Value.slice ax10 X10.length cx10]) ∧ (Mk4 w24 (Value.slice ax00 X00.length cx00) (Value.slice ax01 X01.length cx01) (Value.slice ax02 X02.length cx02) (Value.slice ax03 X03.length cx03) X00.length X01.length X02.length X03.length (1)) ∧ (Mk7 w24 (Value.slice ax10 X10.length cx10) X10.length (1 + 2 * (X00.length : Int) + 10 * (X01.length : Int) + 4 * (X02.length : Int) + 4 * (X03.length : Int))) ∧ (CRows w24 ah00 ah01 ah02 ah03 X00 X01 X02 X03) ∧ (SRow w24 ah10 X10) ∧ (ABlk 32 w24 (w19.heap.size) #[.int .i64 I00, .int .i64 I01, Value.slice ah00 X00.length ch00, Value.slice ah01 X01.length ch01, Value.slice ah02 X02.length ch02, Value.slice ah03 X03.length ch03]) ∧ (ABlk 35 w24 (w19.heap.size + 1) #[.int .i64 I10, .int .i64 I11, .int .i64 I12, .int .i64 I13, Value.slice ah10 X10.length ch10])) := ⟨(H23.out.1).trans (b9.mono (H23.out.1).size), (H23.out.2.1).later b9, (H23.out.2.2.1).later b9, (H23.out.2.2.2.1).later b9, (H23.out.2.2.2.2.1).later b9, (H23.out.2.2.2.2.2.1).later b9, (H23.out.2.2.2.2.2.2.1).later b9, (H23.out.2.2.2.2.2.2.2.1).later b9, (H23.out.2.2.2.2.2.2.2.2).later b9⟩
  clear H23 b9
  have HE : Hid (Below w.heap.size w w24) := (HL.out.2.1).trans ((H24.out.1).mono (HL.out.2.1).size)
  clear H24 HL
  go_wp2_with fail
  go_ret
  exact ⟨rfl, HE.out⟩

end Go.Proofs.Ythkngdbhddedpaa
