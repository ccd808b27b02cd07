/-
  The law on ServHear, walked, whatever the two functions answer.
-/
import Derived.Test.YtghajmfjekfdpaaDoorExLaw
import Derived.Test.YtghajmfjekfdpaaDoorServTo
import Derived.Test.YtghajmfjekfdpaaDoorMsgJ
import Derived.Test.YtghajmfjekfdpaaDoorSvCallI
import Derived.Test.YtghajmfjekfdpaaDoorStJ
import Derived.Deep.DeepCutAuto
import Derived.Deep.CutBlock
namespace Go.Proofs.YtghajmfjekfdpaaDoor
open Go.RowKit
attribute [local go_sem ↓] Go.wp_at_zero Go.wp_at_succ

/-- What is known on the way through a region that copies both, calls, and keeps what it is answered. -/
structure RgServHear (w0 : World) (i s9 : Int) (m cl sv nc : Int) (a1 a2 a3 : Option Addr) (c1 c2 c3 : Nat) (xs : List Sl) (ts : List Ca) (ys : List Sl) (now : Int) (I00 I01 : Int) (X00 : List Sl) (X01 : List Ca) (I10 I11 I12 I13 : Int) (X10 : List Sl) (T : Bool) (t0 t1 t2 t3 t4 t5 t6 t7 t8 t9 t10 t11 t14 : Nat) (d : Nat → Bool) (s : Nat → Value) (w : World) : Prop where
  bel : Below w0.heap.size w0 w
  f0 : d 0 = true → s t0 = Value.agg #[.int .i64 i, .int .i64 s9, Value.slice a1 xs.length c1, Value.slice a2 ts.length c2]
  f1 : d 12 = false → d 1 = true → ∃ g1 g2, s t1 = Value.agg #[.int .i64 i, .int .i64 s9, Value.slice (some ⟨g1, 0, none⟩) xs.length xs.length, Value.slice (some ⟨g2, 0, none⟩) ts.length ts.length] ∧ SRow w (some ⟨g1, 0, none⟩) xs ∧ NRow celC w (some ⟨g2, 0, none⟩) ts
  f2 : d 2 = true → s t2 = Value.agg #[.int .i64 m, .int .i64 cl, .int .i64 sv, .int .i64 nc, Value.slice a3 ys.length c3]
  f3 : d 12 = false → d 3 = true → ∃ g3, s t3 = Value.agg #[.int .i64 m, .int .i64 cl, .int .i64 sv, .int .i64 nc, Value.slice (some ⟨g3, 0, none⟩) ys.length ys.length] ∧ SRow w (some ⟨g3, 0, none⟩) ys
  f4 : d 4 = true → s t4 = Value.int .i64 now
  f5 : d 12 = false → d 5 = true → ∃ b00 e00 b01 e01 b10 e10 E0 E1, s t5 = (Value.tuple #[.agg #[.int .i64 I00, .int .i64 I01, Value.slice b00 X00.length e00, Value.slice b01 X01.length e01], .agg #[.int .i64 I10, .int .i64 I11, .int .i64 I12, .int .i64 I13, Value.slice b10 X10.length e10], .bool T]) ∧ OwnS w E0 (Value.slice b00 X00.length e00) X00 ∧ OwnN celC 90 w E0 (Value.slice b01 X01.length e01) X01 ∧ OwnS w E1 (Value.slice b10 X10.length e10) X10
  f6 : d 6 = true → ∃ b00 e00 b01 e01 b10 e10 E0 E1, s t6 = (Value.tuple #[.agg #[.int .i64 I00, .int .i64 I01, Value.slice b00 X00.length e00, Value.slice b01 X01.length e01], .agg #[.int .i64 I10, .int .i64 I11, .int .i64 I12, .int .i64 I13, Value.slice b10 X10.length e10], .bool T]) ∧ OwnS w E0 (Value.slice b00 X00.length e00) X00 ∧ OwnN celC 90 w E0 (Value.slice b01 X01.length e01) X01 ∧ OwnS w E1 (Value.slice b10 X10.length e10) X10
  f7 : d 7 = true → ∃ b00 e00 b01 e01 E0, s t7 = Value.agg #[.int .i64 I00, .int .i64 I01, Value.slice b00 X00.length e00, Value.slice b01 X01.length e01] ∧ OwnS w E0 (Value.slice b00 X00.length e00) X00 ∧ OwnN celC 90 w E0 (Value.slice b01 X01.length e01) X01
  f8 : d 8 = true → ∃ b10 e10 E1, s t8 = Value.agg #[.int .i64 I10, .int .i64 I11, .int .i64 I12, .int .i64 I13, Value.slice b10 X10.length e10] ∧ OwnS w E1 (Value.slice b10 X10.length e10) X10
  f9 : d 9 = true → s t9 = Value.bool T
  f10 : d 10 = true → ∃ q, s t10 = .pointer (some ⟨q, 0, none⟩) ∧ w0.heap.size ≤ q ∧ (d 12 = false → ABlk 49 w q #[.int .i64 0, .int .i64 0, Value.slice none 0 0, Value.slice none 0 0]) ∧ (d 12 = true → ∃ b00 e00 b01 e01 E0, ABlk 49 w q #[.int .i64 I00, .int .i64 I01, Value.slice b00 X00.length e00, Value.slice b01 X01.length e01] ∧ OwnS w E0 (Value.slice b00 X00.length e00) X00 ∧ OwnN celC 90 w E0 (Value.slice b01 X01.length e01) X01)
  f11 : d 11 = true → ∃ q, s t11 = .pointer (some ⟨q, 0, none⟩) ∧ w0.heap.size ≤ q ∧ (d 13 = false → ABlk 33 w q #[.int .i64 0, .int .i64 0, .int .i64 0, .int .i64 0, Value.slice none 0 0]) ∧ (d 13 = true → ∃ b10 e10 E1, ABlk 33 w q #[.int .i64 I10, .int .i64 I11, .int .i64 I12, .int .i64 I13, Value.slice b10 X10.length e10] ∧ OwnS w E1 (Value.slice b10 X10.length e10) X10)
  f14 : d 14 = true → s t14 = Value.bool T
theorem RgServHear.later {w0 : World} {i s9 : Int} {m cl sv nc : Int} {a1 a2 a3 : Option Addr} {c1 c2 c3 : Nat} {xs : List Sl} {ts : List Ca} {ys : List Sl} {now : Int} {I00 I01 : Int} {X00 : List Sl} {X01 : List Ca} {I10 I11 I12 I13 : Int} {X10 : List Sl} {T : Bool} {t0 t1 t2 t3 t4 t5 t6 t7 t8 t9 t10 t11 t14 : Nat} {d : Nat → Bool} {s : Nat → Value} {w w' : World} (h : RgServHear w0 i s9 m cl sv nc a1 a2 a3 c1 c2 c3 xs ts ys now I00 I01 X00 X01 I10 I11 I12 I13 X10 T t0 t1 t2 t3 t4 t5 t6 t7 t8 t9 t10 t11 t14 d s w) (hb : Below w.heap.size w w') : RgServHear w0 i s9 m cl sv nc a1 a2 a3 c1 c2 c3 xs ts ys now I00 I01 X00 X01 I10 I11 I12 I13 X10 T t0 t1 t2 t3 t4 t5 t6 t7 t8 t9 t10 t11 t14 d s w' := by
  refine ⟨h.bel.trans (hb.mono h.bel.size), h.f0, ?_, h.f2, ?_, h.f4, ?_, ?_, ?_, ?_, h.f9, ?_, ?_, h.f14⟩
  · intro q e
    obtain ⟨g1, g2, h1, r0, r1⟩ := h.f1 q e
    exact ⟨g1, g2, h1, r0.later hb, r1.later hb⟩
  · intro q e
    obtain ⟨g3, h1, r0⟩ := h.f3 q e
    exact ⟨g3, h1, r0.later hb⟩
  · intro q e
    obtain ⟨b00, e00, b01, e01, b10, e10, E0, E1, h1, o0, o1, o2⟩ := h.f5 q e
    exact ⟨b00, e00, b01, e01, b10, e10, E0, E1, h1, o0.later hb, o1.later hb, o2.later hb⟩
  · intro e
    obtain ⟨b00, e00, b01, e01, b10, e10, E0, E1, h1, o0, o1, o2⟩ := h.f6 e
    exact ⟨b00, e00, b01, e01, b10, e10, E0, E1, h1, o0.later hb, o1.later hb, o2.later hb⟩
  · intro e
    obtain ⟨b00, e00, b01, e01, E0, h1, o0, o1⟩ := h.f7 e
    exact ⟨b00, e00, b01, e01, E0, h1, o0.later hb, o1.later hb⟩
  · intro e
    obtain ⟨b10, e10, E1, h1, o2⟩ := h.f8 e
    exact ⟨b10, e10, E1, h1, o2.later hb⟩
  · intro e
    obtain ⟨q, h1, h2, h3, h4⟩ := h.f10 e
    refine ⟨q, h1, h2, fun e => (h3 e).later hb, fun e => ?_⟩
    obtain ⟨b00, e00, b01, e01, E0, hk, o0, o1⟩ := h4 e
    exact ⟨b00, e00, b01, e01, E0, hk.later hb, o0.later hb, o1.later hb⟩
  · intro e
    obtain ⟨q, h1, h2, h3, h4⟩ := h.f11 e
    refine ⟨q, h1, h2, fun e => (h3 e).later hb, fun e => ?_⟩
    obtain ⟨b10, e10, E1, hk, o2⟩ := h4 e
    exact ⟨b10, e10, E1, hk.later hb, o2.later hb⟩

set_option maxHeartbeats 40000000 in
set_option maxRecDepth 100000 in
theorem lawServHear_gen (i s9 : Int) (m cl sv nc : Int) (a1 a2 a3 : Option Addr) (c1 c2 c3 : Nat) (xs : List Sl) (ts : List Ca) (ys : List Sl) (now : Int) (w : World) (h00 : SRow w a1 xs) (h01 : NRow celC w a2 ts) (h10 : SRow w a3 ys) (hf : Forms w) (hm1 : xs.length ≤ 9223372036854775807) (hm2 : ts.length ≤ 9223372036854775807) (hm3 : ys.length ≤ 9223372036854775807) (I00 I01 : Int) (X00 : List Sl) (X01 : List Ca) (I10 I11 I12 I13 : Int) (X10 : List Sl) (T : Bool)
    (hX : xs.length ≤ 1048576 → ts.length ≤ 1048576 → ys.length ≤ 1048576 → X00.length ≤ 2000000 ∧ X01.length ≤ 2000000 ∧ X10.length ≤ 2000000)
    (HS : Hid (∀ (g1 g2 g3 : Nat) (w1 : World), SRow w1 (some ⟨g1, 0, none⟩) xs → NRow celC w1 (some ⟨g2, 0, none⟩) ts → SRow w1 (some ⟨g3, 0, none⟩) ys → Forms w1 → xs.length ≤ 1048576 → ts.length ≤ 1048576 → ys.length ≤ 1048576 → Calls Tryd.prog 18 #[.agg #[.int .i64 i, .int .i64 s9, Value.slice (some ⟨g1, 0, none⟩) xs.length xs.length, Value.slice (some ⟨g2, 0, none⟩) ts.length ts.length], .agg #[.int .i64 m, .int .i64 cl, .int .i64 sv, .int .i64 nc, Value.slice (some ⟨g3, 0, none⟩) ys.length ys.length], .int .i64 now] w1 fun r w' => ∃ b00 e00 b01 e01 b10 e10 Bz, r = .returned (Value.tuple #[.agg #[.int .i64 I00, .int .i64 I01, Value.slice b00 X00.length e00, Value.slice b01 X01.length e01], .agg #[.int .i64 I10, .int .i64 I11, .int .i64 I12, .int .i64 I13, Value.slice b10 X10.length e10], .bool T]) ∧ OwnS w' w1.heap.size (Value.slice b00 X00.length e00) X00 ∧ OwnN celC 90 w' w1.heap.size (Value.slice b01 X01.length e01) X01 ∧ OwnS w' Bz (Value.slice b10 X10.length e10) X10 ∧ w1.heap.size ≤ Bz ∧ (∀ k, (Value.slice b00 X00.length e00).ownBlock = some k → k < Bz) ∧ Below w1.heap.size w1 w'))
    (HI : Hid (∀ (g1 g2 g3 : Nat) (w1 : World), SRow w1 (some ⟨g1, 0, none⟩) xs → NRow celC w1 (some ⟨g2, 0, none⟩) ts → SRow w1 (some ⟨g3, 0, none⟩) ys → Forms w1 → xs.length ≤ 1048576 → ts.length ≤ 1048576 → ys.length ≤ 1048576 → Calls Tryd.prog 20 #[.agg #[.int .i64 i, .int .i64 s9, Value.slice (some ⟨g1, 0, none⟩) xs.length xs.length, Value.slice (some ⟨g2, 0, none⟩) ts.length ts.length], .agg #[.int .i64 m, .int .i64 cl, .int .i64 sv, .int .i64 nc, Value.slice (some ⟨g3, 0, none⟩) ys.length ys.length], .int .i64 now] w1 fun r w' => ∃ b00 e00 b01 e01 b10 e10 Bz, r = .returned (Value.tuple #[.agg #[.int .i64 I00, .int .i64 I01, Value.slice b00 X00.length e00, Value.slice b01 X01.length e01], .agg #[.int .i64 I10, .int .i64 I11, .int .i64 I12, .int .i64 I13, Value.slice b10 X10.length e10], .bool T]) ∧ OwnS w' w1.heap.size (Value.slice b00 X00.length e00) X00 ∧ OwnN celC 90 w' w1.heap.size (Value.slice b01 X01.length e01) X01 ∧ OwnS w' Bz (Value.slice b10 X10.length e10) X10 ∧ w1.heap.size ≤ Bz ∧ (∀ k, (Value.slice b00 X00.length e00).ownBlock = some k → k < Bz) ∧ Below w1.heap.size w1 w')) :
    Calls Tryd.prog 4 #[.agg #[.int .i64 i, .int .i64 s9, Value.slice a1 xs.length c1, Value.slice a2 ts.length c2], .agg #[.int .i64 m, .int .i64 cl, .int .i64 sv, .int .i64 nc, Value.slice a3 ys.length c3], .int .i64 now] w fun r w' => r = .returned (.bool true) ∧ Below w.heap.size w w' := by
  have JA0 : Hid (SRow w a1 xs ∧ NRow celC w a2 ts) := ⟨h00, h01⟩
  have JA1 : Hid (SRow w a3 ys) := h10
  have JF : Hid (Forms w) := hf
  clear hf h00 h01 h10
  have H0 : Hid ((ABlk 45 ((w.alloc (.cells #[.int .i64 i, .int .i64 s9, Value.slice a1 xs.length c1, Value.slice a2 ts.length c2] 45)).alloc (.cells #[.int .i64 m, .int .i64 cl, .int .i64 sv, .int .i64 nc, Value.slice a3 ys.length c3] 26)) w.heap.size #[.int .i64 i, .int .i64 s9, Value.slice a1 xs.length c1, Value.slice a2 ts.length c2]) ∧ (ABlk 26 ((w.alloc (.cells #[.int .i64 i, .int .i64 s9, Value.slice a1 xs.length c1, Value.slice a2 ts.length c2] 45)).alloc (.cells #[.int .i64 m, .int .i64 cl, .int .i64 sv, .int .i64 nc, Value.slice a3 ys.length c3] 26)) (w.heap.size + 1) #[.int .i64 m, .int .i64 cl, .int .i64 sv, .int .i64 nc, Value.slice a3 ys.length c3]) ∧ (Below w.heap.size w ((w.alloc (.cells #[.int .i64 i, .int .i64 s9, Value.slice a1 xs.length c1, Value.slice a2 ts.length c2] 45)).alloc (.cells #[.int .i64 m, .int .i64 cl, .int .i64 sv, .int .i64 nc, Value.slice a3 ys.length c3] 26)))) := ⟨(ABlk.new _ _ _).later (Below.alloc_ _ _), (by
    have e := ABlk.new (w.alloc (.cells #[.int .i64 i, .int .i64 s9, Value.slice a1 xs.length c1, Value.slice a2 ts.length c2] 45)) 26 #[.int .i64 m, .int .i64 cl, .int .i64 sv, .int .i64 nc, Value.slice a3 ys.length c3]
    rw [World.size_alloc] at e
    exact e), (Below.alloc_ _ _).trans ((Below.alloc_ _ _).mono (by simp))⟩
  go_enter Tryd.func4, Tryd.ntmps4
  go_wp2_with fail
  generalize ((w.alloc (.cells #[.int .i64 i, .int .i64 s9, Value.slice a1 xs.length c1, Value.slice a2 ts.length c2] 45)).alloc (.cells #[.int .i64 m, .int .i64 cl, .int .i64 sv, .int .i64 nc, Value.slice a3 ys.length c3] 26)) = W0 at H0 ⊢
  refine (szServ_any i s9 a1 a2 xs.length ts.length c1 c2 1048576 _ (by omega) (by omega) hm1 hm2).mono ?_
  rintro r w1 ⟨rfl, b9⟩
  have H1 : Hid ((ABlk 45 w1 w.heap.size #[.int .i64 i, .int .i64 s9, Value.slice a1 xs.length c1, Value.slice a2 ts.length c2]) ∧ (ABlk 26 w1 (w.heap.size + 1) #[.int .i64 m, .int .i64 cl, .int .i64 sv, .int .i64 nc, Value.slice a3 ys.length c3]) ∧ (Below w.heap.size w w1)) := ⟨(H0.out.1).later b9, (H0.out.2.1).later b9, (H0.out.2.2).trans (b9.mono (H0.out.2.2).size)⟩
  clear H0 b9
  obtain ⟨q0, hq0⟩ : ∃ q0, q0 = (restServ 1048576 xs.length ts.length) := ⟨_, rfl⟩
  rw [← hq0]
  by_cases hn : q0 < 0
  · go_wp2_with fail
    go_ret
    exact ⟨rfl, H1.out.2.2⟩
  have hn' : ¬ (restServ 1048576 xs.length ts.length) < 0 := by rw [← hq0]; exact hn
  have hn2 := restServ_neg hn'
  have x1 : xs.length ≤ 1048576 := by omega
  have x2 : ts.length ≤ 1048576 := by omega
  have hqm : q0 ≤ 1048576 := by omega
  clear hn2 hn'
  clear hq0
  have p0 := (H1.out.2.1).at 0 _ rfl
  have p1 := (H1.out.2.1).at 1 _ rfl
  have p2 := (H1.out.2.1).at 2 _ rfl
  have p3 := (H1.out.2.1).at 3 _ rfl
  have p4 := (H1.out.2.1).at 4 _ rfl
  go_wp2_with fail
  clear p0 p1 p2 p3 p4
  refine (szMsg_any m cl sv nc a3 ys.length c3 q0 _ (by omega) (by omega) hm3).mono ?_
  rintro r w7 ⟨rfl, b9⟩
  have H7 : Hid ((ABlk 45 w7 w.heap.size #[.int .i64 i, .int .i64 s9, Value.slice a1 xs.length c1, Value.slice a2 ts.length c2]) ∧ (ABlk 26 w7 (w.heap.size + 1) #[.int .i64 m, .int .i64 cl, .int .i64 sv, .int .i64 nc, Value.slice a3 ys.length c3]) ∧ (Below w.heap.size w w7)) := ⟨(H1.out.1).later b9, (H1.out.2.1).later b9, (H1.out.2.2).trans (b9.mono (H1.out.2.2).size)⟩
  clear H1 b9
  obtain ⟨q1, hq1⟩ : ∃ q1, q1 = (leftI q0 ys.length) := ⟨_, rfl⟩
  rw [← hq1]
  by_cases hn1 : q1 < 0
  · go_wp2_with fail
    go_ret
    exact ⟨rfl, H7.out.2.2⟩
  have x3 : ys.length ≤ 1048576 := by
    unfold leftI at hq1
    split at hq1 <;> omega
  clear hq1 hn hqm
  have hX := hX x1 x2 x3
  obtain ⟨hX0, hX1, hX2⟩ := hX
  go_upto_region 8 with fail
  go_cut [8, 9, 10] (fun v8 v9 v10 wc => ∃ (pk0 pk1 : Nat) (az00 : Option Addr) (cz00 : Nat) (az01 : Option Addr) (cz01 : Nat) (az10 : Option Addr) (cz10 : Nat), v8 = .pointer (some ⟨pk0, 0, none⟩) ∧ v9 = .pointer (some ⟨pk1, 0, none⟩) ∧ v10 = .bool T ∧ Hid (ABlk 49 wc pk0 #[.int .i64 I00, .int .i64 I01, Value.slice az00 X00.length cz00, Value.slice az01 X01.length cz01] ∧ ABlk 33 wc pk1 #[.int .i64 I10, .int .i64 I11, .int .i64 I12, .int .i64 I13, Value.slice az10 X10.length cz10] ∧ SRow wc az00 X00 ∧ NRow celC wc az01 X01 ∧ SRow wc az10 X10 ∧ Below w7.heap.size w7 wc))
  case first =>
    refine wp_region_inv [33, 34, 35, 36, 37, 38, 32, 39, 40, 41, 8, 9, 10] (RgServHear w7 i s9 m cl sv nc a1 a2 a3 c1 c2 c3 xs ts ys now I00 I01 X00 X01 I10 I11 I12 I13 X10 T 33 34 35 36 37 38 32 39 40 41 8 9 10) [0, 1, 2, 3, 4, 5, 6, 7, 8, 9, 10, 11, 12, 13, 14] (by kernel_rfl) (by kernel_rfl) (by kernel_rfl) ?_ ?_ ?_
    · intro s
      exact ⟨(Below.refl _ _).drew, fun e => (by cases e), fun _ e => (by cases e), fun e => (by cases e), fun _ e => (by cases e), fun e => (by cases e), fun _ e => (by cases e), fun e => (by cases e), fun e => (by cases e), fun e => (by cases e), fun e => (by cases e), fun e => (by cases e), fun e => (by cases e), fun e => (by cases e)⟩
    · refine StepsI.cons (i := 0) [] rfl (by kernel_rfl) ?_ (StepsI.cons (i := 1) [0] rfl (by kernel_rfl) ?_ (StepsI.cons (i := 2) [] rfl (by kernel_rfl) ?_ (StepsI.cons (i := 3) [1, 2] rfl (by kernel_rfl) ?_ (StepsI.cons (i := 4) [] rfl (by kernel_rfl) ?_ (StepsI.cons (i := 5) [1, 3, 4] rfl (by kernel_rfl) ?_ (StepsI.cons (i := 6) [5] rfl (by kernel_rfl) ?_ (StepsI.cons (i := 7) [6] rfl (by kernel_rfl) ?_ (StepsI.cons (i := 8) [6] rfl (by kernel_rfl) ?_ (StepsI.cons (i := 9) [6] rfl (by kernel_rfl) ?_ (StepsI.cons (i := 10) [] rfl (by kernel_rfl) ?_ (StepsI.cons (i := 11) [] rfl (by kernel_rfl) ?_ (StepsI.cons (i := 12) [0, 1, 2, 3, 4, 5, 6, 7, 10, 11] rfl (by kernel_rfl) ?_ (StepsI.cons (i := 13) [0, 1, 2, 3, 4, 5, 6, 7, 8, 10, 11, 12] rfl (by kernel_rfl) ?_ (StepsI.cons (i := 14) [0, 1, 2, 3, 4, 5, 6, 7, 8, 9, 10, 11, 12, 13] rfl (by kernel_rfl) ?_ (StepsI.nil)))))))))))))))
      · intro d s w' hd hA hC hF K hK
        have hB9 := hF.bel
        simp only [putL, putT, List.setIfInBounds_toArray, List.set_cons_zero, List.set_cons_succ]
        clear hB9
        as_aux_lemma =>
          have p0 := ((H7.out.1).later hF.bel).at 0 _ rfl
          have p1 := ((H7.out.1).later hF.bel).at 1 _ rfl
          have p2 := ((H7.out.1).later hF.bel).at 2 _ rfl
          have p3 := ((H7.out.1).later hF.bel).at 3 _ rfl
          (go_simp) <;> (try (intro hx9; omega))
          clear p0 p1 p2 p3
          refine hK.out (updS s 33 (Value.agg #[.int .i64 i, .int .i64 s9, Value.slice a1 xs.length c1, Value.slice a2 ts.length c2])) _ _ ?_ ⟨hF.bel, fun _ => rfl, hF.f1, hF.f2, hF.f3, hF.f4, hF.f5, hF.f6, hF.f7, hF.f8, hF.f9, hF.f10, hF.f11, hF.f14⟩
          simp only [putL, putT, List.setIfInBounds_toArray, List.set_cons_zero, List.set_cons_succ]; rfl
      · intro d s w' hd hA hC hF K hK
        have hB9 := hF.bel
        simp only [putL, putT, List.setIfInBounds_toArray, List.set_cons_zero, List.set_cons_succ]
        clear hB9
        as_aux_lemma =>
          have e0 := hF.f0 (hA.1)
          rw [e0]
          go_simp
          refine (toServ_any i s9 a1 a2 c1 c2 xs ts _ ((JA0.out.1).later ((H7.out.2.2).trans (hF.bel.mono (H7.out.2.2).size))) ((JA0.out.2).later ((H7.out.2.2).trans (hF.bel.mono (H7.out.2.2).size))) x1 x2).mono ?_
          rintro r w2 ⟨g1, g2, rfl, _, ⟨r0, r1⟩, _, b9⟩
          go_simp
          have hF2 := hF.later b9
          refine hK.out (updS s 34 (Value.agg #[.int .i64 i, .int .i64 s9, Value.slice (some ⟨g1, 0, none⟩) xs.length xs.length, Value.slice (some ⟨g2, 0, none⟩) ts.length ts.length])) _ _ ?_ ⟨hF2.bel, hF2.f0, fun _ _ => ⟨g1, g2, rfl, r0, r1⟩, hF2.f2, hF2.f3, hF2.f4, hF2.f5, hF2.f6, hF2.f7, hF2.f8, hF2.f9, hF2.f10, hF2.f11, hF2.f14⟩
          simp only [putL, putT, List.setIfInBounds_toArray, List.set_cons_zero, List.set_cons_succ]; rw [show updS s 34 (Value.agg #[.int .i64 i, .int .i64 s9, Value.slice (some ⟨g1, 0, none⟩) xs.length xs.length, Value.slice (some ⟨g2, 0, none⟩) ts.length ts.length]) 33 = _ from e0] <;> rfl
      · intro d s w' hd hA hC hF K hK
        have hB9 := hF.bel
        simp only [putL, putT, List.setIfInBounds_toArray, List.set_cons_zero, List.set_cons_succ]
        clear hB9
        as_aux_lemma =>
          have p0 := ((H7.out.2.1).later hF.bel).at 0 _ rfl
          have p1 := ((H7.out.2.1).later hF.bel).at 1 _ rfl
          have p2 := ((H7.out.2.1).later hF.bel).at 2 _ rfl
          have p3 := ((H7.out.2.1).later hF.bel).at 3 _ rfl
          have p4 := ((H7.out.2.1).later hF.bel).at 4 _ rfl
          (go_simp) <;> (try (intro hx9; omega))
          clear p0 p1 p2 p3 p4
          refine hK.out (updS s 35 (Value.agg #[.int .i64 m, .int .i64 cl, .int .i64 sv, .int .i64 nc, Value.slice a3 ys.length c3])) _ _ ?_ ⟨hF.bel, hF.f0, hF.f1, fun _ => rfl, hF.f3, hF.f4, hF.f5, hF.f6, hF.f7, hF.f8, hF.f9, hF.f10, hF.f11, hF.f14⟩
          simp only [putL, putT, List.setIfInBounds_toArray, List.set_cons_zero, List.set_cons_succ]; rfl
      · intro d s w' hd hA hC hF K hK
        have hB9 := hF.bel
        simp only [putL, putT, List.setIfInBounds_toArray, List.set_cons_zero, List.set_cons_succ]
        clear hB9
        as_aux_lemma =>
          have e0 := hF.f2 (hA.2.1)
          rw [e0]
          go_simp
          refine (toMsg_wb m cl sv nc a3 c3 ys _ ((JA1.out).later ((H7.out.2.2).trans (hF.bel.mono (H7.out.2.2).size))) (by omega)).mono ?_
          rintro r w2 ⟨g3, rfl, _, r0, _, b9⟩
          go_simp
          have hF2 := hF.later b9
          refine hK.out (updS s 36 (Value.agg #[.int .i64 m, .int .i64 cl, .int .i64 sv, .int .i64 nc, Value.slice (some ⟨g3, 0, none⟩) ys.length ys.length])) _ _ ?_ ⟨hF2.bel, hF2.f0, hF2.f1, hF2.f2, fun _ _ => ⟨g3, rfl, r0⟩, hF2.f4, hF2.f5, hF2.f6, hF2.f7, hF2.f8, hF2.f9, hF2.f10, hF2.f11, hF2.f14⟩
          simp only [putL, putT, List.setIfInBounds_toArray, List.set_cons_zero, List.set_cons_succ]; rw [show updS s 36 (Value.agg #[.int .i64 m, .int .i64 cl, .int .i64 sv, .int .i64 nc, Value.slice (some ⟨g3, 0, none⟩) ys.length ys.length]) 35 = _ from e0] <;> rfl
      · intro d s w' hd hA hC hF K hK
        have hB9 := hF.bel
        simp only [putL, putT, List.setIfInBounds_toArray, List.set_cons_zero, List.set_cons_succ]
        clear hB9
        as_aux_lemma =>
          go_simp
          refine hK.out (updS s 37 (Value.int .i64 now)) _ _ ?_ ⟨hF.bel, hF.f0, hF.f1, hF.f2, hF.f3, fun _ => rfl, hF.f5, hF.f6, hF.f7, hF.f8, hF.f9, hF.f10, hF.f11, hF.f14⟩
          simp only [putL, putT, List.setIfInBounds_toArray, List.set_cons_zero, List.set_cons_succ]; rfl
      · intro d s w' hd hA hC hF K hK
        have hB9 := hF.bel
        simp only [putL, putT, List.setIfInBounds_toArray, List.set_cons_zero, List.set_cons_succ]
        clear hB9
        as_aux_lemma =>
          have offS : d 12 = false := hC.off 12 5 (by kernel_rfl) hd
          obtain ⟨g1, g2, e1, r00, r01⟩ := hF.f1 offS (hA.1)
          obtain ⟨g3, e3, r10⟩ := hF.f3 offS (hA.2.1)
          have i0 := hF.f4 (hA.2.2.1)
          have RR : Hid (SRow w' (some ⟨g1, 0, none⟩) xs ∧ NRow celC w' (some ⟨g2, 0, none⟩) ts ∧ SRow w' (some ⟨g3, 0, none⟩) ys) := ⟨r00, r01, r10⟩
          clear r00 r01 r10
          rw [e1, e3, i0]
          go_simp
          refine (HS.out g1 g2 g3 _ (RR.out.1) (RR.out.2.1) (RR.out.2.2) (JF.out.later ((H7.out.2.2).trans (hF.bel.mono (H7.out.2.2).size))) x1 x2 x3).mono ?_
          rintro r w2 ⟨b00, e00, b01, e01, b10, e10, Bz, rfl, o0, o1, o2, _, _, b9⟩
          go_simp
          have hF2 := hF.later b9
          refine hK.out (updS s 38 (Value.tuple #[.agg #[.int .i64 I00, .int .i64 I01, Value.slice b00 X00.length e00, Value.slice b01 X01.length e01], .agg #[.int .i64 I10, .int .i64 I11, .int .i64 I12, .int .i64 I13, Value.slice b10 X10.length e10], .bool T])) _ _ ?_ ⟨hF2.bel, hF2.f0, hF2.f1, hF2.f2, hF2.f3, hF2.f4, fun _ _ => ⟨b00, e00, b01, e01, b10, e10, _, _, rfl, o0, o1, o2⟩, hF2.f6, hF2.f7, hF2.f8, hF2.f9, hF2.f10, hF2.f11, hF2.f14⟩
          simp only [putL, putT, List.setIfInBounds_toArray, List.set_cons_zero, List.set_cons_succ]; rw [show updS s 38 ((Value.tuple #[.agg #[.int .i64 I00, .int .i64 I01, Value.slice b00 X00.length e00, Value.slice b01 X01.length e01], .agg #[.int .i64 I10, .int .i64 I11, .int .i64 I12, .int .i64 I13, Value.slice b10 X10.length e10], .bool T])) 34 = _ from e1, show updS s 38 ((Value.tuple #[.agg #[.int .i64 I00, .int .i64 I01, Value.slice b00 X00.length e00, Value.slice b01 X01.length e01], .agg #[.int .i64 I10, .int .i64 I11, .int .i64 I12, .int .i64 I13, Value.slice b10 X10.length e10], .bool T])) 36 = _ from e3, show updS s 38 ((Value.tuple #[.agg #[.int .i64 I00, .int .i64 I01, Value.slice b00 X00.length e00, Value.slice b01 X01.length e01], .agg #[.int .i64 I10, .int .i64 I11, .int .i64 I12, .int .i64 I13, Value.slice b10 X10.length e10], .bool T])) 37 = _ from i0] <;> rfl
      · intro d s w' hd hA hC hF K hK
        have hB9 := hF.bel
        simp only [putL, putT, List.setIfInBounds_toArray, List.set_cons_zero, List.set_cons_succ]
        clear hB9
        as_aux_lemma =>
          have offS : d 12 = false := hC.off 12 6 (by kernel_rfl) hd
          obtain ⟨b00, e00, b01, e01, b10, e10, E0, E1, e0, o0, o1, o2⟩ := hF.f5 offS (hA.1)
          have OO : Hid (OwnS w' E0 (Value.slice b00 X00.length e00) X00 ∧ OwnN celC 90 w' E0 (Value.slice b01 X01.length e01) X01 ∧ OwnS w' E1 (Value.slice b10 X10.length e10) X10) := ⟨o0, o1, o2⟩
          clear o0 o1 o2
          rw [e0]
          go_simp
          refine hK.out (updS s 32 (Value.tuple #[.agg #[.int .i64 I00, .int .i64 I01, Value.slice b00 X00.length e00, Value.slice b01 X01.length e01], .agg #[.int .i64 I10, .int .i64 I11, .int .i64 I12, .int .i64 I13, Value.slice b10 X10.length e10], .bool T])) _ _ ?_ ⟨hF.bel, hF.f0, hF.f1, hF.f2, hF.f3, hF.f4, hF.f5, fun _ => ⟨b00, e00, b01, e01, b10, e10, E0, E1, rfl, OO.out.1, OO.out.2.1, OO.out.2.2⟩, hF.f7, hF.f8, hF.f9, hF.f10, hF.f11, hF.f14⟩
          simp only [putL, putT, List.setIfInBounds_toArray, List.set_cons_zero, List.set_cons_succ]; rw [show updS s 32 ((Value.tuple #[.agg #[.int .i64 I00, .int .i64 I01, Value.slice b00 X00.length e00, Value.slice b01 X01.length e01], .agg #[.int .i64 I10, .int .i64 I11, .int .i64 I12, .int .i64 I13, Value.slice b10 X10.length e10], .bool T])) 38 = _ from e0] <;> rfl
      · intro d s w' hd hA hC hF K hK
        have hB9 := hF.bel
        simp only [putL, putT, List.setIfInBounds_toArray, List.set_cons_zero, List.set_cons_succ]
        clear hB9
        as_aux_lemma =>
          obtain ⟨b00, e00, b01, e01, b10, e10, E0, E1, e0, o0, o1, o2⟩ := hF.f6 (hA.1)
          have OO : Hid (OwnS w' E0 (Value.slice b00 X00.length e00) X00 ∧ OwnN celC 90 w' E0 (Value.slice b01 X01.length e01) X01 ∧ OwnS w' E1 (Value.slice b10 X10.length e10) X10) := ⟨o0, o1, o2⟩
          clear o0 o1 o2
          rw [e0]
          go_simp
          refine hK.out (updS s 39 (Value.agg #[.int .i64 I00, .int .i64 I01, Value.slice b00 X00.length e00, Value.slice b01 X01.length e01])) _ _ ?_ ⟨hF.bel, hF.f0, hF.f1, hF.f2, hF.f3, hF.f4, hF.f5, hF.f6, fun _ => ⟨b00, e00, b01, e01, E0, rfl, OO.out.1, OO.out.2.1⟩, hF.f8, hF.f9, hF.f10, hF.f11, hF.f14⟩
          simp only [putL, putT, List.setIfInBounds_toArray, List.set_cons_zero, List.set_cons_succ]; rw [show updS s 39 (Value.agg #[.int .i64 I00, .int .i64 I01, Value.slice b00 X00.length e00, Value.slice b01 X01.length e01]) 32 = _ from e0] <;> rfl
      · intro d s w' hd hA hC hF K hK
        have hB9 := hF.bel
        simp only [putL, putT, List.setIfInBounds_toArray, List.set_cons_zero, List.set_cons_succ]
        clear hB9
        as_aux_lemma =>
          obtain ⟨b00, e00, b01, e01, b10, e10, E0, E1, e0, o0, o1, o2⟩ := hF.f6 (hA.1)
          have OO : Hid (OwnS w' E0 (Value.slice b00 X00.length e00) X00 ∧ OwnN celC 90 w' E0 (Value.slice b01 X01.length e01) X01 ∧ OwnS w' E1 (Value.slice b10 X10.length e10) X10) := ⟨o0, o1, o2⟩
          clear o0 o1 o2
          rw [e0]
          go_simp
          refine hK.out (updS s 40 (Value.agg #[.int .i64 I10, .int .i64 I11, .int .i64 I12, .int .i64 I13, Value.slice b10 X10.length e10])) _ _ ?_ ⟨hF.bel, hF.f0, hF.f1, hF.f2, hF.f3, hF.f4, hF.f5, hF.f6, hF.f7, fun _ => ⟨b10, e10, E1, rfl, OO.out.2.2⟩, hF.f9, hF.f10, hF.f11, hF.f14⟩
          simp only [putL, putT, List.setIfInBounds_toArray, List.set_cons_zero, List.set_cons_succ]; rw [show updS s 40 (Value.agg #[.int .i64 I10, .int .i64 I11, .int .i64 I12, .int .i64 I13, Value.slice b10 X10.length e10]) 32 = _ from e0] <;> rfl
      · intro d s w' hd hA hC hF K hK
        have hB9 := hF.bel
        simp only [putL, putT, List.setIfInBounds_toArray, List.set_cons_zero, List.set_cons_succ]
        clear hB9
        as_aux_lemma =>
          obtain ⟨b00, e00, b01, e01, b10, e10, E0, E1, e0, o0, o1, o2⟩ := hF.f6 (hA.1)
          have OO : Hid (OwnS w' E0 (Value.slice b00 X00.length e00) X00 ∧ OwnN celC 90 w' E0 (Value.slice b01 X01.length e01) X01 ∧ OwnS w' E1 (Value.slice b10 X10.length e10) X10) := ⟨o0, o1, o2⟩
          clear o0 o1 o2
          rw [e0]
          go_simp
          refine hK.out (updS s 41 (Value.bool T)) _ _ ?_ ⟨hF.bel, hF.f0, hF.f1, hF.f2, hF.f3, hF.f4, hF.f5, hF.f6, hF.f7, hF.f8, fun _ => rfl, hF.f10, hF.f11, hF.f14⟩
          simp only [putL, putT, List.setIfInBounds_toArray, List.set_cons_zero, List.set_cons_succ]; rw [show updS s 41 (Value.bool T) 32 = _ from e0] <;> rfl
      · intro d s w' hd hA hC hF K hK
        have hB9 := hF.bel
        simp only [putL, putT, List.setIfInBounds_toArray, List.set_cons_zero, List.set_cons_succ]
        clear hB9
        as_aux_lemma =>
          go_simp
          have b9 := Below.alloc_ w' (.cells #[.int .i64 0, .int .i64 0, Value.slice none 0 0, Value.slice none 0 0] 49)
          have hF2 := hF.later b9
          have off := hC.off 12 10 (by kernel_rfl) hd
          refine hK.out (updS s 8 (Value.pointer (some ⟨w'.heap.size, 0, none⟩))) _ _ ?_ ⟨hF2.bel, hF2.f0, hF2.f1, hF2.f2, hF2.f3, hF2.f4, hF2.f5, hF2.f6, hF2.f7, hF2.f8, hF2.f9, fun _ => ⟨w'.heap.size, rfl, hF.bel.size, fun _ => ABlk.new _ _ _, fun e => absurd (off.symm.trans e) (by simp)⟩, hF2.f11, hF2.f14⟩
          simp only [putL, putT, List.setIfInBounds_toArray, List.set_cons_zero, List.set_cons_succ]; rfl
      · intro d s w' hd hA hC hF K hK
        have hB9 := hF.bel
        simp only [putL, putT, List.setIfInBounds_toArray, List.set_cons_zero, List.set_cons_succ]
        clear hB9
        as_aux_lemma =>
          go_simp
          have b9 := Below.alloc_ w' (.cells #[.int .i64 0, .int .i64 0, .int .i64 0, .int .i64 0, Value.slice none 0 0] 33)
          have hF2 := hF.later b9
          have off := hC.off 13 11 (by kernel_rfl) hd
          refine hK.out (updS s 9 (Value.pointer (some ⟨w'.heap.size, 0, none⟩))) _ _ ?_ ⟨hF2.bel, hF2.f0, hF2.f1, hF2.f2, hF2.f3, hF2.f4, hF2.f5, hF2.f6, hF2.f7, hF2.f8, hF2.f9, hF2.f10, fun _ => ⟨w'.heap.size, rfl, hF.bel.size, fun _ => ABlk.new _ _ _, fun e => absurd (off.symm.trans e) (by simp)⟩, hF2.f14⟩
          simp only [putL, putT, List.setIfInBounds_toArray, List.set_cons_zero, List.set_cons_succ]; rfl
      · intro d s w' hd hA hC hF K hK
        have hB9 := hF.bel
        simp only [putL, putT, List.setIfInBounds_toArray, List.set_cons_zero, List.set_cons_succ]
        clear hB9
        as_aux_lemma =>
          obtain ⟨q, hq, hq2, hz, _⟩ := hF.f10 (hA.2.2.2.2.2.2.2.2.1)
          have hz := hz hd
          obtain ⟨b00, e00, b01, e01, E0, e0, o0, o1⟩ := hF.f7 (hA.2.2.2.2.2.2.2.1)
          have z0 := hz.at 0 _ rfl
          have zf0 := hz.fro 0
          have z1 := hz.at 1 _ rfl
          have zf1 := hz.fro 1
          have z2 := hz.at 2 _ rfl
          have zf2 := hz.fro 2
          have z3 := hz.at 3 _ rfl
          have zf3 := hz.fro 3
          have HZ : Hid (ABlk 49 w' q #[.int .i64 0, .int .i64 0, Value.slice none 0 0, Value.slice none 0 0] ∧ OwnS w' E0 (Value.slice b00 X00.length e00) X00 ∧ OwnN celC 90 w' E0 (Value.slice b01 X01.length e01) X01) := ⟨hz, o0, o1⟩
          clear hz o0 o1
          rw [hq, e0]
          go_simp
          clear z0 zf0 z1 zf1 z2 zf2 z3 zf3
          have g9 : GrL w' ((((w'.setCell ⟨q, 0, none⟩ (.int .i64 I00)).setCell ⟨q, 1, none⟩ (.int .i64 I01)).setCell ⟨q, 2, none⟩ (Value.slice b00 X00.length e00)).setCell ⟨q, 3, none⟩ (Value.slice b01 X01.length e01)) [some q] := putA_grl (vs := [.int .i64 I00, .int .i64 I01, Value.slice b00 X00.length e00, Value.slice b01 X01.length e01]) (o := 0)
          have k9 : ABlk 49 ((((w'.setCell ⟨q, 0, none⟩ (.int .i64 I00)).setCell ⟨q, 1, none⟩ (.int .i64 I01)).setCell ⟨q, 2, none⟩ (Value.slice b00 X00.length e00)).setCell ⟨q, 3, none⟩ (Value.slice b01 X01.length e01)) q #[.int .i64 I00, .int .i64 I01, Value.slice b00 X00.length e00, Value.slice b01 X01.length e01] := HZ.out.1.put (cs := [.int .i64 0, .int .i64 0, Value.slice none 0 0, Value.slice none 0 0]) [.int .i64 I00, .int .i64 I01, Value.slice b00 X00.length e00, Value.slice b01 X01.length e01] rfl
          generalize ((((w'.setCell ⟨q, 0, none⟩ (.int .i64 I00)).setCell ⟨q, 1, none⟩ (.int .i64 I01)).setCell ⟨q, 2, none⟩ (Value.slice b00 X00.length e00)).setCell ⟨q, 3, none⟩ (Value.slice b01 X01.length e01)) = V at g9 k9 ⊢
          refine hK.out s _ _ ?_ ⟨below_grl hF.bel g9 hF.bel.size (fun k hk => by simp at hk; omega), hF.f0, fun e => (by cases e), hF.f2, fun e => (by cases e), hF.f4, fun e => (by cases e), ?_, ?_, ?_, hF.f9, ?_, ?_, hF.f14⟩
          · simp only [putL, putT, List.setIfInBounds_toArray, List.set_cons_zero, List.set_cons_succ]; rw [hq, e0] <;> rfl
          · intro e
            obtain ⟨b00, e00, b01, e01, b10, e10, E0, E1, h1, o0, o1, o2⟩ := hF.f6 e
            exact ⟨b00, e00, b01, e01, b10, e10, E0, E1, h1, o0.grl g9 (fun k e hm => own_off HZ.out.1 (o0) (by decide) (e.trans (List.mem_singleton.1 hm))), o1.grl g9 (fun k e hm => own_off HZ.out.1 (o1) (by decide) (e.trans (List.mem_singleton.1 hm))), o2.grl g9 (fun k e hm => own_off HZ.out.1 (o2) (by decide) (e.trans (List.mem_singleton.1 hm)))⟩
          · intro e
            obtain ⟨b00, e00, b01, e01, E0, h1, o0, o1⟩ := hF.f7 e
            exact ⟨b00, e00, b01, e01, E0, h1, o0.grl g9 (fun k e hm => own_off HZ.out.1 (o0) (by decide) (e.trans (List.mem_singleton.1 hm))), o1.grl g9 (fun k e hm => own_off HZ.out.1 (o1) (by decide) (e.trans (List.mem_singleton.1 hm)))⟩
          · intro e
            obtain ⟨b10, e10, E1, h1, o2⟩ := hF.f8 e
            exact ⟨b10, e10, E1, h1, o2.grl g9 (fun k e hm => own_off HZ.out.1 (o2) (by decide) (e.trans (List.mem_singleton.1 hm)))⟩
          · exact fun _ => ⟨q, hq, hq2, fun e => (by cases e), fun _ => ⟨b00, e00, b01, e01, E0, k9, (HZ.out.2.1).grl g9 (fun k e hm => own_off HZ.out.1 ((HZ.out.2.1)) (by decide) (e.trans (List.mem_singleton.1 hm))), (HZ.out.2.2).grl g9 (fun k e hm => own_off HZ.out.1 ((HZ.out.2.2)) (by decide) (e.trans (List.mem_singleton.1 hm)))⟩⟩
          · intro e
            obtain ⟨q2, h1, h2, h3, h4⟩ := hF.f11 e
            refine ⟨q2, h1, h2, fun e => ?_, fun e => ?_⟩
            · have hz2 := h3 e
              exact hz2.grl g9 (fun hm => blk_type HZ.out.1 (show ABlk _ w' q _ from (Option.some.inj (List.mem_singleton.1 hm)) ▸ hz2) (by decide))
            · obtain ⟨b10, e10, E1, hk, o2⟩ := h4 e
              exact ⟨b10, e10, E1, hk.grl g9 (fun hm => blk_type HZ.out.1 (show ABlk _ w' q _ from (Option.some.inj (List.mem_singleton.1 hm)) ▸ hk) (by decide)), o2.grl g9 (fun k e hm => own_off HZ.out.1 (o2) (by decide) (e.trans (List.mem_singleton.1 hm)))⟩
      · intro d s w' hd hA hC hF K hK
        have hB9 := hF.bel
        simp only [putL, putT, List.setIfInBounds_toArray, List.set_cons_zero, List.set_cons_succ]
        clear hB9
        as_aux_lemma =>
          obtain ⟨q, hq, hq2, hz, _⟩ := hF.f11 (hA.2.2.2.2.2.2.2.2.2.2.1)
          have hz := hz hd
          obtain ⟨b10, e10, E1, e0, o2⟩ := hF.f8 (hA.2.2.2.2.2.2.2.2.1)
          have z0 := hz.at 0 _ rfl
          have zf0 := hz.fro 0
          have z1 := hz.at 1 _ rfl
          have zf1 := hz.fro 1
          have z2 := hz.at 2 _ rfl
          have zf2 := hz.fro 2
          have z3 := hz.at 3 _ rfl
          have zf3 := hz.fro 3
          have z4 := hz.at 4 _ rfl
          have zf4 := hz.fro 4
          have HZ : Hid (ABlk 33 w' q #[.int .i64 0, .int .i64 0, .int .i64 0, .int .i64 0, Value.slice none 0 0] ∧ OwnS w' E1 (Value.slice b10 X10.length e10) X10) := ⟨hz, o2⟩
          clear hz o2
          rw [hq, e0]
          go_simp
          clear z0 zf0 z1 zf1 z2 zf2 z3 zf3 z4 zf4
          have g9 : GrL w' (((((w'.setCell ⟨q, 0, none⟩ (.int .i64 I10)).setCell ⟨q, 1, none⟩ (.int .i64 I11)).setCell ⟨q, 2, none⟩ (.int .i64 I12)).setCell ⟨q, 3, none⟩ (.int .i64 I13)).setCell ⟨q, 4, none⟩ (Value.slice b10 X10.length e10)) [some q] := putA_grl (vs := [.int .i64 I10, .int .i64 I11, .int .i64 I12, .int .i64 I13, Value.slice b10 X10.length e10]) (o := 0)
          have k9 : ABlk 33 (((((w'.setCell ⟨q, 0, none⟩ (.int .i64 I10)).setCell ⟨q, 1, none⟩ (.int .i64 I11)).setCell ⟨q, 2, none⟩ (.int .i64 I12)).setCell ⟨q, 3, none⟩ (.int .i64 I13)).setCell ⟨q, 4, none⟩ (Value.slice b10 X10.length e10)) q #[.int .i64 I10, .int .i64 I11, .int .i64 I12, .int .i64 I13, Value.slice b10 X10.length e10] := HZ.out.1.put (cs := [.int .i64 0, .int .i64 0, .int .i64 0, .int .i64 0, Value.slice none 0 0]) [.int .i64 I10, .int .i64 I11, .int .i64 I12, .int .i64 I13, Value.slice b10 X10.length e10] rfl
          generalize (((((w'.setCell ⟨q, 0, none⟩ (.int .i64 I10)).setCell ⟨q, 1, none⟩ (.int .i64 I11)).setCell ⟨q, 2, none⟩ (.int .i64 I12)).setCell ⟨q, 3, none⟩ (.int .i64 I13)).setCell ⟨q, 4, none⟩ (Value.slice b10 X10.length e10)) = V at g9 k9 ⊢
          refine hK.out s _ _ ?_ ⟨below_grl hF.bel g9 hF.bel.size (fun k hk => by simp at hk; omega), hF.f0, fun e => absurd ((hA.2.2.2.2.2.2.2.2.2.2.2.1).symm.trans e) (by simp), hF.f2, fun e => absurd ((hA.2.2.2.2.2.2.2.2.2.2.2.1).symm.trans e) (by simp), hF.f4, fun e => absurd ((hA.2.2.2.2.2.2.2.2.2.2.2.1).symm.trans e) (by simp), ?_, ?_, ?_, hF.f9, ?_, ?_, hF.f14⟩
          · simp only [putL, putT, List.setIfInBounds_toArray, List.set_cons_zero, List.set_cons_succ]; rw [hq, e0] <;> rfl
          · intro e
            obtain ⟨b00, e00, b01, e01, b10, e10, E0, E1, h1, o0, o1, o2⟩ := hF.f6 e
            exact ⟨b00, e00, b01, e01, b10, e10, E0, E1, h1, o0.grl g9 (fun k e hm => own_off HZ.out.1 (o0) (by decide) (e.trans (List.mem_singleton.1 hm))), o1.grl g9 (fun k e hm => own_off HZ.out.1 (o1) (by decide) (e.trans (List.mem_singleton.1 hm))), o2.grl g9 (fun k e hm => own_off HZ.out.1 (o2) (by decide) (e.trans (List.mem_singleton.1 hm)))⟩
          · intro e
            obtain ⟨b00, e00, b01, e01, E0, h1, o0, o1⟩ := hF.f7 e
            exact ⟨b00, e00, b01, e01, E0, h1, o0.grl g9 (fun k e hm => own_off HZ.out.1 (o0) (by decide) (e.trans (List.mem_singleton.1 hm))), o1.grl g9 (fun k e hm => own_off HZ.out.1 (o1) (by decide) (e.trans (List.mem_singleton.1 hm)))⟩
          · intro e
            obtain ⟨b10, e10, E1, h1, o2⟩ := hF.f8 e
            exact ⟨b10, e10, E1, h1, o2.grl g9 (fun k e hm => own_off HZ.out.1 (o2) (by decide) (e.trans (List.mem_singleton.1 hm)))⟩
          · intro e
            obtain ⟨q2, h1, h2, h3, h4⟩ := hF.f10 e
            refine ⟨q2, h1, h2, fun e => ?_, fun e => ?_⟩
            · have hz2 := h3 e
              exact hz2.grl g9 (fun hm => blk_type HZ.out.1 (show ABlk _ w' q _ from (Option.some.inj (List.mem_singleton.1 hm)) ▸ hz2) (by decide))
            · obtain ⟨b00, e00, b01, e01, E0, hk, o0, o1⟩ := h4 e
              exact ⟨b00, e00, b01, e01, E0, hk.grl g9 (fun hm => blk_type HZ.out.1 (show ABlk _ w' q _ from (Option.some.inj (List.mem_singleton.1 hm)) ▸ hk) (by decide)), o0.grl g9 (fun k e hm => own_off HZ.out.1 (o0) (by decide) (e.trans (List.mem_singleton.1 hm))), o1.grl g9 (fun k e hm => own_off HZ.out.1 (o1) (by decide) (e.trans (List.mem_singleton.1 hm)))⟩
          · exact fun _ => ⟨q, hq, hq2, fun e => (by cases e), fun _ => ⟨b10, e10, E1, k9, (HZ.out.2).grl g9 (fun k e hm => own_off HZ.out.1 ((HZ.out.2)) (by decide) (e.trans (List.mem_singleton.1 hm)))⟩⟩
      · intro d s w' hd hA hC hF K hK
        have hB9 := hF.bel
        simp only [putL, putT, List.setIfInBounds_toArray, List.set_cons_zero, List.set_cons_succ]
        clear hB9
        as_aux_lemma =>
          have e0 := hF.f9 (hA.2.2.2.2.2.2.2.2.2.1)
          rw [e0]
          go_simp
          refine hK.out (updS s 10 (Value.bool T)) _ _ ?_ ⟨hF.bel, hF.f0, hF.f1, hF.f2, hF.f3, hF.f4, hF.f5, hF.f6, hF.f7, hF.f8, hF.f9, hF.f10, hF.f11, fun _ => rfl⟩
          simp only [putL, putT, List.setIfInBounds_toArray, List.set_cons_zero, List.set_cons_succ]; rw [show updS s 10 (Value.bool T) 41 = _ from e0] <;> rfl
    · intro d s w' hA hF
      obtain ⟨pk0, e0, hl0, _, h4⟩ := hF.f10 (hA.2.2.2.2.2.2.2.2.2.2.1)
      obtain ⟨az00, cz00, az01, cz01, E0, hk0, o0, o1⟩ := h4 (hA.2.2.2.2.2.2.2.2.2.2.2.2.1)
      obtain ⟨pk1, e1, hl1, _, h4⟩ := hF.f11 (hA.2.2.2.2.2.2.2.2.2.2.2.1)
      obtain ⟨az10, cz10, E1, hk1, o2⟩ := h4 (hA.2.2.2.2.2.2.2.2.2.2.2.2.2.1)
      have eT := hF.f14 (hA.2.2.2.2.2.2.2.2.2.2.2.2.2.2.1)
      have H0 : Hid (ABlk 49 w' pk0 #[.int .i64 I00, .int .i64 I01, Value.slice az00 X00.length cz00, Value.slice az01 X01.length cz01] ∧ ABlk 33 w' pk1 #[.int .i64 I10, .int .i64 I11, .int .i64 I12, .int .i64 I13, Value.slice az10 X10.length cz10] ∧ SRow w' az00 X00 ∧ NRow celC w' az01 X01 ∧ SRow w' az10 X10 ∧ Below w7.heap.size w7 w') := ⟨hk0, hk1, OwnS.rowAt (o0), OwnN.rowAt (o1), OwnS.rowAt (o2), hF.bel⟩
      clear hF hA hk0 hk1
      simp only [putL, putT, List.setIfInBounds_toArray, List.set_cons_zero, List.set_cons_succ]
      rw [e0, e1, eT]
      go_wp2_with fail
      go_meet
      case rel => exact ⟨pk0, pk1, az00, cz00, az01, cz01, az10, cz10, rfl, rfl, rfl, H0⟩
  case rest =>
    obtain ⟨pk0, pk1, az00, cz00, az01, cz01, az10, cz10, rfl, rfl, rfl, HZ⟩ := hcut
    have HL : Hid ((ABlk 45 wc w.heap.size #[.int .i64 i, .int .i64 s9, Value.slice a1 xs.length c1, Value.slice a2 ts.length c2]) ∧ (ABlk 26 wc (w.heap.size + 1) #[.int .i64 m, .int .i64 cl, .int .i64 sv, .int .i64 nc, Value.slice a3 ys.length c3]) ∧ (Below w.heap.size w wc) ∧ (ABlk 49 wc pk0 #[.int .i64 I00, .int .i64 I01, Value.slice az00 X00.length cz00, Value.slice az01 X01.length cz01]) ∧ (ABlk 33 wc pk1 #[.int .i64 I10, .int .i64 I11, .int .i64 I12, .int .i64 I13, Value.slice az10 X10.length cz10]) ∧ (SRow wc az00 X00) ∧ (NRow celC wc az01 X01) ∧ (SRow wc az10 X10)) := ⟨(H7.out.1).later HZ.out.2.2.2.2.2, (H7.out.2.1).later HZ.out.2.2.2.2.2, ((H7.out.2.2).trans (HZ.out.2.2.2.2.2.mono (H7.out.2.2).size)), HZ.out.1, HZ.out.2.1, HZ.out.2.2.1, HZ.out.2.2.2.1, HZ.out.2.2.2.2.1⟩
    clear HZ H7
    obtain ⟨wL, hw8⟩ : ∃ w8, w8 = wc := ⟨_, rfl⟩
    subst hw8
    have p0 := (HL.out.1).at 0 _ rfl
    have p1 := (HL.out.1).at 1 _ rfl
    have p2 := (HL.out.1).at 2 _ rfl
    have p3 := (HL.out.1).at 3 _ rfl
    have L3 := (HL.out.1).lt
    go_wp2_with fail
    clear L3 p0 p1 p2 p3
    refine (toServ_any i s9 a1 a2 c1 c2 xs ts _ ((JA0.out.1).later (HL.out.2.2.1)) ((JA0.out.2).later (HL.out.2.2.1)) x1 x2).mono ?_
    rintro r wA ⟨q1, q2, rfl, hq, ⟨f0, f1⟩, wb, b9⟩
    have HA : Hid ((Below wL.heap.size wL wA) ∧ (SRow wA (some ⟨q1, 0, none⟩) xs) ∧ (NRow celC wA (some ⟨q2, 0, none⟩) ts) ∧ (WB wA q1 (xs.length * 7)) ∧ (WB wA q2 (ts.length * 4))) := ⟨b9, f0, f1, wb.1, wb.2⟩
    have hl1 := (wb.1).lt
    have hl2 := (wb.2).lt
    replace hq : wL.heap.size ≤ q1 ∧ q1 < wA.heap.size ∧ wL.heap.size ≤ q2 ∧ q2 < wA.heap.size ∧ q1 < q2 := by omega
    clear b9 wb f0 f1 hl1 hl2
    have LA : w.heap.size + 1 < wA.heap.size := ((HL.out.2.1).later (HA.out.1)).lt
    have p0 := ((HL.out.2.1).later (HA.out.1)).at 0 _ rfl
    have p1 := ((HL.out.2.1).later (HA.out.1)).at 1 _ rfl
    have p2 := ((HL.out.2.1).later (HA.out.1)).at 2 _ rfl
    have p3 := ((HL.out.2.1).later (HA.out.1)).at 3 _ rfl
    have p4 := ((HL.out.2.1).later (HA.out.1)).at 4 _ rfl
    go_wp2_with fail
    clear p0 p1 p2 p3 p4
    have b9 := Below.alloc_ wA (.cells #[.int .i64 i, .int .i64 s9, Value.slice (some ⟨q1, 0, none⟩) xs.length xs.length, Value.slice (some ⟨q2, 0, none⟩) ts.length ts.length] 49)
    have xb := ABlk.new wA 49 #[.int .i64 i, .int .i64 s9, Value.slice (some ⟨q1, 0, none⟩) xs.length xs.length, Value.slice (some ⟨q2, 0, none⟩) ts.length ts.length]
    have bb : Below w.heap.size w (wA.alloc (.cells #[.int .i64 i, .int .i64 s9, Value.slice (some ⟨q1, 0, none⟩) xs.length xs.length, Value.slice (some ⟨q2, 0, none⟩) ts.length ts.length] 49)) := ((HL.out.2.2.1).trans ((HA.out.1).mono (HL.out.2.2.1).size)).trans (b9.mono ((HL.out.2.2.1).trans ((HA.out.1).mono (HL.out.2.2.1).size)).size)
    refine (toMsg_wb m cl sv nc a3 c3 ys _ ((JA1.out).later bb) (by omega)).mono ?_
    rintro r wB ⟨q3, rfl, hq', f0, wb, b10⟩
    have L10 := b10.size
    simp only [World.size_alloc] at hq' L10
    have bq := b9.trans (b10.mono b9.size)
    have HB : Hid ((Below wL.heap.size wL wB) ∧ (SRow wB (some ⟨q1, 0, none⟩) xs) ∧ (NRow celC wB (some ⟨q2, 0, none⟩) ts) ∧ (WB wB q1 (xs.length * 7)) ∧ (WB wB q2 (ts.length * 4)) ∧ (ABlk 49 wB wA.heap.size #[.int .i64 i, .int .i64 s9, Value.slice (some ⟨q1, 0, none⟩) xs.length xs.length, Value.slice (some ⟨q2, 0, none⟩) ts.length ts.length]) ∧ (SRow wB (some ⟨q3, 0, none⟩) ys) ∧ (WB wB q3 (ys.length * 7))) := ⟨(HA.out.1).trans (bq.mono (HA.out.1).size), (HA.out.2.1).later bq, (HA.out.2.2.1).later bq, (HA.out.2.2.2.1).later bq, (HA.out.2.2.2.2).later bq, xb.later b10, f0, wb⟩
    have hl3 := (wb).lt
    replace hq' : wA.heap.size + 1 ≤ q3 ∧ q3 < wB.heap.size := by omega
    clear HA b9 b10 bq bb xb wb LA f0 hl3
    have LB : wA.heap.size < wB.heap.size := (HB.out.2.2.2.2.2.1).lt
    have p0 := (HB.out.2.2.2.2.2.1).at 0 _ rfl
    have p1 := (HB.out.2.2.2.2.2.1).at 1 _ rfl
    have p2 := (HB.out.2.2.2.2.2.1).at 2 _ rfl
    have p3 := (HB.out.2.2.2.2.2.1).at 3 _ rfl
    go_wp2_with fail
    clear p0 p1 p2 p3
    have b9 := Below.alloc_ wB (.cells #[.int .i64 m, .int .i64 cl, .int .i64 sv, .int .i64 nc, Value.slice (some ⟨q3, 0, none⟩) ys.length ys.length] 33)
    have xb := ABlk.new wB 33 #[.int .i64 m, .int .i64 cl, .int .i64 sv, .int .i64 nc, Value.slice (some ⟨q3, 0, none⟩) ys.length ys.length]
    obtain ⟨w5, hw9⟩ : ∃ w9, w9 = (wB.alloc (.cells #[.int .i64 m, .int .i64 cl, .int .i64 sv, .int .i64 nc, Value.slice (some ⟨q3, 0, none⟩) ys.length ys.length] 33)) := ⟨_, rfl⟩
    have L5 : wB.heap.size < w5.heap.size := by rw [hw9]; simp
    rw [← hw9] at b9 xb ⊢
    clear hw9 L10
    have H5 : Hid ((Below wL.heap.size wL w5) ∧ (SRow w5 (some ⟨q1, 0, none⟩) xs) ∧ (NRow celC w5 (some ⟨q2, 0, none⟩) ts) ∧ (WB w5 q1 (xs.length * 7)) ∧ (WB w5 q2 (ts.length * 4)) ∧ (ABlk 49 w5 wA.heap.size #[.int .i64 i, .int .i64 s9, Value.slice (some ⟨q1, 0, none⟩) xs.length xs.length, Value.slice (some ⟨q2, 0, none⟩) ts.length ts.length]) ∧ (SRow w5 (some ⟨q3, 0, none⟩) ys) ∧ (WB w5 q3 (ys.length * 7)) ∧ (ABlk 33 w5 wB.heap.size #[.int .i64 m, .int .i64 cl, .int .i64 sv, .int .i64 nc, Value.slice (some ⟨q3, 0, none⟩) ys.length ys.length])) := ⟨(HB.out.1).trans (b9.mono (HB.out.1).size), (HB.out.2.1).later b9, (HB.out.2.2.1).later b9, (HB.out.2.2.2.1).later b9, (HB.out.2.2.2.2.1).later b9, (HB.out.2.2.2.2.2.1).later b9, (HB.out.2.2.2.2.2.2.1).later b9, (HB.out.2.2.2.2.2.2.2).later b9, xb⟩
    clear HB b9 xb
    refine (HI.out q1 q2 q3 _ (H5.out.2.1) (H5.out.2.2.1) (H5.out.2.2.2.2.2.2.1) (JF.out.later ((HL.out.2.2.1).trans ((H5.out.1).mono (HL.out.2.2.1).size))) x1 x2 x3).mono ?_
    rintro r w6 ⟨ax00, cx00, ax01, cx01, ax10, cx10, Bz, rfl, o0, o1, o2, hBz, oa, b9⟩
    have L6 : w5.heap.size ≤ w6.heap.size := b9.size
    have HO : Hid (∀ k, (Value.slice ax00 X00.length cx00).ownBlock = some k → k < Bz) := oa
    clear oa
    have H6 : Hid ((Below wL.heap.size wL w6) ∧ (SRow w6 (some ⟨q1, 0, none⟩) xs) ∧ (NRow celC w6 (some ⟨q2, 0, none⟩) ts) ∧ (WB w6 q1 (xs.length * 7)) ∧ (WB w6 q2 (ts.length * 4)) ∧ (ABlk 49 w6 wA.heap.size #[.int .i64 i, .int .i64 s9, Value.slice (some ⟨q1, 0, none⟩) xs.length xs.length, Value.slice (some ⟨q2, 0, none⟩) ts.length ts.length]) ∧ (SRow w6 (some ⟨q3, 0, none⟩) ys) ∧ (WB w6 q3 (ys.length * 7)) ∧ (ABlk 33 w6 wB.heap.size #[.int .i64 m, .int .i64 cl, .int .i64 sv, .int .i64 nc, Value.slice (some ⟨q3, 0, none⟩) ys.length ys.length]) ∧ (OwnS w6 w5.heap.size (Value.slice ax00 X00.length cx00) X00) ∧ (OwnN celC 90 w6 w5.heap.size (Value.slice ax01 X01.length cx01) X01) ∧ (OwnS w6 Bz (Value.slice ax10 X10.length cx10) X10)) := ⟨(H5.out.1).trans (b9.mono (H5.out.1).size), (H5.out.2.1).later b9, (H5.out.2.2.1).later b9, (H5.out.2.2.2.1).later b9, (H5.out.2.2.2.2.1).later b9, (H5.out.2.2.2.2.2.1).later b9, (H5.out.2.2.2.2.2.2.1).later b9, (H5.out.2.2.2.2.2.2.2.1).later b9, (H5.out.2.2.2.2.2.2.2.2).later b9, o0, o1, o2⟩
    clear H5 b9 o0 o1 o2
    have L6z := ((HL.out.2.2.2.1).later (H6.out.1)).lt
    have z0 := ((HL.out.2.2.2.1).later (H6.out.1)).at 0 _ rfl
    have z1 := ((HL.out.2.2.2.1).later (H6.out.1)).at 1 _ rfl
    have z2 := ((HL.out.2.2.2.1).later (H6.out.1)).at 2 _ rfl
    have z3 := ((HL.out.2.2.2.1).later (H6.out.1)).at 3 _ rfl
    go_wp2_with fail
    clear L6z z0 z1 z2 z3
    obtain ⟨w7, hw9⟩ : ∃ w9, w9 = ((w6.alloc (.cells #[.int .i64 I00, .int .i64 I01, Value.slice ax00 X00.length cx00, Value.slice ax01 X01.length cx01] 49)).alloc (.cells #[.int .i64 I10, .int .i64 I11, .int .i64 I12, .int .i64 I13, Value.slice ax10 X10.length cx10] 33)) := ⟨_, rfl⟩
    have b9 : Below w6.heap.size w6 w7 := by
      rw [hw9]
      exact (Below.alloc_ _ _).trans ((Below.alloc_ _ _).mono (by simp))
    have k0 : ABlk 49 w7 (w6.heap.size) #[.int .i64 I00, .int .i64 I01, Value.slice ax00 X00.length cx00, Value.slice ax01 X01.length cx01] := by
      rw [hw9]
      exact (ABlk.new _ _ _).later (Below.alloc_ _ _)
    have k1 : ABlk 33 w7 (w6.heap.size + 1) #[.int .i64 I10, .int .i64 I11, .int .i64 I12, .int .i64 I13, Value.slice ax10 X10.length cx10] := by
      rw [hw9]
      have e := ABlk.new (w6.alloc (.cells #[.int .i64 I00, .int .i64 I01, Value.slice ax00 X00.length cx00, Value.slice ax01 X01.length cx01] 49)) 33 #[.int .i64 I10, .int .i64 I11, .int .i64 I12, .int .i64 I13, Value.slice ax10 X10.length cx10]
      rw [World.size_alloc] at e
      exact e
    rw [← hw9]
    clear hw9
    have H7 : Hid ((Below wL.heap.size wL w7) ∧ (SRow w7 (some ⟨q1, 0, none⟩) xs) ∧ (NRow celC w7 (some ⟨q2, 0, none⟩) ts) ∧ (WB w7 q1 (xs.length * 7)) ∧ (WB w7 q2 (ts.length * 4)) ∧ (ABlk 49 w7 wA.heap.size #[.int .i64 i, .int .i64 s9, Value.slice (some ⟨q1, 0, none⟩) xs.length xs.length, Value.slice (some ⟨q2, 0, none⟩) ts.length ts.length]) ∧ (SRow w7 (some ⟨q3, 0, none⟩) ys) ∧ (WB w7 q3 (ys.length * 7)) ∧ (ABlk 33 w7 wB.heap.size #[.int .i64 m, .int .i64 cl, .int .i64 sv, .int .i64 nc, Value.slice (some ⟨q3, 0, none⟩) ys.length ys.length]) ∧ (OwnS w7 w5.heap.size (Value.slice ax00 X00.length cx00) X00) ∧ (OwnN celC 90 w7 w5.heap.size (Value.slice ax01 X01.length cx01) X01) ∧ (OwnS w7 Bz (Value.slice ax10 X10.length cx10) X10) ∧ (ABlk 49 w7 (w6.heap.size) #[.int .i64 I00, .int .i64 I01, Value.slice ax00 X00.length cx00, Value.slice ax01 X01.length cx01]) ∧ (ABlk 33 w7 (w6.heap.size + 1) #[.int .i64 I10, .int .i64 I11, .int .i64 I12, .int .i64 I13, Value.slice ax10 X10.length cx10])) := ⟨(H6.out.1).trans (b9.mono (H6.out.1).size), (H6.out.2.1).later b9, (H6.out.2.2.1).later b9, (H6.out.2.2.2.1).later b9, (H6.out.2.2.2.2.1).later b9, (H6.out.2.2.2.2.2.1).later b9, (H6.out.2.2.2.2.2.2.1).later b9, (H6.out.2.2.2.2.2.2.2.1).later b9, (H6.out.2.2.2.2.2.2.2.2.1).later b9, (H6.out.2.2.2.2.2.2.2.2.2.1).later b9, (H6.out.2.2.2.2.2.2.2.2.2.2.1).later b9, (H6.out.2.2.2.2.2.2.2.2.2.2.2).later b9, k0, k1⟩
    clear H6 b9 k0 k1
    refine (eqServ_same I00 I01 ax00 ax01 az00 az01 cx00 cx01 cz00 cz01 X00 X01 _ (OwnS.rowAt ((H7.out.2.2.2.2.2.2.2.2.2.1))) (OwnN.rowAt ((H7.out.2.2.2.2.2.2.2.2.2.2.1))) ((HL.out.2.2.2.2.2.1).later (H7.out.1)) ((HL.out.2.2.2.2.2.2.1).later (H7.out.1)) hX0 hX1).mono ?_
    rintro r w8 ⟨rfl, b9⟩
    have H8 : Hid ((Below wL.heap.size wL w8) ∧ (SRow w8 (some ⟨q1, 0, none⟩) xs) ∧ (NRow celC w8 (some ⟨q2, 0, none⟩) ts) ∧ (WB w8 q1 (xs.length * 7)) ∧ (WB w8 q2 (ts.length * 4)) ∧ (ABlk 49 w8 wA.heap.size #[.int .i64 i, .int .i64 s9, Value.slice (some ⟨q1, 0, none⟩) xs.length xs.length, Value.slice (some ⟨q2, 0, none⟩) ts.length ts.length]) ∧ (SRow w8 (some ⟨q3, 0, none⟩) ys) ∧ (WB w8 q3 (ys.length * 7)) ∧ (ABlk 33 w8 wB.heap.size #[.int .i64 m, .int .i64 cl, .int .i64 sv, .int .i64 nc, Value.slice (some ⟨q3, 0, none⟩) ys.length ys.length]) ∧ (OwnS w8 w5.heap.size (Value.slice ax00 X00.length cx00) X00) ∧ (OwnN celC 90 w8 w5.heap.size (Value.slice ax01 X01.length cx01) X01) ∧ (OwnS w8 Bz (Value.slice ax10 X10.length cx10) X10) ∧ (ABlk 49 w8 (w6.heap.size) #[.int .i64 I00, .int .i64 I01, Value.slice ax00 X00.length cx00, Value.slice ax01 X01.length cx01]) ∧ (ABlk 33 w8 (w6.heap.size + 1) #[.int .i64 I10, .int .i64 I11, .int .i64 I12, .int .i64 I13, Value.slice ax10 X10.length cx10])) := ⟨(H7.out.1).trans (b9.mono (H7.out.1).size), (H7.out.2.1).later b9, (H7.out.2.2.1).later b9, (H7.out.2.2.2.1).later b9, (H7.out.2.2.2.2.1).later b9, (H7.out.2.2.2.2.2.1).later b9, (H7.out.2.2.2.2.2.2.1).later b9, (H7.out.2.2.2.2.2.2.2.1).later b9, (H7.out.2.2.2.2.2.2.2.2.1).later b9, (H7.out.2.2.2.2.2.2.2.2.2.1).later b9, (H7.out.2.2.2.2.2.2.2.2.2.2.1).later b9, (H7.out.2.2.2.2.2.2.2.2.2.2.2.1).later b9, (H7.out.2.2.2.2.2.2.2.2.2.2.2.2.1).later b9, (H7.out.2.2.2.2.2.2.2.2.2.2.2.2.2).later b9⟩
    clear H7 b9
    have z0 := ((HL.out.2.2.2.2.1).later (H8.out.1)).at 0 _ rfl
    have z1 := ((HL.out.2.2.2.2.1).later (H8.out.1)).at 1 _ rfl
    have z2 := ((HL.out.2.2.2.2.1).later (H8.out.1)).at 2 _ rfl
    have z3 := ((HL.out.2.2.2.2.1).later (H8.out.1)).at 3 _ rfl
    have z4 := ((HL.out.2.2.2.2.1).later (H8.out.1)).at 4 _ rfl
    have y0 := (H8.out.2.2.2.2.2.2.2.2.2.2.2.2.2).at 0 _ rfl
    have y1 := (H8.out.2.2.2.2.2.2.2.2.2.2.2.2.2).at 1 _ rfl
    have y2 := (H8.out.2.2.2.2.2.2.2.2.2.2.2.2.2).at 2 _ rfl
    have y3 := (H8.out.2.2.2.2.2.2.2.2.2.2.2.2.2).at 3 _ rfl
    have y4 := (H8.out.2.2.2.2.2.2.2.2.2.2.2.2.2).at 4 _ rfl
    go_wp2_with fail
    clear z0 z1 z2 z3 z4 y0 y1 y2 y3 y4
    refine (eqMsg_same I10 I11 I12 I13 ax10 az10 cx10 cz10 X10 _ (OwnS.rowAt ((H8.out.2.2.2.2.2.2.2.2.2.2.2.1))) ((HL.out.2.2.2.2.2.2.2).later (H8.out.1)) hX2).mono ?_
    rintro r w9 ⟨rfl, b9⟩
    have H9 : Hid ((Below wL.heap.size wL w9) ∧ (SRow w9 (some ⟨q1, 0, none⟩) xs) ∧ (NRow celC w9 (some ⟨q2, 0, none⟩) ts) ∧ (WB w9 q1 (xs.length * 7)) ∧ (WB w9 q2 (ts.length * 4)) ∧ (ABlk 49 w9 wA.heap.size #[.int .i64 i, .int .i64 s9, Value.slice (some ⟨q1, 0, none⟩) xs.length xs.length, Value.slice (some ⟨q2, 0, none⟩) ts.length ts.length]) ∧ (SRow w9 (some ⟨q3, 0, none⟩) ys) ∧ (WB w9 q3 (ys.length * 7)) ∧ (ABlk 33 w9 wB.heap.size #[.int .i64 m, .int .i64 cl, .int .i64 sv, .int .i64 nc, Value.slice (some ⟨q3, 0, none⟩) ys.length ys.length]) ∧ (OwnS w9 w5.heap.size (Value.slice ax00 X00.length cx00) X00) ∧ (OwnN celC 90 w9 w5.heap.size (Value.slice ax01 X01.length cx01) X01) ∧ (OwnS w9 Bz (Value.slice ax10 X10.length cx10) X10) ∧ (ABlk 49 w9 (w6.heap.size) #[.int .i64 I00, .int .i64 I01, Value.slice ax00 X00.length cx00, Value.slice ax01 X01.length cx01]) ∧ (ABlk 33 w9 (w6.heap.size + 1) #[.int .i64 I10, .int .i64 I11, .int .i64 I12, .int .i64 I13, Value.slice ax10 X10.length cx10])) := ⟨(H8.out.1).trans (b9.mono (H8.out.1).size), (H8.out.2.1).later b9, (H8.out.2.2.1).later b9, (H8.out.2.2.2.1).later b9, (H8.out.2.2.2.2.1).later b9, (H8.out.2.2.2.2.2.1).later b9, (H8.out.2.2.2.2.2.2.1).later b9, (H8.out.2.2.2.2.2.2.2.1).later b9, (H8.out.2.2.2.2.2.2.2.2.1).later b9, (H8.out.2.2.2.2.2.2.2.2.2.1).later b9, (H8.out.2.2.2.2.2.2.2.2.2.2.1).later b9, (H8.out.2.2.2.2.2.2.2.2.2.2.2.1).later b9, (H8.out.2.2.2.2.2.2.2.2.2.2.2.2.1).later b9, (H8.out.2.2.2.2.2.2.2.2.2.2.2.2.2).later b9⟩
    clear H8 b9
    go_wp2_with fail
    refine wp_region_held_drew (S := fun w' => Below w9.heap.size w9 w') (by kernel_rfl) (Below.refl _ _).drew (fun hS => ?_)
    generalize w9.drew = WD at hS ⊢
    refine take1 0 69 (Value.agg #[.int .i64 i, .int .i64 s9, Value.slice (some ⟨q1, 0, none⟩) xs.length xs.length, Value.slice (some ⟨q2, 0, none⟩) ts.length ts.length]) rfl rfl (by kernel_rfl) (by kernel_rfl) (by kernel_rfl) (by rfl) (fun _ _ _ h => h) hS (fun w' hS' => ?_) ?_
    · have x20 := ((H9.out.2.2.2.2.2.1).later hS').at 0 _ rfl
      have x21 := ((H9.out.2.2.2.2.2.1).later hS').at 1 _ rfl
      have x22 := ((H9.out.2.2.2.2.2.1).later hS').at 2 _ rfl
      have x23 := ((H9.out.2.2.2.2.2.1).later hS').at 3 _ rfl
      (go_simp) <;> (intro hx9; omega)
    simp only [Act.put, List.setIfInBounds_toArray, List.set_cons_zero, List.set_cons_succ]
    refine take1 1 70 (Value.agg #[.int .i64 i, .int .i64 s9, Value.slice a1 xs.length c1, Value.slice a2 ts.length c2]) rfl rfl (by kernel_rfl) (by kernel_rfl) (by kernel_rfl) (by rfl) (fun _ _ _ h => h) hS (fun w' hS' => ?_) ?_
    · have x20 := (((HL.out.1).later (H9.out.1)).later hS').at 0 _ rfl
      have x21 := (((HL.out.1).later (H9.out.1)).later hS').at 1 _ rfl
      have x22 := (((HL.out.1).later (H9.out.1)).later hS').at 2 _ rfl
      have x23 := (((HL.out.1).later (H9.out.1)).later hS').at 3 _ rfl
      (go_simp) <;> (intro hx9; omega)
    simp only [Act.put, List.setIfInBounds_toArray, List.set_cons_zero, List.set_cons_succ]
    refine wpAnyH_ready (rs := [2]) (by kernel_rfl) (by simp) ?_
    refine AllReadyH.cons rfl (fun K hK => ?_) AllReadyH.nil
    go_simp
    have bb : Below w.heap.size w WD := ((HL.out.2.2.1).trans ((H9.out.1).mono (HL.out.2.2.1).size)).trans (hS.mono ((HL.out.2.2.1).trans ((H9.out.1).mono (HL.out.2.2.1).size)).size)
    refine (toServ_any i s9 a1 a2 c1 c2 xs ts _ ((JA0.out.1).later bb) ((JA0.out.2).later bb) x1 x2).mono ?_
    rintro r v1 ⟨u1, u2, rfl, _, ⟨f0, f1⟩, _, b6⟩
    have S6 : Below w9.heap.size w9 v1 := hS.trans (b6.mono hS.size)
    have R6 : Hid (SRow v1 (some ⟨u1, 0, none⟩) xs ∧ NRow celC v1 (some ⟨u2, 0, none⟩) ts) := ⟨f0, f1⟩
    clear f0 f1
    refine hK.out _ _ S6 (fun hS => ?_)
    clear hK K b6 S6 bb
    refine wpAnyH_ready (rs := [3]) (by kernel_rfl) (by simp) ?_
    refine AllReadyH.cons rfl (fun K hK => ?_) AllReadyH.nil
    go_simp
    refine (eqServ_same i s9 _ _ _ _ _ _ _ _ xs ts _ ((H9.out.2.1).later hS) ((H9.out.2.2.1).later hS) (R6.out.1) (R6.out.2) (by omega) (by omega)).mono ?_
    rintro r w10 ⟨rfl, b7⟩
    have b9 : Below w9.heap.size w9 w10 := hS.trans (b7.mono hS.size)
    refine hK.out _ _ b9 (fun hS => ?_)
    clear hK K b7
    refine take1 4 73 (.bool false) rfl rfl (by kernel_rfl) (by kernel_rfl) (by kernel_rfl) (by rfl) (fun _ _ _ h => h) hS (fun w' hS' => ?_) ?_
    · (go_simp) <;> (intro hx9; omega)
    simp only [Act.put, List.setIfInBounds_toArray, List.set_cons_zero, List.set_cons_succ]
    refine wpAnyH_done (by kernel_rfl) ?_ _
    clear hS R6
    have H10 : Hid ((Below wL.heap.size wL w10) ∧ (SRow w10 (some ⟨q1, 0, none⟩) xs) ∧ (NRow celC w10 (some ⟨q2, 0, none⟩) ts) ∧ (WB w10 q1 (xs.length * 7)) ∧ (WB w10 q2 (ts.length * 4)) ∧ (ABlk 49 w10 wA.heap.size #[.int .i64 i, .int .i64 s9, Value.slice (some ⟨q1, 0, none⟩) xs.length xs.length, Value.slice (some ⟨q2, 0, none⟩) ts.length ts.length]) ∧ (SRow w10 (some ⟨q3, 0, none⟩) ys) ∧ (WB w10 q3 (ys.length * 7)) ∧ (ABlk 33 w10 wB.heap.size #[.int .i64 m, .int .i64 cl, .int .i64 sv, .int .i64 nc, Value.slice (some ⟨q3, 0, none⟩) ys.length ys.length]) ∧ (OwnS w10 w5.heap.size (Value.slice ax00 X00.length cx00) X00) ∧ (OwnN celC 90 w10 w5.heap.size (Value.slice ax01 X01.length cx01) X01) ∧ (OwnS w10 Bz (Value.slice ax10 X10.length cx10) X10) ∧ (ABlk 49 w10 (w6.heap.size) #[.int .i64 I00, .int .i64 I01, Value.slice ax00 X00.length cx00, Value.slice ax01 X01.length cx01]) ∧ (ABlk 33 w10 (w6.heap.size + 1) #[.int .i64 I10, .int .i64 I11, .int .i64 I12, .int .i64 I13, Value.slice ax10 X10.length cx10])) := ⟨(H9.out.1).trans (b9.mono (H9.out.1).size), (H9.out.2.1).later b9, (H9.out.2.2.1).later b9, (H9.out.2.2.2.1).later b9, (H9.out.2.2.2.2.1).later b9, (H9.out.2.2.2.2.2.1).later b9, (H9.out.2.2.2.2.2.2.1).later b9, (H9.out.2.2.2.2.2.2.2.1).later b9, (H9.out.2.2.2.2.2.2.2.2.1).later b9, (H9.out.2.2.2.2.2.2.2.2.2.1).later b9, (H9.out.2.2.2.2.2.2.2.2.2.2.1).later b9, (H9.out.2.2.2.2.2.2.2.2.2.2.2.1).later b9, (H9.out.2.2.2.2.2.2.2.2.2.2.2.2.1).later b9, (H9.out.2.2.2.2.2.2.2.2.2.2.2.2.2).later b9⟩
    clear H9 b9
    go_wp2_with fail
    refine wp_region_held_drew (S := fun w' => Below w10.heap.size w10 w') (by kernel_rfl) (Below.refl _ _).drew (fun hS => ?_)
    generalize w10.drew = WD at hS ⊢
    refine take1 0 74 (Value.agg #[.int .i64 m, .int .i64 cl, .int .i64 sv, .int .i64 nc, Value.slice (some ⟨q3, 0, none⟩) ys.length ys.length]) rfl rfl (by kernel_rfl) (by kernel_rfl) (by kernel_rfl) (by rfl) (fun _ _ _ h => h) hS (fun w' hS' => ?_) ?_
    · have x20 := ((H10.out.2.2.2.2.2.2.2.2.1).later hS').at 0 _ rfl
      have x21 := ((H10.out.2.2.2.2.2.2.2.2.1).later hS').at 1 _ rfl
      have x22 := ((H10.out.2.2.2.2.2.2.2.2.1).later hS').at 2 _ rfl
      have x23 := ((H10.out.2.2.2.2.2.2.2.2.1).later hS').at 3 _ rfl
      have x24 := ((H10.out.2.2.2.2.2.2.2.2.1).later hS').at 4 _ rfl
      (go_simp) <;> (intro hx9; omega)
    simp only [Act.put, List.setIfInBounds_toArray, List.set_cons_zero, List.set_cons_succ]
    refine take1 1 75 (Value.agg #[.int .i64 m, .int .i64 cl, .int .i64 sv, .int .i64 nc, Value.slice a3 ys.length c3]) rfl rfl (by kernel_rfl) (by kernel_rfl) (by kernel_rfl) (by rfl) (fun _ _ _ h => h) hS (fun w' hS' => ?_) ?_
    · have x20 := (((HL.out.2.1).later (H10.out.1)).later hS').at 0 _ rfl
      have x21 := (((HL.out.2.1).later (H10.out.1)).later hS').at 1 _ rfl
      have x22 := (((HL.out.2.1).later (H10.out.1)).later hS').at 2 _ rfl
      have x23 := (((HL.out.2.1).later (H10.out.1)).later hS').at 3 _ rfl
      have x24 := (((HL.out.2.1).later (H10.out.1)).later hS').at 4 _ rfl
      (go_simp) <;> (intro hx9; omega)
    simp only [Act.put, List.setIfInBounds_toArray, List.set_cons_zero, List.set_cons_succ]
    refine wpAnyH_ready (rs := [2]) (by kernel_rfl) (by simp) ?_
    refine AllReadyH.cons rfl (fun K hK => ?_) AllReadyH.nil
    go_simp
    have bb : Below w.heap.size w WD := ((HL.out.2.2.1).trans ((H10.out.1).mono (HL.out.2.2.1).size)).trans (hS.mono ((HL.out.2.2.1).trans ((H10.out.1).mono (HL.out.2.2.1).size)).size)
    refine (toMsg_wb m cl sv nc a3 c3 ys _ ((JA1.out).later bb) (by omega)).mono ?_
    rintro r v1 ⟨u3, rfl, _, f0, _, b6⟩
    have S6 : Below w10.heap.size w10 v1 := hS.trans (b6.mono hS.size)
    have R6 : Hid (SRow v1 (some ⟨u3, 0, none⟩) ys) := f0
    clear f0
    refine hK.out _ _ S6 (fun hS => ?_)
    clear hK K b6 S6 bb
    refine wpAnyH_ready (rs := [3]) (by kernel_rfl) (by simp) ?_
    refine AllReadyH.cons rfl (fun K hK => ?_) AllReadyH.nil
    go_simp
    refine (eqMsg_same m cl sv nc _ _ _ _ ys _ ((H10.out.2.2.2.2.2.2.1).later hS) (R6.out) (by omega)).mono ?_
    rintro r w11 ⟨rfl, b7⟩
    have b9 : Below w10.heap.size w10 w11 := hS.trans (b7.mono hS.size)
    refine hK.out _ _ b9 (fun hS => ?_)
    clear hK K b7
    refine take1 4 78 (.bool false) rfl rfl (by kernel_rfl) (by kernel_rfl) (by kernel_rfl) (by rfl) (fun _ _ _ h => h) hS (fun w' hS' => ?_) ?_
    · (go_simp) <;> (intro hx9; omega)
    simp only [Act.put, List.setIfInBounds_toArray, List.set_cons_zero, List.set_cons_succ]
    refine wpAnyH_done (by kernel_rfl) ?_ _
    clear hS R6
    have H11 : Hid ((Below wL.heap.size wL w11) ∧ (SRow w11 (some ⟨q1, 0, none⟩) xs) ∧ (NRow celC w11 (some ⟨q2, 0, none⟩) ts) ∧ (WB w11 q1 (xs.length * 7)) ∧ (WB w11 q2 (ts.length * 4)) ∧ (ABlk 49 w11 wA.heap.size #[.int .i64 i, .int .i64 s9, Value.slice (some ⟨q1, 0, none⟩) xs.length xs.length, Value.slice (some ⟨q2, 0, none⟩) ts.length ts.length]) ∧ (SRow w11 (some ⟨q3, 0, none⟩) ys) ∧ (WB w11 q3 (ys.length * 7)) ∧ (ABlk 33 w11 wB.heap.size #[.int .i64 m, .int .i64 cl, .int .i64 sv, .int .i64 nc, Value.slice (some ⟨q3, 0, none⟩) ys.length ys.length]) ∧ (OwnS w11 w5.heap.size (Value.slice ax00 X00.length cx00) X00) ∧ (OwnN celC 90 w11 w5.heap.size (Value.slice ax01 X01.length cx01) X01) ∧ (OwnS w11 Bz (Value.slice ax10 X10.length cx10) X10) ∧ (ABlk 49 w11 (w6.heap.size) #[.int .i64 I00, .int .i64 I01, Value.slice ax00 X00.length cx00, Value.slice ax01 X01.length cx01]) ∧ (ABlk 33 w11 (w6.heap.size + 1) #[.int .i64 I10, .int .i64 I11, .int .i64 I12, .int .i64 I13, Value.slice ax10 X10.length cx10])) := ⟨(H10.out.1).trans (b9.mono (H10.out.1).size), (H10.out.2.1).later b9, (H10.out.2.2.1).later b9, (H10.out.2.2.2.1).later b9, (H10.out.2.2.2.2.1).later b9, (H10.out.2.2.2.2.2.1).later b9, (H10.out.2.2.2.2.2.2.1).later b9, (H10.out.2.2.2.2.2.2.2.1).later b9, (H10.out.2.2.2.2.2.2.2.2.1).later b9, (H10.out.2.2.2.2.2.2.2.2.2.1).later b9, (H10.out.2.2.2.2.2.2.2.2.2.2.1).later b9, (H10.out.2.2.2.2.2.2.2.2.2.2.2.1).later b9, (H10.out.2.2.2.2.2.2.2.2.2.2.2.2.1).later b9, (H10.out.2.2.2.2.2.2.2.2.2.2.2.2.2).later b9⟩
    clear H10 b9
    have p0 := (H11.out.2.2.2.2.2.1).at 0 _ rfl
    have p1 := (H11.out.2.2.2.2.2.1).at 1 _ rfl
    have p2 := (H11.out.2.2.2.2.2.1).at 2 _ rfl
    have p3 := (H11.out.2.2.2.2.2.1).at 3 _ rfl
    go_wp2_with fail
    clear p0 p1 p2 p3
    refine (markServ_row i s9 q1 xs.length q2 ts.length (1) _ ⟨H11.out.2.2.2.1, H11.out.2.2.2.2.1⟩ (by omega) (by omega) (by omega) (by omega) (by omega)).mono ?_
    rintro r w12 ⟨rfl, g9⟩
    have H12 : Hid ((Below wL.heap.size wL w12) ∧ (WB w12 q3 (ys.length * 7)) ∧ (ABlk 33 w12 wB.heap.size #[.int .i64 m, .int .i64 cl, .int .i64 sv, .int .i64 nc, Value.slice (some ⟨q3, 0, none⟩) ys.length ys.length]) ∧ (OwnS w12 w5.heap.size (Value.slice ax00 X00.length cx00) X00) ∧ (OwnN celC 90 w12 w5.heap.size (Value.slice ax01 X01.length cx01) X01) ∧ (OwnS w12 Bz (Value.slice ax10 X10.length cx10) X10) ∧ (ABlk 49 w12 (w6.heap.size) #[.int .i64 I00, .int .i64 I01, Value.slice ax00 X00.length cx00, Value.slice ax01 X01.length cx01]) ∧ (ABlk 33 w12 (w6.heap.size + 1) #[.int .i64 I10, .int .i64 I11, .int .i64 I12, .int .i64 I13, Value.slice ax10 X10.length cx10])) := ⟨below_grl (H11.out.1) g9 (H11.out.1).size (fun k hk => by simp at hk; omega), (H11.out.2.2.2.2.2.2.2.1).same (g9.block _ (H11.out.2.2.2.2.2.2.2.1).lt (by simp; omega)), (H11.out.2.2.2.2.2.2.2.2.1).grl g9 (by simp; omega), (H11.out.2.2.2.2.2.2.2.2.2.1).grl g9 (fun k e => by have h7 := (H11.out.2.2.2.2.2.2.2.2.2.1).low k e; simp; omega), (H11.out.2.2.2.2.2.2.2.2.2.2.1).grl g9 (fun k e => by have h7 := (H11.out.2.2.2.2.2.2.2.2.2.2.1).low k e; simp; omega), (H11.out.2.2.2.2.2.2.2.2.2.2.2.1).grl g9 (fun k e => by have h7 := (H11.out.2.2.2.2.2.2.2.2.2.2.2.1).low k e; simp; omega), (H11.out.2.2.2.2.2.2.2.2.2.2.2.2.1).grl g9 (by simp; omega), (H11.out.2.2.2.2.2.2.2.2.2.2.2.2.2).grl g9 (by simp; omega)⟩
    clear H11 g9
    have p0 := (H12.out.2.2.1).at 0 _ rfl
    have p1 := (H12.out.2.2.1).at 1 _ rfl
    have p2 := (H12.out.2.2.1).at 2 _ rfl
    have p3 := (H12.out.2.2.1).at 3 _ rfl
    have p4 := (H12.out.2.2.1).at 4 _ rfl
    go_wp2_with fail
    clear p0 p1 p2 p3 p4
    refine (markMsg_row m cl sv nc q3 ys.length _ (1 + 7 * (xs.length : Int) + 4 * (ts.length : Int)) _ (H12.out.2.1) (by omega) (by omega) (by omega)).mono ?_
    rintro r w13 ⟨rfl, g9⟩
    replace g9 := GrL.of g9
    have H13 : Hid ((Below wL.heap.size wL w13) ∧ (OwnS w13 w5.heap.size (Value.slice ax00 X00.length cx00) X00) ∧ (OwnN celC 90 w13 w5.heap.size (Value.slice ax01 X01.length cx01) X01) ∧ (OwnS w13 Bz (Value.slice ax10 X10.length cx10) X10) ∧ (ABlk 49 w13 (w6.heap.size) #[.int .i64 I00, .int .i64 I01, Value.slice ax00 X00.length cx00, Value.slice ax01 X01.length cx01]) ∧ (ABlk 33 w13 (w6.heap.size + 1) #[.int .i64 I10, .int .i64 I11, .int .i64 I12, .int .i64 I13, Value.slice ax10 X10.length cx10])) := ⟨below_grl (H12.out.1) g9 (H12.out.1).size (fun k hk => by simp at hk; omega), (H12.out.2.2.2.1).grl g9 (fun k e => by have h7 := (H12.out.2.2.2.1).low k e; simp; omega), (H12.out.2.2.2.2.1).grl g9 (fun k e => by have h7 := (H12.out.2.2.2.2.1).low k e; simp; omega), (H12.out.2.2.2.2.2.1).grl g9 (fun k e => by have h7 := (H12.out.2.2.2.2.2.1).low k e; simp; omega), (H12.out.2.2.2.2.2.2.1).grl g9 (by simp; omega), (H12.out.2.2.2.2.2.2.2).grl g9 (by simp; omega)⟩
    clear H12 g9
    have hm0 : ¬ (1 + 7 * (xs.length : Int) + 4 * (ts.length : Int) + 7 * (ys.length : Int)) < 0 := by omega
    have z0 := ((HL.out.2.2.2.1).later (H13.out.1)).at 0 _ rfl
    have z1 := ((HL.out.2.2.2.1).later (H13.out.1)).at 1 _ rfl
    have z2 := ((HL.out.2.2.2.1).later (H13.out.1)).at 2 _ rfl
    have z3 := ((HL.out.2.2.2.1).later (H13.out.1)).at 3 _ rfl
    have y0 := (H13.out.2.2.2.2.1).at 0 _ rfl
    have y1 := (H13.out.2.2.2.2.1).at 1 _ rfl
    have y2 := (H13.out.2.2.2.2.1).at 2 _ rfl
    have y3 := (H13.out.2.2.2.2.1).at 3 _ rfl
    go_wp2_with fail
    clear hm0 z0 z1 z2 z3 y0 y1 y2 y3
    refine (eqServ_same I00 I01 ax00 ax01 az00 az01 cx00 cx01 cz00 cz01 X00 X01 _ (OwnS.rowAt ((H13.out.2.1))) (OwnN.rowAt ((H13.out.2.2.1))) ((HL.out.2.2.2.2.2.1).later (H13.out.1)) ((HL.out.2.2.2.2.2.2.1).later (H13.out.1)) hX0 hX1).mono ?_
    rintro r w14 ⟨rfl, b9⟩
    have H14 : Hid ((Below wL.heap.size wL w14) ∧ (OwnS w14 w5.heap.size (Value.slice ax00 X00.length cx00) X00) ∧ (OwnN celC 90 w14 w5.heap.size (Value.slice ax01 X01.length cx01) X01) ∧ (OwnS w14 Bz (Value.slice ax10 X10.length cx10) X10) ∧ (ABlk 49 w14 (w6.heap.size) #[.int .i64 I00, .int .i64 I01, Value.slice ax00 X00.length cx00, Value.slice ax01 X01.length cx01]) ∧ (ABlk 33 w14 (w6.heap.size + 1) #[.int .i64 I10, .int .i64 I11, .int .i64 I12, .int .i64 I13, Value.slice ax10 X10.length cx10])) := ⟨(H13.out.1).trans (b9.mono (H13.out.1).size), (H13.out.2.1).later b9, (H13.out.2.2.1).later b9, (H13.out.2.2.2.1).later b9, (H13.out.2.2.2.2.1).later b9, (H13.out.2.2.2.2.2).later b9⟩
    clear H13 b9
    have z0 := ((HL.out.2.2.2.2.1).later (H14.out.1)).at 0 _ rfl
    have z1 := ((HL.out.2.2.2.2.1).later (H14.out.1)).at 1 _ rfl
    have z2 := ((HL.out.2.2.2.2.1).later (H14.out.1)).at 2 _ rfl
    have z3 := ((HL.out.2.2.2.2.1).later (H14.out.1)).at 3 _ rfl
    have z4 := ((HL.out.2.2.2.2.1).later (H14.out.1)).at 4 _ rfl
    have y0 := (H14.out.2.2.2.2.2).at 0 _ rfl
    have y1 := (H14.out.2.2.2.2.2).at 1 _ rfl
    have y2 := (H14.out.2.2.2.2.2).at 2 _ rfl
    have y3 := (H14.out.2.2.2.2.2).at 3 _ rfl
    have y4 := (H14.out.2.2.2.2.2).at 4 _ rfl
    go_wp2_with fail
    clear z0 z1 z2 z3 z4 y0 y1 y2 y3 y4
    refine (eqMsg_same I10 I11 I12 I13 ax10 az10 cx10 cz10 X10 _ (OwnS.rowAt ((H14.out.2.2.2.1))) ((HL.out.2.2.2.2.2.2.2).later (H14.out.1)) hX2).mono ?_
    rintro r w15 ⟨rfl, b9⟩
    have H15 : Hid ((Below wL.heap.size wL w15) ∧ (OwnS w15 w5.heap.size (Value.slice ax00 X00.length cx00) X00) ∧ (OwnN celC 90 w15 w5.heap.size (Value.slice ax01 X01.length cx01) X01) ∧ (OwnS w15 Bz (Value.slice ax10 X10.length cx10) X10) ∧ (ABlk 49 w15 (w6.heap.size) #[.int .i64 I00, .int .i64 I01, Value.slice ax00 X00.length cx00, Value.slice ax01 X01.length cx01]) ∧ (ABlk 33 w15 (w6.heap.size + 1) #[.int .i64 I10, .int .i64 I11, .int .i64 I12, .int .i64 I13, Value.slice ax10 X10.length cx10])) := ⟨(H14.out.1).trans (b9.mono (H14.out.1).size), (H14.out.2.1).later b9, (H14.out.2.2.1).later b9, (H14.out.2.2.2.1).later b9, (H14.out.2.2.2.2.1).later b9, (H14.out.2.2.2.2.2).later b9⟩
    clear H14 b9
    have nd001 : Hid (∀ k, (Value.slice ax00 X00.length cx00).ownBlock = some k → some k ∉ [(Value.slice ax10 X10.length cx10).ownBlock]) := by
      intro k e
      simp only [List.mem_cons, List.not_mem_nil, or_false]
      exact fun e2 => by have h7 := HO.out k e; have h8 := ((H15.out.2.2.2.1)).low k e2.symm; omega
    have nd011 : Hid (∀ k, (Value.slice ax01 X01.length cx01).ownBlock = some k → some k ∉ [(Value.slice ax10 X10.length cx10).ownBlock]) := by
      intro k e
      simp only [List.mem_cons, List.not_mem_nil, or_false]
      exact fun e2 => own_ne ((H15.out.2.2.1)) ((H15.out.2.2.2.1)) (by decide) k e e2.symm
    have nd100 : Hid (∀ k, (Value.slice ax10 X10.length cx10).ownBlock = some k → some k ∉ [(Value.slice ax00 X00.length cx00).ownBlock, (Value.slice ax01 X01.length cx01).ownBlock]) := by
      intro k e
      simp only [List.mem_cons, List.not_mem_nil, or_false, not_or]
      exact ⟨fun e2 => by have h7 := HO.out k e2.symm; have h8 := ((H15.out.2.2.2.1)).low k e; omega, fun e2 => own_ne ((H15.out.2.2.2.1)) ((H15.out.2.2.1)) (by decide) k e e2.symm⟩
    have y0 := (H15.out.2.2.2.2.1).at 0 _ rfl
    have y1 := (H15.out.2.2.2.2.1).at 1 _ rfl
    have y2 := (H15.out.2.2.2.2.1).at 2 _ rfl
    have y3 := (H15.out.2.2.2.2.1).at 3 _ rfl
    go_wp2_with fail
    clear y0 y1 y2 y3
    refine (markServ_own I00 I01 (1) (H15.out.2.1) (H15.out.2.2.1) (own_ne (H15.out.2.1) (H15.out.2.2.1) (by decide)) hX0 hX1 (by omega) (by omega)).mono ?_
    rintro r w16 ⟨rfl, g9, m9⟩
    have H16 : Hid ((Below wL.heap.size wL w16) ∧ (OwnS w16 Bz (Value.slice ax10 X10.length cx10) X10) ∧ (ABlk 49 w16 (w6.heap.size) #[.int .i64 I00, .int .i64 I01, Value.slice ax00 X00.length cx00, Value.slice ax01 X01.length cx01]) ∧ (ABlk 33 w16 (w6.heap.size + 1) #[.int .i64 I10, .int .i64 I11, .int .i64 I12, .int .i64 I13, Value.slice ax10 X10.length cx10]) ∧ (Mk7 w16 (Value.slice ax00 X00.length cx00) X00.length (1)) ∧ (MkN 4 w16 (Value.slice ax01 X01.length cx01) X01.length (1 + 7 * (X00.length : Int)))) := ⟨below_grl (H15.out.1) g9 (H15.out.1).size (fun k hk => by simp only [List.mem_cons, List.not_mem_nil, or_false] at hk; have h8 := (H15.out.1).size; exact hk.elim (fun hk => by have h7 := ((H15.out.2.1)).low k hk.symm; omega) (fun hk => by have h7 := ((H15.out.2.2.1)).low k hk.symm; omega)), (H15.out.2.2.2.1).grl g9 nd100.out, (H15.out.2.2.2.2.1).grl g9 (by simp only [List.mem_cons, List.not_mem_nil, or_false, not_or]; exact ⟨fun e => own_off (H15.out.2.2.2.2.1) ((H15.out.2.1)) (by decide) e.symm, fun e => own_off (H15.out.2.2.2.2.1) ((H15.out.2.2.1)) (by decide) e.symm⟩), (H15.out.2.2.2.2.2).grl g9 (by simp only [List.mem_cons, List.not_mem_nil, or_false, not_or]; exact ⟨fun e => own_off (H15.out.2.2.2.2.2) ((H15.out.2.1)) (by decide) e.symm, fun e => own_off (H15.out.2.2.2.2.2) ((H15.out.2.2.1)) (by decide) e.symm⟩), m9.1, m9.2⟩
    clear H15 g9 m9
    have y0 := (H16.out.2.2.2.1).at 0 _ rfl
    have y1 := (H16.out.2.2.2.1).at 1 _ rfl
    have y2 := (H16.out.2.2.2.1).at 2 _ rfl
    have y3 := (H16.out.2.2.2.1).at 3 _ rfl
    have y4 := (H16.out.2.2.2.1).at 4 _ rfl
    go_wp2_with fail
    clear y0 y1 y2 y3 y4
    refine (markMsg_own2 I10 I11 I12 I13 (1 + 7 * (X00.length : Int) + 4 * (X01.length : Int)) (H16.out.2.1) hX2 (by omega) (by omega)).mono ?_
    rintro r w17 ⟨rfl, g9, m9⟩
    replace g9 := GrL.of g9
    have H17 : Hid ((Below wL.heap.size wL w17) ∧ (ABlk 49 w17 (w6.heap.size) #[.int .i64 I00, .int .i64 I01, Value.slice ax00 X00.length cx00, Value.slice ax01 X01.length cx01]) ∧ (ABlk 33 w17 (w6.heap.size + 1) #[.int .i64 I10, .int .i64 I11, .int .i64 I12, .int .i64 I13, Value.slice ax10 X10.length cx10]) ∧ (Mk7 w17 (Value.slice ax00 X00.length cx00) X00.length (1)) ∧ (MkN 4 w17 (Value.slice ax01 X01.length cx01) X01.length (1 + 7 * (X00.length : Int))) ∧ (Mk7 w17 (Value.slice ax10 X10.length cx10) X10.length (1 + 7 * (X00.length : Int) + 4 * (X01.length : Int)))) := ⟨below_grl (H16.out.1) g9 (H16.out.1).size (fun k hk => by simp only [List.mem_cons, List.not_mem_nil, or_false] at hk; have h7 := ((H16.out.2.1)).low k (by simpa [eq_comm] using hk); have h8 := (H16.out.1).size; omega), (H16.out.2.2.1).grl g9 (by simp only [List.mem_cons, List.not_mem_nil, or_false]; exact fun e => own_off (H16.out.2.2.1) ((H16.out.2.1)) (by decide) e.symm), (H16.out.2.2.2.1).grl g9 (by simp only [List.mem_cons, List.not_mem_nil, or_false]; exact fun e => own_off (H16.out.2.2.2.1) ((H16.out.2.1)) (by decide) e.symm), (H16.out.2.2.2.2.1).grl g9 nd001.out, (H16.out.2.2.2.2.2).grl g9 nd011.out, m9⟩
    clear H16 g9 m9
    clear nd001 nd011 nd100
    have hk0 : ¬ (1 + 7 * (X00.length : Int) + 4 * (X01.length : Int)) < 0 := by omega
    have hk1 : ¬ (1 + 7 * (X00.length : Int) + 4 * (X01.length : Int) + 7 * (X10.length : Int)) < 0 := by omega
    have y0 := (H17.out.2.1).at 0 _ rfl
    have y1 := (H17.out.2.1).at 1 _ rfl
    have y2 := (H17.out.2.1).at 2 _ rfl
    have y3 := (H17.out.2.1).at 3 _ rfl
    go_wp2_with fail
    clear y0 y1 y2 y3
    refine (heldServ_own I00 I01 (1) ⟨H17.out.2.2.2.1, H17.out.2.2.2.2.1⟩ hX0 hX1 (by omega) (by omega)).mono ?_
    rintro r w18 ⟨rfl, b9⟩
    have H18 : Hid ((Below wL.heap.size wL w18) ∧ (ABlk 49 w18 (w6.heap.size) #[.int .i64 I00, .int .i64 I01, Value.slice ax00 X00.length cx00, Value.slice ax01 X01.length cx01]) ∧ (ABlk 33 w18 (w6.heap.size + 1) #[.int .i64 I10, .int .i64 I11, .int .i64 I12, .int .i64 I13, Value.slice ax10 X10.length cx10]) ∧ (Mk7 w18 (Value.slice ax00 X00.length cx00) X00.length (1)) ∧ (MkN 4 w18 (Value.slice ax01 X01.length cx01) X01.length (1 + 7 * (X00.length : Int))) ∧ (Mk7 w18 (Value.slice ax10 X10.length cx10) X10.length (1 + 7 * (X00.length : Int) + 4 * (X01.length : Int)))) := ⟨(H17.out.1).trans (b9.mono (H17.out.1).size), (H17.out.2.1).later b9, (H17.out.2.2.1).later b9, (H17.out.2.2.2.1).later b9, (H17.out.2.2.2.2.1).later b9, (H17.out.2.2.2.2.2).later b9⟩
    clear H17 b9
    have y0 := (H18.out.2.2.1).at 0 _ rfl
    have y1 := (H18.out.2.2.1).at 1 _ rfl
    have y2 := (H18.out.2.2.1).at 2 _ rfl
    have y3 := (H18.out.2.2.1).at 3 _ rfl
    have y4 := (H18.out.2.2.1).at 4 _ rfl
    go_wp2_with fail
    clear y0 y1 y2 y3 y4
    refine (heldMsg_own I10 I11 I12 I13 (1 + 7 * (X00.length : Int) + 4 * (X01.length : Int)) (H18.out.2.2.2.2.2) hX2 (by omega) (by omega)).mono ?_
    rintro r w19 ⟨rfl, b9⟩
    have H19 : Hid ((Below wL.heap.size wL w19) ∧ (ABlk 49 w19 (w6.heap.size) #[.int .i64 I00, .int .i64 I01, Value.slice ax00 X00.length cx00, Value.slice ax01 X01.length cx01]) ∧ (ABlk 33 w19 (w6.heap.size + 1) #[.int .i64 I10, .int .i64 I11, .int .i64 I12, .int .i64 I13, Value.slice ax10 X10.length cx10]) ∧ (Mk7 w19 (Value.slice ax00 X00.length cx00) X00.length (1)) ∧ (MkN 4 w19 (Value.slice ax01 X01.length cx01) X01.length (1 + 7 * (X00.length : Int))) ∧ (Mk7 w19 (Value.slice ax10 X10.length cx10) X10.length (1 + 7 * (X00.length : Int) + 4 * (X01.length : Int)))) := ⟨(H18.out.1).trans (b9.mono (H18.out.1).size), (H18.out.2.1).later b9, (H18.out.2.2.1).later b9, (H18.out.2.2.2.1).later b9, (H18.out.2.2.2.2.1).later b9, (H18.out.2.2.2.2.2).later b9⟩
    clear H18 b9
    have HW : Hid ((ABlk 45 w19 w.heap.size #[.int .i64 i, .int .i64 s9, Value.slice a1 xs.length c1, Value.slice a2 ts.length c2]) ∧ (ABlk 26 w19 (w.heap.size + 1) #[.int .i64 m, .int .i64 cl, .int .i64 sv, .int .i64 nc, Value.slice a3 ys.length c3]) ∧ (Below w.heap.size w w19)) := ⟨(HL.out.1).later (H19.out.1), (HL.out.2.1).later (H19.out.1), (HL.out.2.2.1).trans ((H19.out.1).mono (HL.out.2.2.1).size)⟩
    go_upto_region 35 with fail
    go_cut [19, 20, 21] (fun v19 v20 v21 wc => ∃ (pj0 pj1 : Nat) (ah00 : Option Addr) (ch00 : Nat) (ah01 : Option Addr) (ch01 : Nat) (ah10 : Option Addr) (ch10 : Nat), v19 = .pointer (some ⟨pj0, 0, none⟩) ∧ v20 = .pointer (some ⟨pj1, 0, none⟩) ∧ v21 = .bool T ∧ Hid (ABlk 49 wc pj0 #[.int .i64 I00, .int .i64 I01, Value.slice ah00 X00.length ch00, Value.slice ah01 X01.length ch01] ∧ ABlk 33 wc pj1 #[.int .i64 I10, .int .i64 I11, .int .i64 I12, .int .i64 I13, Value.slice ah10 X10.length ch10] ∧ SRow wc ah00 X00 ∧ NRow celC wc ah01 X01 ∧ SRow wc ah10 X10 ∧ Below w19.heap.size w19 wc))
    case first =>
      clear HL H19
      refine wp_region_inv [124, 125, 126, 127, 128, 129, 123, 130, 131, 132, 19, 20, 21] (RgServHear w19 i s9 m cl sv nc a1 a2 a3 c1 c2 c3 xs ts ys now I00 I01 X00 X01 I10 I11 I12 I13 X10 T 124 125 126 127 128 129 123 130 131 132 19 20 21) [0, 1, 2, 3, 4, 5, 6, 7, 8, 9, 10, 11, 12, 13, 14] (by kernel_rfl) (by kernel_rfl) (by kernel_rfl) ?_ ?_ ?_
      · intro s
        exact ⟨(Below.refl _ _).drew, fun e => (by cases e), fun _ e => (by cases e), fun e => (by cases e), fun _ e => (by cases e), fun e => (by cases e), fun _ e => (by cases e), fun e => (by cases e), fun e => (by cases e), fun e => (by cases e), fun e => (by cases e), fun e => (by cases e), fun e => (by cases e), fun e => (by cases e)⟩
      · refine StepsI.cons (i := 0) [] rfl (by kernel_rfl) ?_ (StepsI.cons (i := 1) [0] rfl (by kernel_rfl) ?_ (StepsI.cons (i := 2) [] rfl (by kernel_rfl) ?_ (StepsI.cons (i := 3) [1, 2] rfl (by kernel_rfl) ?_ (StepsI.cons (i := 4) [] rfl (by kernel_rfl) ?_ (StepsI.cons (i := 5) [1, 3, 4] rfl (by kernel_rfl) ?_ (StepsI.cons (i := 6) [5] rfl (by kernel_rfl) ?_ (StepsI.cons (i := 7) [6] rfl (by kernel_rfl) ?_ (StepsI.cons (i := 8) [6] rfl (by kernel_rfl) ?_ (StepsI.cons (i := 9) [6] rfl (by kernel_rfl) ?_ (StepsI.cons (i := 10) [] rfl (by kernel_rfl) ?_ (StepsI.cons (i := 11) [] rfl (by kernel_rfl) ?_ (StepsI.cons (i := 12) [0, 1, 2, 3, 4, 5, 6, 7, 10, 11] rfl (by kernel_rfl) ?_ (StepsI.cons (i := 13) [0, 1, 2, 3, 4, 5, 6, 7, 8, 10, 11, 12] rfl (by kernel_rfl) ?_ (StepsI.cons (i := 14) [0, 1, 2, 3, 4, 5, 6, 7, 8, 9, 10, 11, 12, 13] rfl (by kernel_rfl) ?_ (StepsI.nil)))))))))))))))
        · intro d s w' hd hA hC hF K hK
          have hB9 := hF.bel
          simp only [putL, putT, List.setIfInBounds_toArray, List.set_cons_zero, List.set_cons_succ]
          clear hB9
          as_aux_lemma =>
            have p0 := ((HW.out.1).later hF.bel).at 0 _ rfl
            have p1 := ((HW.out.1).later hF.bel).at 1 _ rfl
            have p2 := ((HW.out.1).later hF.bel).at 2 _ rfl
            have p3 := ((HW.out.1).later hF.bel).at 3 _ rfl
            (go_simp) <;> (try (intro hx9; omega))
            clear p0 p1 p2 p3
            refine hK.out (updS s 124 (Value.agg #[.int .i64 i, .int .i64 s9, Value.slice a1 xs.length c1, Value.slice a2 ts.length c2])) _ _ ?_ ⟨hF.bel, fun _ => rfl, hF.f1, hF.f2, hF.f3, hF.f4, hF.f5, hF.f6, hF.f7, hF.f8, hF.f9, hF.f10, hF.f11, hF.f14⟩
            simp only [putL, putT, List.setIfInBounds_toArray, List.set_cons_zero, List.set_cons_succ]; rfl
        · intro d s w' hd hA hC hF K hK
          have hB9 := hF.bel
          simp only [putL, putT, List.setIfInBounds_toArray, List.set_cons_zero, List.set_cons_succ]
          clear hB9
          as_aux_lemma =>
            have e0 := hF.f0 (hA.1)
            rw [e0]
            go_simp
            refine (toServ_any i s9 a1 a2 c1 c2 xs ts _ ((JA0.out.1).later ((HW.out.2.2).trans (hF.bel.mono (HW.out.2.2).size))) ((JA0.out.2).later ((HW.out.2.2).trans (hF.bel.mono (HW.out.2.2).size))) x1 x2).mono ?_
            rintro r w2 ⟨g1, g2, rfl, _, ⟨r0, r1⟩, _, b9⟩
            go_simp
            have hF2 := hF.later b9
            refine hK.out (updS s 125 (Value.agg #[.int .i64 i, .int .i64 s9, Value.slice (some ⟨g1, 0, none⟩) xs.length xs.length, Value.slice (some ⟨g2, 0, none⟩) ts.length ts.length])) _ _ ?_ ⟨hF2.bel, hF2.f0, fun _ _ => ⟨g1, g2, rfl, r0, r1⟩, hF2.f2, hF2.f3, hF2.f4, hF2.f5, hF2.f6, hF2.f7, hF2.f8, hF2.f9, hF2.f10, hF2.f11, hF2.f14⟩
            simp only [putL, putT, List.setIfInBounds_toArray, List.set_cons_zero, List.set_cons_succ]; rw [show updS s 125 (Value.agg #[.int .i64 i, .int .i64 s9, Value.slice (some ⟨g1, 0, none⟩) xs.length xs.length, Value.slice (some ⟨g2, 0, none⟩) ts.length ts.length]) 124 = _ from e0] <;> rfl
        · intro d s w' hd hA hC hF K hK
          have hB9 := hF.bel
          simp only [putL, putT, List.setIfInBounds_toArray, List.set_cons_zero, List.set_cons_succ]
          clear hB9
          as_aux_lemma =>
            have p0 := ((HW.out.2.1).later hF.bel).at 0 _ rfl
            have p1 := ((HW.out.2.1).later hF.bel).at 1 _ rfl
            have p2 := ((HW.out.2.1).later hF.bel).at 2 _ rfl
            have p3 := ((HW.out.2.1).later hF.bel).at 3 _ rfl
            have p4 := ((HW.out.2.1).later hF.bel).at 4 _ rfl
            (go_simp) <;> (try (intro hx9; omega))
            clear p0 p1 p2 p3 p4
            refine hK.out (updS s 126 (Value.agg #[.int .i64 m, .int .i64 cl, .int .i64 sv, .int .i64 nc, Value.slice a3 ys.length c3])) _ _ ?_ ⟨hF.bel, hF.f0, hF.f1, fun _ => rfl, hF.f3, hF.f4, hF.f5, hF.f6, hF.f7, hF.f8, hF.f9, hF.f10, hF.f11, hF.f14⟩
            simp only [putL, putT, List.setIfInBounds_toArray, List.set_cons_zero, List.set_cons_succ]; rfl
        · intro d s w' hd hA hC hF K hK
          have hB9 := hF.bel
          simp only [putL, putT, List.setIfInBounds_toArray, List.set_cons_zero, List.set_cons_succ]
          clear hB9
          as_aux_lemma =>
            have e0 := hF.f2 (hA.2.1)
            rw [e0]
            go_simp
            refine (toMsg_wb m cl sv nc a3 c3 ys _ ((JA1.out).later ((HW.out.2.2).trans (hF.bel.mono (HW.out.2.2).size))) (by omega)).mono ?_
            rintro r w2 ⟨g3, rfl, _, r0, _, b9⟩
            go_simp
            have hF2 := hF.later b9
            refine hK.out (updS s 127 (Value.agg #[.int .i64 m, .int .i64 cl, .int .i64 sv, .int .i64 nc, Value.slice (some ⟨g3, 0, none⟩) ys.length ys.length])) _ _ ?_ ⟨hF2.bel, hF2.f0, hF2.f1, hF2.f2, fun _ _ => ⟨g3, rfl, r0⟩, hF2.f4, hF2.f5, hF2.f6, hF2.f7, hF2.f8, hF2.f9, hF2.f10, hF2.f11, hF2.f14⟩
            simp only [putL, putT, List.setIfInBounds_toArray, List.set_cons_zero, List.set_cons_succ]; rw [show updS s 127 (Value.agg #[.int .i64 m, .int .i64 cl, .int .i64 sv, .int .i64 nc, Value.slice (some ⟨g3, 0, none⟩) ys.length ys.length]) 126 = _ from e0] <;> rfl
        · intro d s w' hd hA hC hF K hK
          have hB9 := hF.bel
          simp only [putL, putT, List.setIfInBounds_toArray, List.set_cons_zero, List.set_cons_succ]
          clear hB9
          as_aux_lemma =>
            go_simp
            refine hK.out (updS s 128 (Value.int .i64 now)) _ _ ?_ ⟨hF.bel, hF.f0, hF.f1, hF.f2, hF.f3, fun _ => rfl, hF.f5, hF.f6, hF.f7, hF.f8, hF.f9, hF.f10, hF.f11, hF.f14⟩
            simp only [putL, putT, List.setIfInBounds_toArray, List.set_cons_zero, List.set_cons_succ]; rfl
        · intro d s w' hd hA hC hF K hK
          have hB9 := hF.bel
          simp only [putL, putT, List.setIfInBounds_toArray, List.set_cons_zero, List.set_cons_succ]
          clear hB9
          as_aux_lemma =>
            have offS : d 12 = false := hC.off 12 5 (by kernel_rfl) hd
            obtain ⟨g1, g2, e1, r00, r01⟩ := hF.f1 offS (hA.1)
            obtain ⟨g3, e3, r10⟩ := hF.f3 offS (hA.2.1)
            have i0 := hF.f4 (hA.2.2.1)
            have RR : Hid (SRow w' (some ⟨g1, 0, none⟩) xs ∧ NRow celC w' (some ⟨g2, 0, none⟩) ts ∧ SRow w' (some ⟨g3, 0, none⟩) ys) := ⟨r00, r01, r10⟩
            clear r00 r01 r10
            rw [e1, e3, i0]
            go_simp
            refine (HI.out g1 g2 g3 _ (RR.out.1) (RR.out.2.1) (RR.out.2.2) (JF.out.later ((HW.out.2.2).trans (hF.bel.mono (HW.out.2.2).size))) x1 x2 x3).mono ?_
            rintro r w2 ⟨b00, e00, b01, e01, b10, e10, Bz, rfl, o0, o1, o2, _, _, b9⟩
            go_simp
            have hF2 := hF.later b9
            refine hK.out (updS s 129 (Value.tuple #[.agg #[.int .i64 I00, .int .i64 I01, Value.slice b00 X00.length e00, Value.slice b01 X01.length e01], .agg #[.int .i64 I10, .int .i64 I11, .int .i64 I12, .int .i64 I13, Value.slice b10 X10.length e10], .bool T])) _ _ ?_ ⟨hF2.bel, hF2.f0, hF2.f1, hF2.f2, hF2.f3, hF2.f4, fun _ _ => ⟨b00, e00, b01, e01, b10, e10, _, _, rfl, o0, o1, o2⟩, hF2.f6, hF2.f7, hF2.f8, hF2.f9, hF2.f10, hF2.f11, hF2.f14⟩
            simp only [putL, putT, List.setIfInBounds_toArray, List.set_cons_zero, List.set_cons_succ]; rw [show updS s 129 ((Value.tuple #[.agg #[.int .i64 I00, .int .i64 I01, Value.slice b00 X00.length e00, Value.slice b01 X01.length e01], .agg #[.int .i64 I10, .int .i64 I11, .int .i64 I12, .int .i64 I13, Value.slice b10 X10.length e10], .bool T])) 125 = _ from e1, show updS s 129 ((Value.tuple #[.agg #[.int .i64 I00, .int .i64 I01, Value.slice b00 X00.length e00, Value.slice b01 X01.length e01], .agg #[.int .i64 I10, .int .i64 I11, .int .i64 I12, .int .i64 I13, Value.slice b10 X10.length e10], .bool T])) 127 = _ from e3, show updS s 129 ((Value.tuple #[.agg #[.int .i64 I00, .int .i64 I01, Value.slice b00 X00.length e00, Value.slice b01 X01.length e01], .agg #[.int .i64 I10, .int .i64 I11, .int .i64 I12, .int .i64 I13, Value.slice b10 X10.length e10], .bool T])) 128 = _ from i0] <;> rfl
        · intro d s w' hd hA hC hF K hK
          have hB9 := hF.bel
          simp only [putL, putT, List.setIfInBounds_toArray, List.set_cons_zero, List.set_cons_succ]
          clear hB9
          as_aux_lemma =>
            have offS : d 12 = false := hC.off 12 6 (by kernel_rfl) hd
            obtain ⟨b00, e00, b01, e01, b10, e10, E0, E1, e0, o0, o1, o2⟩ := hF.f5 offS (hA.1)
            have OO : Hid (OwnS w' E0 (Value.slice b00 X00.length e00) X00 ∧ OwnN celC 90 w' E0 (Value.slice b01 X01.length e01) X01 ∧ OwnS w' E1 (Value.slice b10 X10.length e10) X10) := ⟨o0, o1, o2⟩
            clear o0 o1 o2
            rw [e0]
            go_simp
            refine hK.out (updS s 123 (Value.tuple #[.agg #[.int .i64 I00, .int .i64 I01, Value.slice b00 X00.length e00, Value.slice b01 X01.length e01], .agg #[.int .i64 I10, .int .i64 I11, .int .i64 I12, .int .i64 I13, Value.slice b10 X10.length e10], .bool T])) _ _ ?_ ⟨hF.bel, hF.f0, hF.f1, hF.f2, hF.f3, hF.f4, hF.f5, fun _ => ⟨b00, e00, b01, e01, b10, e10, E0, E1, rfl, OO.out.1, OO.out.2.1, OO.out.2.2⟩, hF.f7, hF.f8, hF.f9, hF.f10, hF.f11, hF.f14⟩
            simp only [putL, putT, List.setIfInBounds_toArray, List.set_cons_zero, List.set_cons_succ]; rw [show updS s 123 ((Value.tuple #[.agg #[.int .i64 I00, .int .i64 I01, Value.slice b00 X00.length e00, Value.slice b01 X01.length e01], .agg #[.int .i64 I10, .int .i64 I11, .int .i64 I12, .int .i64 I13, Value.slice b10 X10.length e10], .bool T])) 129 = _ from e0] <;> rfl
        · intro d s w' hd hA hC hF K hK
          have hB9 := hF.bel
          simp only [putL, putT, List.setIfInBounds_toArray, List.set_cons_zero, List.set_cons_succ]
          clear hB9
          as_aux_lemma =>
            obtain ⟨b00, e00, b01, e01, b10, e10, E0, E1, e0, o0, o1, o2⟩ := hF.f6 (hA.1)
            have OO : Hid (OwnS w' E0 (Value.slice b00 X00.length e00) X00 ∧ OwnN celC 90 w' E0 (Value.slice b01 X01.length e01) X01 ∧ OwnS w' E1 (Value.slice b10 X10.length e10) X10) := ⟨o0, o1, o2⟩
            clear o0 o1 o2
            rw [e0]
            go_simp
            refine hK.out (updS s 130 (Value.agg #[.int .i64 I00, .int .i64 I01, Value.slice b00 X00.length e00, Value.slice b01 X01.length e01])) _ _ ?_ ⟨hF.bel, hF.f0, hF.f1, hF.f2, hF.f3, hF.f4, hF.f5, hF.f6, fun _ => ⟨b00, e00, b01, e01, E0, rfl, OO.out.1, OO.out.2.1⟩, hF.f8, hF.f9, hF.f10, hF.f11, hF.f14⟩
            simp only [putL, putT, List.setIfInBounds_toArray, List.set_cons_zero, List.set_cons_succ]; rw [show updS s 130 (Value.agg #[.int .i64 I00, .int .i64 I01, Value.slice b00 X00.length e00, Value.slice b01 X01.length e01]) 123 = _ from e0] <;> rfl
        · intro d s w' hd hA hC hF K hK
          have hB9 := hF.bel
          simp only [putL, putT, List.setIfInBounds_toArray, List.set_cons_zero, List.set_cons_succ]
          clear hB9
          as_aux_lemma =>
            obtain ⟨b00, e00, b01, e01, b10, e10, E0, E1, e0, o0, o1, o2⟩ := hF.f6 (hA.1)
            have OO : Hid (OwnS w' E0 (Value.slice b00 X00.length e00) X00 ∧ OwnN celC 90 w' E0 (Value.slice b01 X01.length e01) X01 ∧ OwnS w' E1 (Value.slice b10 X10.length e10) X10) := ⟨o0, o1, o2⟩
            clear o0 o1 o2
            rw [e0]
            go_simp
            refine hK.out (updS s 131 (Value.agg #[.int .i64 I10, .int .i64 I11, .int .i64 I12, .int .i64 I13, Value.slice b10 X10.length e10])) _ _ ?_ ⟨hF.bel, hF.f0, hF.f1, hF.f2, hF.f3, hF.f4, hF.f5, hF.f6, hF.f7, fun _ => ⟨b10, e10, E1, rfl, OO.out.2.2⟩, hF.f9, hF.f10, hF.f11, hF.f14⟩
            simp only [putL, putT, List.setIfInBounds_toArray, List.set_cons_zero, List.set_cons_succ]; rw [show updS s 131 (Value.agg #[.int .i64 I10, .int .i64 I11, .int .i64 I12, .int .i64 I13, Value.slice b10 X10.length e10]) 123 = _ from e0] <;> rfl
        · intro d s w' hd hA hC hF K hK
          have hB9 := hF.bel
          simp only [putL, putT, List.setIfInBounds_toArray, List.set_cons_zero, List.set_cons_succ]
          clear hB9
          as_aux_lemma =>
            obtain ⟨b00, e00, b01, e01, b10, e10, E0, E1, e0, o0, o1, o2⟩ := hF.f6 (hA.1)
            have OO : Hid (OwnS w' E0 (Value.slice b00 X00.length e00) X00 ∧ OwnN celC 90 w' E0 (Value.slice b01 X01.length e01) X01 ∧ OwnS w' E1 (Value.slice b10 X10.length e10) X10) := ⟨o0, o1, o2⟩
            clear o0 o1 o2
            rw [e0]
            go_simp
            refine hK.out (updS s 132 (Value.bool T)) _ _ ?_ ⟨hF.bel, hF.f0, hF.f1, hF.f2, hF.f3, hF.f4, hF.f5, hF.f6, hF.f7, hF.f8, fun _ => rfl, hF.f10, hF.f11, hF.f14⟩
            simp only [putL, putT, List.setIfInBounds_toArray, List.set_cons_zero, List.set_cons_succ]; rw [show updS s 132 (Value.bool T) 123 = _ from e0] <;> rfl
        · intro d s w' hd hA hC hF K hK
          have hB9 := hF.bel
          simp only [putL, putT, List.setIfInBounds_toArray, List.set_cons_zero, List.set_cons_succ]
          clear hB9
          as_aux_lemma =>
            go_simp
            have b9 := Below.alloc_ w' (.cells #[.int .i64 0, .int .i64 0, Value.slice none 0 0, Value.slice none 0 0] 49)
            have hF2 := hF.later b9
            have off := hC.off 12 10 (by kernel_rfl) hd
            refine hK.out (updS s 19 (Value.pointer (some ⟨w'.heap.size, 0, none⟩))) _ _ ?_ ⟨hF2.bel, hF2.f0, hF2.f1, hF2.f2, hF2.f3, hF2.f4, hF2.f5, hF2.f6, hF2.f7, hF2.f8, hF2.f9, fun _ => ⟨w'.heap.size, rfl, hF.bel.size, fun _ => ABlk.new _ _ _, fun e => absurd (off.symm.trans e) (by simp)⟩, hF2.f11, hF2.f14⟩
            simp only [putL, putT, List.setIfInBounds_toArray, List.set_cons_zero, List.set_cons_succ]; rfl
        · intro d s w' hd hA hC hF K hK
          have hB9 := hF.bel
          simp only [putL, putT, List.setIfInBounds_toArray, List.set_cons_zero, List.set_cons_succ]
          clear hB9
          as_aux_lemma =>
            go_simp
            have b9 := Below.alloc_ w' (.cells #[.int .i64 0, .int .i64 0, .int .i64 0, .int .i64 0, Value.slice none 0 0] 33)
            have hF2 := hF.later b9
            have off := hC.off 13 11 (by kernel_rfl) hd
            refine hK.out (updS s 20 (Value.pointer (some ⟨w'.heap.size, 0, none⟩))) _ _ ?_ ⟨hF2.bel, hF2.f0, hF2.f1, hF2.f2, hF2.f3, hF2.f4, hF2.f5, hF2.f6, hF2.f7, hF2.f8, hF2.f9, hF2.f10, fun _ => ⟨w'.heap.size, rfl, hF.bel.size, fun _ => ABlk.new _ _ _, fun e => absurd (off.symm.trans e) (by simp)⟩, hF2.f14⟩
            simp only [putL, putT, List.setIfInBounds_toArray, List.set_cons_zero, List.set_cons_succ]; rfl
        · intro d s w' hd hA hC hF K hK
          have hB9 := hF.bel
          simp only [putL, putT, List.setIfInBounds_toArray, List.set_cons_zero, List.set_cons_succ]
          clear hB9
          as_aux_lemma =>
            obtain ⟨q, hq, hq2, hz, _⟩ := hF.f10 (hA.2.2.2.2.2.2.2.2.1)
            have hz := hz hd
            obtain ⟨b00, e00, b01, e01, E0, e0, o0, o1⟩ := hF.f7 (hA.2.2.2.2.2.2.2.1)
            have z0 := hz.at 0 _ rfl
            have zf0 := hz.fro 0
            have z1 := hz.at 1 _ rfl
            have zf1 := hz.fro 1
            have z2 := hz.at 2 _ rfl
            have zf2 := hz.fro 2
            have z3 := hz.at 3 _ rfl
            have zf3 := hz.fro 3
            have HZ : Hid (ABlk 49 w' q #[.int .i64 0, .int .i64 0, Value.slice none 0 0, Value.slice none 0 0] ∧ OwnS w' E0 (Value.slice b00 X00.length e00) X00 ∧ OwnN celC 90 w' E0 (Value.slice b01 X01.length e01) X01) := ⟨hz, o0, o1⟩
            clear hz o0 o1
            rw [hq, e0]
            go_simp
            clear z0 zf0 z1 zf1 z2 zf2 z3 zf3
            have g9 : GrL w' ((((w'.setCell ⟨q, 0, none⟩ (.int .i64 I00)).setCell ⟨q, 1, none⟩ (.int .i64 I01)).setCell ⟨q, 2, none⟩ (Value.slice b00 X00.length e00)).setCell ⟨q, 3, none⟩ (Value.slice b01 X01.length e01)) [some q] := putA_grl (vs := [.int .i64 I00, .int .i64 I01, Value.slice b00 X00.length e00, Value.slice b01 X01.length e01]) (o := 0)
            have k9 : ABlk 49 ((((w'.setCell ⟨q, 0, none⟩ (.int .i64 I00)).setCell ⟨q, 1, none⟩ (.int .i64 I01)).setCell ⟨q, 2, none⟩ (Value.slice b00 X00.length e00)).setCell ⟨q, 3, none⟩ (Value.slice b01 X01.length e01)) q #[.int .i64 I00, .int .i64 I01, Value.slice b00 X00.length e00, Value.slice b01 X01.length e01] := HZ.out.1.put (cs := [.int .i64 0, .int .i64 0, Value.slice none 0 0, Value.slice none 0 0]) [.int .i64 I00, .int .i64 I01, Value.slice b00 X00.length e00, Value.slice b01 X01.length e01] rfl
            generalize ((((w'.setCell ⟨q, 0, none⟩ (.int .i64 I00)).setCell ⟨q, 1, none⟩ (.int .i64 I01)).setCell ⟨q, 2, none⟩ (Value.slice b00 X00.length e00)).setCell ⟨q, 3, none⟩ (Value.slice b01 X01.length e01)) = V at g9 k9 ⊢
            refine hK.out s _ _ ?_ ⟨below_grl hF.bel g9 hF.bel.size (fun k hk => by simp at hk; omega), hF.f0, fun e => (by cases e), hF.f2, fun e => (by cases e), hF.f4, fun e => (by cases e), ?_, ?_, ?_, hF.f9, ?_, ?_, hF.f14⟩
            · simp only [putL, putT, List.setIfInBounds_toArray, List.set_cons_zero, List.set_cons_succ]; rw [hq, e0] <;> rfl
            · intro e
              obtain ⟨b00, e00, b01, e01, b10, e10, E0, E1, h1, o0, o1, o2⟩ := hF.f6 e
              exact ⟨b00, e00, b01, e01, b10, e10, E0, E1, h1, o0.grl g9 (fun k e hm => own_off HZ.out.1 (o0) (by decide) (e.trans (List.mem_singleton.1 hm))), o1.grl g9 (fun k e hm => own_off HZ.out.1 (o1) (by decide) (e.trans (List.mem_singleton.1 hm))), o2.grl g9 (fun k e hm => own_off HZ.out.1 (o2) (by decide) (e.trans (List.mem_singleton.1 hm)))⟩
            · intro e
              obtain ⟨b00, e00, b01, e01, E0, h1, o0, o1⟩ := hF.f7 e
              exact ⟨b00, e00, b01, e01, E0, h1, o0.grl g9 (fun k e hm => own_off HZ.out.1 (o0) (by decide) (e.trans (List.mem_singleton.1 hm))), o1.grl g9 (fun k e hm => own_off HZ.out.1 (o1) (by decide) (e.trans (List.mem_singleton.1 hm)))⟩
            · intro e
              obtain ⟨b10, e10, E1, h1, o2⟩ := hF.f8 e
              exact ⟨b10, e10, E1, h1, o2.grl g9 (fun k e hm => own_off HZ.out.1 (o2) (by decide) (e.trans (List.mem_singleton.1 hm)))⟩
            · exact fun _ => ⟨q, hq, hq2, fun e => (by cases e), fun _ => ⟨b00, e00, b01, e01, E0, k9, (HZ.out.2.1).grl g9 (fun k e hm => own_off HZ.out.1 ((HZ.out.2.1)) (by decide) (e.trans (List.mem_singleton.1 hm))), (HZ.out.2.2).grl g9 (fun k e hm => own_off HZ.out.1 ((HZ.out.2.2)) (by decide) (e.trans (List.mem_singleton.1 hm)))⟩⟩
            · intro e
              obtain ⟨q2, h1, h2, h3, h4⟩ := hF.f11 e
              refine ⟨q2, h1, h2, fun e => ?_, fun e => ?_⟩
              · have hz2 := h3 e
                exact hz2.grl g9 (fun hm => blk_type HZ.out.1 (show ABlk _ w' q _ from (Option.some.inj (List.mem_singleton.1 hm)) ▸ hz2) (by decide))
              · obtain ⟨b10, e10, E1, hk, o2⟩ := h4 e
                exact ⟨b10, e10, E1, hk.grl g9 (fun hm => blk_type HZ.out.1 (show ABlk _ w' q _ from (Option.some.inj (List.mem_singleton.1 hm)) ▸ hk) (by decide)), o2.grl g9 (fun k e hm => own_off HZ.out.1 (o2) (by decide) (e.trans (List.mem_singleton.1 hm)))⟩
        · intro d s w' hd hA hC hF K hK
          have hB9 := hF.bel
          simp only [putL, putT, List.setIfInBounds_toArray, List.set_cons_zero, List.set_cons_succ]
          clear hB9
          as_aux_lemma =>
            obtain ⟨q, hq, hq2, hz, _⟩ := hF.f11 (hA.2.2.2.2.2.2.2.2.2.2.1)
            have hz := hz hd
            obtain ⟨b10, e10, E1, e0, o2⟩ := hF.f8 (hA.2.2.2.2.2.2.2.2.1)
            have z0 := hz.at 0 _ rfl
            have zf0 := hz.fro 0
            have z1 := hz.at 1 _ rfl
            have zf1 := hz.fro 1
            have z2 := hz.at 2 _ rfl
            have zf2 := hz.fro 2
            have z3 := hz.at 3 _ rfl
            have zf3 := hz.fro 3
            have z4 := hz.at 4 _ rfl
            have zf4 := hz.fro 4
            have HZ : Hid (ABlk 33 w' q #[.int .i64 0, .int .i64 0, .int .i64 0, .int .i64 0, Value.slice none 0 0] ∧ OwnS w' E1 (Value.slice b10 X10.length e10) X10) := ⟨hz, o2⟩
            clear hz o2
            rw [hq, e0]
            go_simp
            clear z0 zf0 z1 zf1 z2 zf2 z3 zf3 z4 zf4
            have g9 : GrL w' (((((w'.setCell ⟨q, 0, none⟩ (.int .i64 I10)).setCell ⟨q, 1, none⟩ (.int .i64 I11)).setCell ⟨q, 2, none⟩ (.int .i64 I12)).setCell ⟨q, 3, none⟩ (.int .i64 I13)).setCell ⟨q, 4, none⟩ (Value.slice b10 X10.length e10)) [some q] := putA_grl (vs := [.int .i64 I10, .int .i64 I11, .int .i64 I12, .int .i64 I13, Value.slice b10 X10.length e10]) (o := 0)
            have k9 : ABlk 33 (((((w'.setCell ⟨q, 0, none⟩ (.int .i64 I10)).setCell ⟨q, 1, none⟩ (.int .i64 I11)).setCell ⟨q, 2, none⟩ (.int .i64 I12)).setCell ⟨q, 3, none⟩ (.int .i64 I13)).setCell ⟨q, 4, none⟩ (Value.slice b10 X10.length e10)) q #[.int .i64 I10, .int .i64 I11, .int .i64 I12, .int .i64 I13, Value.slice b10 X10.length e10] := HZ.out.1.put (cs := [.int .i64 0, .int .i64 0, .int .i64 0, .int .i64 0, Value.slice none 0 0]) [.int .i64 I10, .int .i64 I11, .int .i64 I12, .int .i64 I13, Value.slice b10 X10.length e10] rfl
            generalize (((((w'.setCell ⟨q, 0, none⟩ (.int .i64 I10)).setCell ⟨q, 1, none⟩ (.int .i64 I11)).setCell ⟨q, 2, none⟩ (.int .i64 I12)).setCell ⟨q, 3, none⟩ (.int .i64 I13)).setCell ⟨q, 4, none⟩ (Value.slice b10 X10.length e10)) = V at g9 k9 ⊢
            refine hK.out s _ _ ?_ ⟨below_grl hF.bel g9 hF.bel.size (fun k hk => by simp at hk; omega), hF.f0, fun e => absurd ((hA.2.2.2.2.2.2.2.2.2.2.2.1).symm.trans e) (by simp), hF.f2, fun e => absurd ((hA.2.2.2.2.2.2.2.2.2.2.2.1).symm.trans e) (by simp), hF.f4, fun e => absurd ((hA.2.2.2.2.2.2.2.2.2.2.2.1).symm.trans e) (by simp), ?_, ?_, ?_, hF.f9, ?_, ?_, hF.f14⟩
            · simp only [putL, putT, List.setIfInBounds_toArray, List.set_cons_zero, List.set_cons_succ]; rw [hq, e0] <;> rfl
            · intro e
              obtain ⟨b00, e00, b01, e01, b10, e10, E0, E1, h1, o0, o1, o2⟩ := hF.f6 e
              exact ⟨b00, e00, b01, e01, b10, e10, E0, E1, h1, o0.grl g9 (fun k e hm => own_off HZ.out.1 (o0) (by decide) (e.trans (List.mem_singleton.1 hm))), o1.grl g9 (fun k e hm => own_off HZ.out.1 (o1) (by decide) (e.trans (List.mem_singleton.1 hm))), o2.grl g9 (fun k e hm => own_off HZ.out.1 (o2) (by decide) (e.trans (List.mem_singleton.1 hm)))⟩
            · intro e
              obtain ⟨b00, e00, b01, e01, E0, h1, o0, o1⟩ := hF.f7 e
              exact ⟨b00, e00, b01, e01, E0, h1, o0.grl g9 (fun k e hm => own_off HZ.out.1 (o0) (by decide) (e.trans (List.mem_singleton.1 hm))), o1.grl g9 (fun k e hm => own_off HZ.out.1 (o1) (by decide) (e.trans (List.mem_singleton.1 hm)))⟩
            · intro e
              obtain ⟨b10, e10, E1, h1, o2⟩ := hF.f8 e
              exact ⟨b10, e10, E1, h1, o2.grl g9 (fun k e hm => own_off HZ.out.1 (o2) (by decide) (e.trans (List.mem_singleton.1 hm)))⟩
            · intro e
              obtain ⟨q2, h1, h2, h3, h4⟩ := hF.f10 e
              refine ⟨q2, h1, h2, fun e => ?_, fun e => ?_⟩
              · have hz2 := h3 e
                exact hz2.grl g9 (fun hm => blk_type HZ.out.1 (show ABlk _ w' q _ from (Option.some.inj (List.mem_singleton.1 hm)) ▸ hz2) (by decide))
              · obtain ⟨b00, e00, b01, e01, E0, hk, o0, o1⟩ := h4 e
                exact ⟨b00, e00, b01, e01, E0, hk.grl g9 (fun hm => blk_type HZ.out.1 (show ABlk _ w' q _ from (Option.some.inj (List.mem_singleton.1 hm)) ▸ hk) (by decide)), o0.grl g9 (fun k e hm => own_off HZ.out.1 (o0) (by decide) (e.trans (List.mem_singleton.1 hm))), o1.grl g9 (fun k e hm => own_off HZ.out.1 (o1) (by decide) (e.trans (List.mem_singleton.1 hm)))⟩
            · exact fun _ => ⟨q, hq, hq2, fun e => (by cases e), fun _ => ⟨b10, e10, E1, k9, (HZ.out.2).grl g9 (fun k e hm => own_off HZ.out.1 ((HZ.out.2)) (by decide) (e.trans (List.mem_singleton.1 hm)))⟩⟩
        · intro d s w' hd hA hC hF K hK
          have hB9 := hF.bel
          simp only [putL, putT, List.setIfInBounds_toArray, List.set_cons_zero, List.set_cons_succ]
          clear hB9
          as_aux_lemma =>
            have e0 := hF.f9 (hA.2.2.2.2.2.2.2.2.2.1)
            rw [e0]
            go_simp
            refine hK.out (updS s 21 (Value.bool T)) _ _ ?_ ⟨hF.bel, hF.f0, hF.f1, hF.f2, hF.f3, hF.f4, hF.f5, hF.f6, hF.f7, hF.f8, hF.f9, hF.f10, hF.f11, fun _ => rfl⟩
            simp only [putL, putT, List.setIfInBounds_toArray, List.set_cons_zero, List.set_cons_succ]; rw [show updS s 21 (Value.bool T) 132 = _ from e0] <;> rfl
      · intro d s w' hA hF
        obtain ⟨pk0, e0, hl0, _, h4⟩ := hF.f10 (hA.2.2.2.2.2.2.2.2.2.2.1)
        obtain ⟨ah00, ch00, ah01, ch01, E0, hk0, o0, o1⟩ := h4 (hA.2.2.2.2.2.2.2.2.2.2.2.2.1)
        obtain ⟨pk1, e1, hl1, _, h4⟩ := hF.f11 (hA.2.2.2.2.2.2.2.2.2.2.2.1)
        obtain ⟨ah10, ch10, E1, hk1, o2⟩ := h4 (hA.2.2.2.2.2.2.2.2.2.2.2.2.2.1)
        have eT := hF.f14 (hA.2.2.2.2.2.2.2.2.2.2.2.2.2.2.1)
        have H0 : Hid (ABlk 49 w' pk0 #[.int .i64 I00, .int .i64 I01, Value.slice ah00 X00.length ch00, Value.slice ah01 X01.length ch01] ∧ ABlk 33 w' pk1 #[.int .i64 I10, .int .i64 I11, .int .i64 I12, .int .i64 I13, Value.slice ah10 X10.length ch10] ∧ SRow w' ah00 X00 ∧ NRow celC w' ah01 X01 ∧ SRow w' ah10 X10 ∧ Below w19.heap.size w19 w') := ⟨hk0, hk1, OwnS.rowAt (o0), OwnN.rowAt (o1), OwnS.rowAt (o2), hF.bel⟩
        clear hF hA hk0 hk1
        simp only [putL, putT, List.setIfInBounds_toArray, List.set_cons_zero, List.set_cons_succ]
        rw [e0, e1, eT]
        go_wp2_with fail
        go_meet
        case rel => exact ⟨pk0, pk1, ah00, ch00, ah01, ch01, ah10, ch10, rfl, rfl, rfl, H0⟩
    case rest =>
      obtain ⟨pj0, pj1, ah00, ch00, ah01, ch01, ah10, ch10, rfl, rfl, rfl, HV⟩ := hcut
      have b9 := HV.out.2.2.2.2.2
      have HC : Hid ((Below wL.heap.size wL wc) ∧ (ABlk 49 wc (w6.heap.size) #[.int .i64 I00, .int .i64 I01, Value.slice ax00 X00.length cx00, Value.slice ax01 X01.length cx01]) ∧ (ABlk 33 wc (w6.heap.size + 1) #[.int .i64 I10, .int .i64 I11, .int .i64 I12, .int .i64 I13, Value.slice ax10 X10.length cx10]) ∧ (Mk7 wc (Value.slice ax00 X00.length cx00) X00.length (1)) ∧ (MkN 4 wc (Value.slice ax01 X01.length cx01) X01.length (1 + 7 * (X00.length : Int))) ∧ (Mk7 wc (Value.slice ax10 X10.length cx10) X10.length (1 + 7 * (X00.length : Int) + 4 * (X01.length : Int))) ∧ (ABlk 49 wc pj0 #[.int .i64 I00, .int .i64 I01, Value.slice ah00 X00.length ch00, Value.slice ah01 X01.length ch01]) ∧ (ABlk 33 wc pj1 #[.int .i64 I10, .int .i64 I11, .int .i64 I12, .int .i64 I13, Value.slice ah10 X10.length ch10]) ∧ (SRow wc ah00 X00) ∧ (NRow celC wc ah01 X01) ∧ (SRow wc ah10 X10)) := ⟨(H19.out.1).trans (b9.mono (H19.out.1).size), (H19.out.2.1).later b9, (H19.out.2.2.1).later b9, (H19.out.2.2.2.1).later b9, (H19.out.2.2.2.2.1).later b9, (H19.out.2.2.2.2.2).later b9, HV.out.1, HV.out.2.1, HV.out.2.2.1, HV.out.2.2.2.1, HV.out.2.2.2.2.1⟩
      clear H19 b9 HV HW
      obtain ⟨wM, hw8⟩ : ∃ w8, w8 = wc := ⟨_, rfl⟩
      subst hw8
      have z0 := ((HL.out.2.2.2.1).later (HC.out.1)).at 0 _ rfl
      have z1 := ((HL.out.2.2.2.1).later (HC.out.1)).at 1 _ rfl
      have z2 := ((HL.out.2.2.2.1).later (HC.out.1)).at 2 _ rfl
      have z3 := ((HL.out.2.2.2.1).later (HC.out.1)).at 3 _ rfl
      have y0 := (HC.out.2.2.2.2.2.2.1).at 0 _ rfl
      have y1 := (HC.out.2.2.2.2.2.2.1).at 1 _ rfl
      have y2 := (HC.out.2.2.2.2.2.2.1).at 2 _ rfl
      have y3 := (HC.out.2.2.2.2.2.2.1).at 3 _ rfl
      go_wp2_with fail
      clear z0 z1 z2 z3 y0 y1 y2 y3
      refine (eqServ_same I00 I01 ah00 ah01 az00 az01 ch00 ch01 cz00 cz01 X00 X01 _ ((HC.out.2.2.2.2.2.2.2.2.1)) ((HC.out.2.2.2.2.2.2.2.2.2.1)) ((HL.out.2.2.2.2.2.1).later (HC.out.1)) ((HL.out.2.2.2.2.2.2.1).later (HC.out.1)) hX0 hX1).mono ?_
      rintro r w20 ⟨rfl, b9⟩
      have H20 : Hid ((Below wL.heap.size wL w20) ∧ (ABlk 49 w20 (w6.heap.size) #[.int .i64 I00, .int .i64 I01, Value.slice ax00 X00.length cx00, Value.slice ax01 X01.length cx01]) ∧ (ABlk 33 w20 (w6.heap.size + 1) #[.int .i64 I10, .int .i64 I11, .int .i64 I12, .int .i64 I13, Value.slice ax10 X10.length cx10]) ∧ (Mk7 w20 (Value.slice ax00 X00.length cx00) X00.length (1)) ∧ (MkN 4 w20 (Value.slice ax01 X01.length cx01) X01.length (1 + 7 * (X00.length : Int))) ∧ (Mk7 w20 (Value.slice ax10 X10.length cx10) X10.length (1 + 7 * (X00.length : Int) + 4 * (X01.length : Int))) ∧ (ABlk 49 w20 pj0 #[.int .i64 I00, .int .i64 I01, Value.slice ah00 X00.length ch00, Value.slice ah01 X01.length ch01]) ∧ (ABlk 33 w20 pj1 #[.int .i64 I10, .int .i64 I11, .int .i64 I12, .int .i64 I13, Value.slice ah10 X10.length ch10]) ∧ (SRow w20 ah00 X00) ∧ (NRow celC w20 ah01 X01) ∧ (SRow w20 ah10 X10)) := ⟨(HC.out.1).trans (b9.mono (HC.out.1).size), (HC.out.2.1).later b9, (HC.out.2.2.1).later b9, (HC.out.2.2.2.1).later b9, (HC.out.2.2.2.2.1).later b9, (HC.out.2.2.2.2.2.1).later b9, (HC.out.2.2.2.2.2.2.1).later b9, (HC.out.2.2.2.2.2.2.2.1).later b9, (HC.out.2.2.2.2.2.2.2.2.1).later b9, (HC.out.2.2.2.2.2.2.2.2.2.1).later b9, (HC.out.2.2.2.2.2.2.2.2.2.2).later b9⟩
      clear HC b9
      have z0 := ((HL.out.2.2.2.2.1).later (H20.out.1)).at 0 _ rfl
      have z1 := ((HL.out.2.2.2.2.1).later (H20.out.1)).at 1 _ rfl
      have z2 := ((HL.out.2.2.2.2.1).later (H20.out.1)).at 2 _ rfl
      have z3 := ((HL.out.2.2.2.2.1).later (H20.out.1)).at 3 _ rfl
      have z4 := ((HL.out.2.2.2.2.1).later (H20.out.1)).at 4 _ rfl
      have y0 := (H20.out.2.2.2.2.2.2.2.1).at 0 _ rfl
      have y1 := (H20.out.2.2.2.2.2.2.2.1).at 1 _ rfl
      have y2 := (H20.out.2.2.2.2.2.2.2.1).at 2 _ rfl
      have y3 := (H20.out.2.2.2.2.2.2.2.1).at 3 _ rfl
      have y4 := (H20.out.2.2.2.2.2.2.2.1).at 4 _ rfl
      go_wp2_with fail
      clear z0 z1 z2 z3 z4 y0 y1 y2 y3 y4
      refine (eqMsg_same I10 I11 I12 I13 ah10 az10 ch10 cz10 X10 _ ((H20.out.2.2.2.2.2.2.2.2.2.2)) ((HL.out.2.2.2.2.2.2.2).later (H20.out.1)) hX2).mono ?_
      rintro r w21 ⟨rfl, b9⟩
      have H21 : Hid ((Below wL.heap.size wL w21) ∧ (ABlk 49 w21 (w6.heap.size) #[.int .i64 I00, .int .i64 I01, Value.slice ax00 X00.length cx00, Value.slice ax01 X01.length cx01]) ∧ (ABlk 33 w21 (w6.heap.size + 1) #[.int .i64 I10, .int .i64 I11, .int .i64 I12, .int .i64 I13, Value.slice ax10 X10.length cx10]) ∧ (Mk7 w21 (Value.slice ax00 X00.length cx00) X00.length (1)) ∧ (MkN 4 w21 (Value.slice ax01 X01.length cx01) X01.length (1 + 7 * (X00.length : Int))) ∧ (Mk7 w21 (Value.slice ax10 X10.length cx10) X10.length (1 + 7 * (X00.length : Int) + 4 * (X01.length : Int))) ∧ (ABlk 49 w21 pj0 #[.int .i64 I00, .int .i64 I01, Value.slice ah00 X00.length ch00, Value.slice ah01 X01.length ch01]) ∧ (ABlk 33 w21 pj1 #[.int .i64 I10, .int .i64 I11, .int .i64 I12, .int .i64 I13, Value.slice ah10 X10.length ch10]) ∧ (SRow w21 ah00 X00) ∧ (NRow celC w21 ah01 X01) ∧ (SRow w21 ah10 X10)) := ⟨(H20.out.1).trans (b9.mono (H20.out.1).size), (H20.out.2.1).later b9, (H20.out.2.2.1).later b9, (H20.out.2.2.2.1).later b9, (H20.out.2.2.2.2.1).later b9, (H20.out.2.2.2.2.2.1).later b9, (H20.out.2.2.2.2.2.2.1).later b9, (H20.out.2.2.2.2.2.2.2.1).later b9, (H20.out.2.2.2.2.2.2.2.2.1).later b9, (H20.out.2.2.2.2.2.2.2.2.2.1).later b9, (H20.out.2.2.2.2.2.2.2.2.2.2).later b9⟩
      clear H20 b9
      have y0 := (H21.out.2.1).at 0 _ rfl
      have y1 := (H21.out.2.1).at 1 _ rfl
      have y2 := (H21.out.2.1).at 2 _ rfl
      have y3 := (H21.out.2.1).at 3 _ rfl
      go_wp2_with fail
      clear y0 y1 y2 y3
      refine (heldServ_own I00 I01 (1) ⟨H21.out.2.2.2.1, H21.out.2.2.2.2.1⟩ hX0 hX1 (by omega) (by omega)).mono ?_
      rintro r w22 ⟨rfl, b9⟩
      have H22 : Hid ((Below wL.heap.size wL w22) ∧ (ABlk 49 w22 (w6.heap.size) #[.int .i64 I00, .int .i64 I01, Value.slice ax00 X00.length cx00, Value.slice ax01 X01.length cx01]) ∧ (ABlk 33 w22 (w6.heap.size + 1) #[.int .i64 I10, .int .i64 I11, .int .i64 I12, .int .i64 I13, Value.slice ax10 X10.length cx10]) ∧ (Mk7 w22 (Value.slice ax00 X00.length cx00) X00.length (1)) ∧ (MkN 4 w22 (Value.slice ax01 X01.length cx01) X01.length (1 + 7 * (X00.length : Int))) ∧ (Mk7 w22 (Value.slice ax10 X10.length cx10) X10.length (1 + 7 * (X00.length : Int) + 4 * (X01.length : Int))) ∧ (ABlk 49 w22 pj0 #[.int .i64 I00, .int .i64 I01, Value.slice ah00 X00.length ch00, Value.slice ah01 X01.length ch01]) ∧ (ABlk 33 w22 pj1 #[.int .i64 I10, .int .i64 I11, .int .i64 I12, .int .i64 I13, Value.slice ah10 X10.length ch10]) ∧ (SRow w22 ah00 X00) ∧ (NRow celC w22 ah01 X01) ∧ (SRow w22 ah10 X10)) := ⟨(H21.out.1).trans (b9.mono (H21.out.1).size), (H21.out.2.1).later b9, (H21.out.2.2.1).later b9, (H21.out.2.2.2.1).later b9, (H21.out.2.2.2.2.1).later b9, (H21.out.2.2.2.2.2.1).later b9, (H21.out.2.2.2.2.2.2.1).later b9, (H21.out.2.2.2.2.2.2.2.1).later b9, (H21.out.2.2.2.2.2.2.2.2.1).later b9, (H21.out.2.2.2.2.2.2.2.2.2.1).later b9, (H21.out.2.2.2.2.2.2.2.2.2.2).later b9⟩
      clear H21 b9
      have y0 := (H22.out.2.2.1).at 0 _ rfl
      have y1 := (H22.out.2.2.1).at 1 _ rfl
      have y2 := (H22.out.2.2.1).at 2 _ rfl
      have y3 := (H22.out.2.2.1).at 3 _ rfl
      have y4 := (H22.out.2.2.1).at 4 _ rfl
      go_wp2_with fail
      clear y0 y1 y2 y3 y4
      refine (heldMsg_own I10 I11 I12 I13 (1 + 7 * (X00.length : Int) + 4 * (X01.length : Int)) (H22.out.2.2.2.2.2.1) hX2 (by omega) (by omega)).mono ?_
      rintro r w23 ⟨rfl, b9⟩
      have H23 : Hid ((Below wL.heap.size wL w23) ∧ (ABlk 49 w23 (w6.heap.size) #[.int .i64 I00, .int .i64 I01, Value.slice ax00 X00.length cx00, Value.slice ax01 X01.length cx01]) ∧ (ABlk 33 w23 (w6.heap.size + 1) #[.int .i64 I10, .int .i64 I11, .int .i64 I12, .int .i64 I13, Value.slice ax10 X10.length cx10]) ∧ (Mk7 w23 (Value.slice ax00 X00.length cx00) X00.length (1)) ∧ (MkN 4 w23 (Value.slice ax01 X01.length cx01) X01.length (1 + 7 * (X00.length : Int))) ∧ (Mk7 w23 (Value.slice ax10 X10.length cx10) X10.length (1 + 7 * (X00.length : Int) + 4 * (X01.length : Int))) ∧ (ABlk 49 w23 pj0 #[.int .i64 I00, .int .i64 I01, Value.slice ah00 X00.length ch00, Value.slice ah01 X01.length ch01]) ∧ (ABlk 33 w23 pj1 #[.int .i64 I10, .int .i64 I11, .int .i64 I12, .int .i64 I13, Value.slice ah10 X10.length ch10]) ∧ (SRow w23 ah00 X00) ∧ (NRow celC w23 ah01 X01) ∧ (SRow w23 ah10 X10)) := ⟨(H22.out.1).trans (b9.mono (H22.out.1).size), (H22.out.2.1).later b9, (H22.out.2.2.1).later b9, (H22.out.2.2.2.1).later b9, (H22.out.2.2.2.2.1).later b9, (H22.out.2.2.2.2.2.1).later b9, (H22.out.2.2.2.2.2.2.1).later b9, (H22.out.2.2.2.2.2.2.2.1).later b9, (H22.out.2.2.2.2.2.2.2.2.1).later b9, (H22.out.2.2.2.2.2.2.2.2.2.1).later b9, (H22.out.2.2.2.2.2.2.2.2.2.2).later b9⟩
      clear H22 b9
      have HE : Hid (Below w.heap.size w w23) := (HL.out.2.2.1).trans ((H23.out.1).mono (HL.out.2.2.1).size)
      clear H23 HL
      go_wp2_with fail
      go_ret
      exact ⟨rfl, HE.out⟩

end Go.Proofs.YtghajmfjekfdpaaDoor
