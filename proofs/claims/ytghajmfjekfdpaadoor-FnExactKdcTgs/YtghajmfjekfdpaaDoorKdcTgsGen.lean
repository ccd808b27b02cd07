/-
  The law on KdcTgs, walked: it returns true at all that is handed over; nothing that was in memory is turned.
-/
import Derived.Test.YtghajmfjekfdpaaDoorKdcLawJ
import Derived.Test.YtghajmfjekfdpaaDoorRegInv
import Derived.Deep.DeepCutAuto
import Derived.Deep.CutBlock
namespace Go.Proofs.YtghajmfjekfdpaaDoor
open Go.RowKit
attribute [local go_sem ↓] Go.wp_at_zero Go.wp_at_succ

/-- What is known on the way through a region that copies both, calls, and keeps what it is answered. -/
structure RgK (w0 : World) (n : Int) (a : Option Addr) (cap : Nat) (xs : List Sl) (m cl sv nc : Int) (b : Option Addr) (cb : Nat) (ys : List Sl) (now N M C S F : Int) (X Y : List Sl) (T : Bool) (t0 t1 t2 t3 t4 t5 t6 t7 t8 t9 tk tm tb : Nat) (d : Nat → Bool) (s : Nat → Value) (w : World) : Prop where
  bel : Below w0.heap.size w0 w
  f0 : d 0 = true → s t0 = Value.agg #[.int .i64 n, .slice a xs.length cap]
  f1 : d 12 = false → d 1 = true → ∃ g, s t1 = .agg #[.int .i64 n, .slice (some ⟨g, 0, none⟩) xs.length xs.length] ∧ SRow w (some ⟨g, 0, none⟩) xs
  f2 : d 2 = true → s t2 = Value.agg #[.int .i64 m, .int .i64 cl, .int .i64 sv, .int .i64 nc, .slice b ys.length cb]
  f3 : d 12 = false → d 3 = true → ∃ g, s t3 = .agg #[.int .i64 m, .int .i64 cl, .int .i64 sv, .int .i64 nc, .slice (some ⟨g, 0, none⟩) ys.length ys.length] ∧ SRow w (some ⟨g, 0, none⟩) ys
  f4 : d 4 = true → s t4 = .int .i64 now
  f5 : d 12 = false → d 5 = true → ∃ a1 c1 a2 c2 e1 e2, s t5 = .tuple #[.agg #[.int .i64 N, .slice a1 X.length c1], .agg #[.int .i64 M, .int .i64 C, .int .i64 S, .int .i64 F, .slice a2 Y.length c2], .bool T] ∧ OwnS w e1 (.slice a1 X.length c1) X ∧ OwnS w e2 (.slice a2 Y.length c2) Y
  f6 : d 6 = true → ∃ a1 c1 a2 c2 e1 e2, s t6 = .tuple #[.agg #[.int .i64 N, .slice a1 X.length c1], .agg #[.int .i64 M, .int .i64 C, .int .i64 S, .int .i64 F, .slice a2 Y.length c2], .bool T] ∧ OwnS w e1 (.slice a1 X.length c1) X ∧ OwnS w e2 (.slice a2 Y.length c2) Y
  f7 : d 7 = true → ∃ a1 c1 e1, s t7 = .agg #[.int .i64 N, .slice a1 X.length c1] ∧ OwnS w e1 (.slice a1 X.length c1) X
  f8 : d 8 = true → ∃ a2 c2 e2, s t8 = .agg #[.int .i64 M, .int .i64 C, .int .i64 S, .int .i64 F, .slice a2 Y.length c2] ∧ OwnS w e2 (.slice a2 Y.length c2) Y
  f9 : d 9 = true → s t9 = .bool T
  f10 : d 10 = true → ∃ p k v, s tk = .pointer (some ⟨p, 0, none⟩) ∧ w0.heap.size ≤ p ∧ KBlk w p k v ∧ (d 12 = true → k = N ∧ ∃ a1 c1 e1, v = .slice a1 X.length c1 ∧ OwnS w e1 v X)
  f11 : d 11 = true → ∃ p k1 k2 k3 k4 v, s tm = .pointer (some ⟨p, 0, none⟩) ∧ w0.heap.size ≤ p ∧ KMb w p k1 k2 k3 k4 v ∧ (d 13 = true → k1 = M ∧ k2 = C ∧ k3 = S ∧ k4 = F ∧ ∃ a2 c2 e2, v = .slice a2 Y.length c2 ∧ OwnS w e2 v Y)
  f14 : d 14 = true → s tb = .bool T
theorem RgK.later {w0 : World} {n : Int} {a : Option Addr} {cap : Nat} {xs : List Sl} {m cl sv nc : Int} {b : Option Addr} {cb : Nat} {ys : List Sl} {now N M C S F : Int} {X Y : List Sl} {T : Bool} {t0 t1 t2 t3 t4 t5 t6 t7 t8 t9 tk tm tb : Nat} {d : Nat → Bool} {s : Nat → Value} {w w' : World} (h : RgK w0 n a cap xs m cl sv nc b cb ys now N M C S F X Y T t0 t1 t2 t3 t4 t5 t6 t7 t8 t9 tk tm tb d s w) (hb : Below w.heap.size w w') : RgK w0 n a cap xs m cl sv nc b cb ys now N M C S F X Y T t0 t1 t2 t3 t4 t5 t6 t7 t8 t9 tk tm tb d s w' := by
  refine ⟨h.bel.trans (hb.mono h.bel.size), h.f0, fun q e => ?_, h.f2, fun q e => ?_, h.f4, fun q e => ?_, fun e => ?_, fun e => ?_, fun e => ?_, h.f9, fun e => ?_, fun e => ?_, h.f14⟩
  · obtain ⟨g, h1, h2⟩ := h.f1 q e
    exact ⟨g, h1, h2.later hb⟩
  · obtain ⟨g, h1, h2⟩ := h.f3 q e
    exact ⟨g, h1, h2.later hb⟩
  · obtain ⟨a1, c1, a2, c2, e1, e2, h1, h2, h3⟩ := h.f5 q e
    exact ⟨a1, c1, a2, c2, e1, e2, h1, h2.later hb, h3.later hb⟩
  · obtain ⟨a1, c1, a2, c2, e1, e2, h1, h2, h3⟩ := h.f6 e
    exact ⟨a1, c1, a2, c2, e1, e2, h1, h2.later hb, h3.later hb⟩
  · obtain ⟨a1, c1, e1, h1, h2⟩ := h.f7 e
    exact ⟨a1, c1, e1, h1, h2.later hb⟩
  · obtain ⟨a1, c1, e1, h1, h2⟩ := h.f8 e
    exact ⟨a1, c1, e1, h1, h2.later hb⟩
  · obtain ⟨p, k, v, h1, h2, h3, h4⟩ := h.f10 e
    refine ⟨p, k, v, h1, h2, h3.later hb, fun e2 => ?_⟩
    obtain ⟨h5, a1, c1, e1, h6, h7⟩ := h4 e2
    exact ⟨h5, a1, c1, e1, h6, OwnS.later h7 hb⟩
  · obtain ⟨p, k1, k2, k3, k4, v, h1, h2, h3, h4⟩ := h.f11 e
    refine ⟨p, k1, k2, k3, k4, v, h1, h2, h3.later hb, fun e2 => ?_⟩
    obtain ⟨h5, h6, h7, h8, a1, c1, e1, h9, h10⟩ := h4 e2
    exact ⟨h5, h6, h7, h8, a1, c1, e1, h9, OwnS.later h10 hb⟩

set_option maxHeartbeats 40000000 in
set_option maxRecDepth 100000 in
theorem lawKdcTgs_gen (n : Int) (a : Option Addr) (cap : Nat) (xs : List Sl) (m cl sv nc : Int) (b : Option Addr) (cb : Nat) (ys : List Sl) (now : Int) (w : World) (h : SRow w a xs) (hb : SRow w b ys) (hf : Forms w) (hx : xs.length + ys.length ≤ 1048576)
    (N M C S F : Int) (X Y : List Sl) (T : Bool) (hX : X.length ≤ 2000000) (hY : Y.length ≤ 2000000)
    (HS : Hid (∀ (g1 g2 : Nat) (w1 : World), SRow w1 (some ⟨g1, 0, none⟩) xs → SRow w1 (some ⟨g2, 0, none⟩) ys → Forms w1 → Calls Tryd.prog 7 #[.agg #[.int .i64 n, .slice (some ⟨g1, 0, none⟩) xs.length xs.length], .agg #[.int .i64 m, .int .i64 cl, .int .i64 sv, .int .i64 nc, .slice (some ⟨g2, 0, none⟩) ys.length ys.length], .int .i64 now] w1 fun r w' => ∃ a' c' a2 c2 B1 B2, r = .returned (.tuple #[.agg #[.int .i64 N, .slice a' X.length c'], .agg #[.int .i64 M, .int .i64 C, .int .i64 S, .int .i64 F, .slice a2 Y.length c2], .bool T]) ∧ OwnS w' B1 (.slice a' X.length c') X ∧ OwnS w' B2 (.slice a2 Y.length c2) Y ∧ w1.heap.size ≤ B1 ∧ (w1.heap.size ≤ B2 ∧ ∀ k, (Value.slice a' X.length c').ownBlock = some k → k < B2) ∧ Below w1.heap.size w1 w'))
    (HI : Hid (∀ (g1 g2 : Nat) (w1 : World), SRow w1 (some ⟨g1, 0, none⟩) xs → SRow w1 (some ⟨g2, 0, none⟩) ys → Forms w1 → Calls Tryd.prog 10 #[.agg #[.int .i64 n, .slice (some ⟨g1, 0, none⟩) xs.length xs.length], .agg #[.int .i64 m, .int .i64 cl, .int .i64 sv, .int .i64 nc, .slice (some ⟨g2, 0, none⟩) ys.length ys.length], .int .i64 now] w1 fun r w' => ∃ a' c' a2 c2 B1 B2, r = .returned (.tuple #[.agg #[.int .i64 N, .slice a' X.length c'], .agg #[.int .i64 M, .int .i64 C, .int .i64 S, .int .i64 F, .slice a2 Y.length c2], .bool T]) ∧ OwnS w' B1 (.slice a' X.length c') X ∧ OwnS w' B2 (.slice a2 Y.length c2) Y ∧ w1.heap.size ≤ B1 ∧ (w1.heap.size ≤ B2 ∧ ∀ k, (Value.slice a' X.length c').ownBlock = some k → k < B2) ∧ Below w1.heap.size w1 w')) :
    Calls Tryd.prog 3 #[.agg #[.int .i64 n, .slice a xs.length cap], .agg #[.int .i64 m, .int .i64 cl, .int .i64 sv, .int .i64 nc, .slice b ys.length cb], .int .i64 now] w fun r w' => r = .returned (.bool true) ∧ Below w.heap.size w w' := by
  have hl1 : leftI 1048576 xs.length = 1048576 - (xs.length : Int) := by unfold leftI; rw [if_neg (by omega)]
  have hl2 : leftI (1048576 - (xs.length : Int)) ys.length = 1048576 - (xs.length : Int) - (ys.length : Int) := by unfold leftI; rw [if_neg (by omega)]
  have hn1 : ¬ (1048576 - (xs.length : Int)) < 0 := by omega
  have hn2 : ¬ (1048576 - (xs.length : Int) - (ys.length : Int)) < 0 := by omega
  have IN0 := In.new w n (.slice a xs.length cap) m cl sv nc (.slice b ys.length cb)
  obtain ⟨w0, hw0⟩ : ∃ w0, w0 = ((w.alloc (.cells #[.int .i64 n, .slice a xs.length cap] 24)).alloc (.cells #[.int .i64 m, .int .i64 cl, .int .i64 sv, .int .i64 nc, .slice b ys.length cb] 26)) := ⟨_, rfl⟩
  rw [← hw0] at IN0
  have JA : Hid (SRow w a xs) := h
  have JB : Hid (SRow w b ys) := hb
  have JF : Hid (Forms w) := hf
  have HN : Hid (In w n (.slice a xs.length cap) m cl sv nc (.slice b ys.length cb) w0) := IN0
  clear h hb hf IN0
  go_enter Tryd.func3, Tryd.ntmps3
  go_wp2_with fail
  rw [← hw0]
  clear hw0
  refine (szKdc_any n a xs.length cap 1048576 _ (by omega) (by omega) (by omega)).mono ?_
  rintro r w1 ⟨rfl, b1⟩
  have IN1 : Hid (In w n (.slice a xs.length cap) m cl sv nc (.slice b ys.length cb) w1) := HN.out.later b1
  clear HN b1
  rw [hl1]
  clear hl1
  obtain ⟨p0, p1, p2, p3, p4⟩ := IN1.out.cellm
  go_wp2_with fail
  refine (szMsg_any m cl sv nc b ys.length cb _ _ (by omega) (by omega) (by omega)).mono ?_
  rintro r w7 ⟨rfl, b1⟩
  have IN7 : Hid (In w n (.slice a xs.length cap) m cl sv nc (.slice b ys.length cb) w7) := IN1.out.later b1
  rw [hl2]
  clear hl2 p0 p1 p2 p3 p4 IN1 b1 w0 w1
  go_upto_region 8 with fail
  go_cut [8, 9, 10] (fun v8 v9 v10 wc => ∃ (pk pm : Nat) (az1 az2 : Option Addr) (cz1 cz2 : Nat), v8 = .pointer (some ⟨pk, 0, none⟩) ∧ v9 = .pointer (some ⟨pm, 0, none⟩) ∧ v10 = .bool T ∧ Hid (KBlk wc pk N (.slice az1 X.length cz1) ∧ KMb wc pm M C S F (.slice az2 Y.length cz2) ∧ SRow wc az1 X ∧ SRow wc az2 Y ∧ Below w7.heap.size w7 wc))
  case first =>
    refine wp_region_inv [33, 34, 35, 36, 37, 38, 32, 39, 40, 41, 8, 9, 10] (RgK w7 n a cap xs m cl sv nc b cb ys now N M C S F X Y T 33 34 35 36 37 38 32 39 40 41 8 9 10) [0, 1, 2, 3, 4, 5, 6, 7, 8, 9, 10, 11, 12, 13, 14] (by kernel_rfl) (by kernel_rfl) (by kernel_rfl) ?_ ?_ ?_
    · intro s
      exact ⟨(Below.refl _ _).drew, fun e => (by cases e), fun _ e => (by cases e), fun e => (by cases e), fun _ e => (by cases e), fun e => (by cases e), fun _ e => (by cases e), fun e => (by cases e), fun e => (by cases e), fun e => (by cases e), fun e => (by cases e), fun e => (by cases e), fun e => (by cases e), fun e => (by cases e)⟩
    · refine StepsI.cons (i := 0) [] rfl (by kernel_rfl) ?_ (StepsI.cons (i := 1) [0] rfl (by kernel_rfl) ?_ (StepsI.cons (i := 2) [] rfl (by kernel_rfl) ?_ (StepsI.cons (i := 3) [1, 2] rfl (by kernel_rfl) ?_ (StepsI.cons (i := 4) [] rfl (by kernel_rfl) ?_ (StepsI.cons (i := 5) [1, 3, 4] rfl (by kernel_rfl) ?_ (StepsI.cons (i := 6) [5] rfl (by kernel_rfl) ?_ (StepsI.cons (i := 7) [6] rfl (by kernel_rfl) ?_ (StepsI.cons (i := 8) [6] rfl (by kernel_rfl) ?_ (StepsI.cons (i := 9) [6] rfl (by kernel_rfl) ?_ (StepsI.cons (i := 10) [] rfl (by kernel_rfl) ?_ (StepsI.cons (i := 11) [] rfl (by kernel_rfl) ?_ (StepsI.cons (i := 12) [0, 1, 2, 3, 4, 5, 6, 7, 10, 11] rfl (by kernel_rfl) ?_ (StepsI.cons (i := 13) [0, 1, 2, 3, 4, 5, 6, 7, 8, 10, 11, 12] rfl (by kernel_rfl) ?_ (StepsI.cons (i := 14) [0, 1, 2, 3, 4, 5, 6, 7, 8, 9, 10, 11, 12, 13] rfl (by kernel_rfl) ?_ (StepsI.nil)))))))))))))))
      · intro d s w' hd hA hC hF K hK
        have hB9 := hF.bel
        simp only [putL, putT, List.setIfInBounds_toArray, List.set_cons_zero, List.set_cons_succ]
        clear hB9
        as_aux_lemma =>
          obtain ⟨p0, p1⟩ := (IN7.out.later hF.bel).cells
          (go_simp) <;> (try (intro hx9; omega))
          clear p0 p1
          exact hK.out (updS s 33 (Value.agg #[.int .i64 n, .slice a xs.length cap])) _ _ (by (simp only [putL, putT, List.setIfInBounds_toArray, List.set_cons_zero, List.set_cons_succ]); rfl) ⟨hF.bel, fun _ => rfl, hF.f1, hF.f2, hF.f3, hF.f4, hF.f5, hF.f6, hF.f7, hF.f8, hF.f9, hF.f10, hF.f11, hF.f14⟩
      · intro d s w' hd hA hC hF K hK
        have hB9 := hF.bel
        simp only [putL, putT, List.setIfInBounds_toArray, List.set_cons_zero, List.set_cons_succ]
        clear hB9
        as_aux_lemma =>
          have e0 := hF.f0 hA.1
          rw [e0]
          go_simp
          refine (toKdc_any n a cap xs _ (JA.out.later (IN7.out.later hF.bel).below) (by omega)).mono ?_
          rintro r w2 ⟨g1, rfl, _, r9, _, b9⟩
          go_simp
          have hF2 := hF.later b9
          refine hK.out (updS s 34 (Value.agg #[.int .i64 n, .slice (some ⟨g1, 0, none⟩) xs.length xs.length])) _ _ ?_ ⟨hF2.bel, hF2.f0, fun _ _ => ⟨g1, rfl, r9⟩, hF2.f2, hF2.f3, hF2.f4, hF2.f5, hF2.f6, hF2.f7, hF2.f8, hF2.f9, hF2.f10, hF2.f11, hF2.f14⟩
          (simp only [putL, putT, List.setIfInBounds_toArray, List.set_cons_zero, List.set_cons_succ]); rw [← e0]; (try rfl)
      · intro d s w' hd hA hC hF K hK
        have hB9 := hF.bel
        simp only [putL, putT, List.setIfInBounds_toArray, List.set_cons_zero, List.set_cons_succ]
        clear hB9
        as_aux_lemma =>
          obtain ⟨p0, p1, p2, p3, p4⟩ := (IN7.out.later hF.bel).cellm
          (go_simp) <;> (try (intro hx9; omega))
          clear p0 p1 p2 p3 p4
          exact hK.out (updS s 35 (Value.agg #[.int .i64 m, .int .i64 cl, .int .i64 sv, .int .i64 nc, .slice b ys.length cb])) _ _ (by (simp only [putL, putT, List.setIfInBounds_toArray, List.set_cons_zero, List.set_cons_succ]); rfl) ⟨hF.bel, hF.f0, hF.f1, fun _ => rfl, hF.f3, hF.f4, hF.f5, hF.f6, hF.f7, hF.f8, hF.f9, hF.f10, hF.f11, hF.f14⟩
      · intro d s w' hd hA hC hF K hK
        have hB9 := hF.bel
        simp only [putL, putT, List.setIfInBounds_toArray, List.set_cons_zero, List.set_cons_succ]
        clear hB9
        as_aux_lemma =>
          have e0 := hF.f2 hA.2.1
          rw [e0]
          go_simp
          refine (toMsg_wb m cl sv nc b cb ys _ (JB.out.later (IN7.out.later hF.bel).below) (by omega)).mono ?_
          rintro r w2 ⟨g1, rfl, _, r9, _, b9⟩
          go_simp
          have hF2 := hF.later b9
          refine hK.out (updS s 36 (Value.agg #[.int .i64 m, .int .i64 cl, .int .i64 sv, .int .i64 nc, .slice (some ⟨g1, 0, none⟩) ys.length ys.length])) _ _ ?_ ⟨hF2.bel, hF2.f0, hF2.f1, hF2.f2, fun _ _ => ⟨g1, rfl, r9⟩, hF2.f4, hF2.f5, hF2.f6, hF2.f7, hF2.f8, hF2.f9, hF2.f10, hF2.f11, hF2.f14⟩
          (simp only [putL, putT, List.setIfInBounds_toArray, List.set_cons_zero, List.set_cons_succ]); rw [← e0]; (try rfl)
      · intro d s w' hd hA hC hF K hK
        have hB9 := hF.bel
        simp only [putL, putT, List.setIfInBounds_toArray, List.set_cons_zero, List.set_cons_succ]
        clear hB9
        as_aux_lemma =>
          go_simp
          exact hK.out (updS s 37 (.int .i64 now)) _ _ (by (simp only [putL, putT, List.setIfInBounds_toArray, List.set_cons_zero, List.set_cons_succ]); rfl) ⟨hF.bel, hF.f0, hF.f1, hF.f2, hF.f3, fun _ => rfl, hF.f5, hF.f6, hF.f7, hF.f8, hF.f9, hF.f10, hF.f11, hF.f14⟩
      · intro d s w' hd hA hC hF K hK
        have hB9 := hF.bel
        simp only [putL, putT, List.setIfInBounds_toArray, List.set_cons_zero, List.set_cons_succ]
        clear hB9
        as_aux_lemma =>
          obtain ⟨g1, e1, r1⟩ := hF.f1 (hC.off 12 5 (by kernel_rfl) hd) hA.1
          obtain ⟨g2, e2, r2⟩ := hF.f3 (hC.off 12 5 (by kernel_rfl) hd) hA.2.1
          have e3 := hF.f4 hA.2.2.1
          have R1 : Hid (SRow w' (some ⟨g1, 0, none⟩) xs) := r1
          have R2 : Hid (SRow w' (some ⟨g2, 0, none⟩) ys) := r2
          clear r1 r2
          rw [e1, e2, e3]
          go_simp
          refine (HS.out g1 g2 _ R1.out R2.out (JF.out.later (IN7.out.later hF.bel).below)).mono ?_
          rintro r w2 ⟨a1, c1, a2, c2, B1, B2, rfl, o1, o2, _, _, b9⟩
          go_simp
          have hF2 := hF.later b9
          refine hK.out (updS s 38 (Value.tuple #[.agg #[.int .i64 N, .slice a1 X.length c1], .agg #[.int .i64 M, .int .i64 C, .int .i64 S, .int .i64 F, .slice a2 Y.length c2], .bool T])) _ _ ?_ ⟨hF2.bel, hF2.f0, hF2.f1, hF2.f2, hF2.f3, hF2.f4, fun _ _ => ⟨a1, c1, a2, c2, B1, B2, rfl, o1, o2⟩, hF2.f6, hF2.f7, hF2.f8, hF2.f9, hF2.f10, hF2.f11, hF2.f14⟩
          (simp only [putL, putT, List.setIfInBounds_toArray, List.set_cons_zero, List.set_cons_succ]); rw [← e1, ← e2, ← e3]; (try rfl)
      · intro d s w' hd hA hC hF K hK
        have hB9 := hF.bel
        simp only [putL, putT, List.setIfInBounds_toArray, List.set_cons_zero, List.set_cons_succ]
        clear hB9
        as_aux_lemma =>
          obtain ⟨a1, c1, a2, c2, B1, B2, e0, o1, o2⟩ := hF.f5 (hC.off 12 6 (by kernel_rfl) hd) hA.1
          have O1 : Hid (OwnS w' B1 (.slice a1 X.length c1) X ∧ OwnS w' B2 (.slice a2 Y.length c2) Y) := ⟨o1, o2⟩
          clear o1 o2
          rw [e0]
          go_simp
          refine hK.out (updS s 32 (Value.tuple #[.agg #[.int .i64 N, .slice a1 X.length c1], .agg #[.int .i64 M, .int .i64 C, .int .i64 S, .int .i64 F, .slice a2 Y.length c2], .bool T])) _ _ ?_ ⟨hF.bel, hF.f0, hF.f1, hF.f2, hF.f3, hF.f4, hF.f5, fun _ => ⟨a1, c1, a2, c2, B1, B2, rfl, O1.out.1, O1.out.2⟩, hF.f7, hF.f8, hF.f9, hF.f10, hF.f11, hF.f14⟩
          (simp only [putL, putT, List.setIfInBounds_toArray, List.set_cons_zero, List.set_cons_succ]); rw [← e0]; (try rfl)
      · intro d s w' hd hA hC hF K hK
        have hB9 := hF.bel
        simp only [putL, putT, List.setIfInBounds_toArray, List.set_cons_zero, List.set_cons_succ]
        clear hB9
        as_aux_lemma =>
          obtain ⟨a1, c1, a2, c2, B1, B2, e0, o1, o2⟩ := hF.f6 hA.1
          have O1 : Hid (OwnS w' B1 (.slice a1 X.length c1) X ∧ OwnS w' B2 (.slice a2 Y.length c2) Y) := ⟨o1, o2⟩
          clear o1 o2
          rw [e0]
          go_simp
          refine hK.out (updS s 39 (Value.agg #[.int .i64 N, .slice a1 X.length c1])) _ _ ?_ ⟨hF.bel, hF.f0, hF.f1, hF.f2, hF.f3, hF.f4, hF.f5, hF.f6, fun _ => ⟨a1, c1, B1, rfl, O1.out.1⟩, hF.f8, hF.f9, hF.f10, hF.f11, hF.f14⟩
          (simp only [putL, putT, List.setIfInBounds_toArray, List.set_cons_zero, List.set_cons_succ]); rw [← e0]; (try rfl)
      · intro d s w' hd hA hC hF K hK
        have hB9 := hF.bel
        simp only [putL, putT, List.setIfInBounds_toArray, List.set_cons_zero, List.set_cons_succ]
        clear hB9
        as_aux_lemma =>
          obtain ⟨a1, c1, a2, c2, B1, B2, e0, o1, o2⟩ := hF.f6 hA.1
          have O1 : Hid (OwnS w' B1 (.slice a1 X.length c1) X ∧ OwnS w' B2 (.slice a2 Y.length c2) Y) := ⟨o1, o2⟩
          clear o1 o2
          rw [e0]
          go_simp
          refine hK.out (updS s 40 (Value.agg #[.int .i64 M, .int .i64 C, .int .i64 S, .int .i64 F, .slice a2 Y.length c2])) _ _ ?_ ⟨hF.bel, hF.f0, hF.f1, hF.f2, hF.f3, hF.f4, hF.f5, hF.f6, hF.f7, fun _ => ⟨a2, c2, B2, rfl, O1.out.2⟩, hF.f9, hF.f10, hF.f11, hF.f14⟩
          (simp only [putL, putT, List.setIfInBounds_toArray, List.set_cons_zero, List.set_cons_succ]); rw [← e0]; (try rfl)
      · intro d s w' hd hA hC hF K hK
        have hB9 := hF.bel
        simp only [putL, putT, List.setIfInBounds_toArray, List.set_cons_zero, List.set_cons_succ]
        clear hB9
        as_aux_lemma =>
          obtain ⟨a1, c1, a2, c2, B1, B2, e0, o1, o2⟩ := hF.f6 hA.1
          have O1 : Hid (OwnS w' B1 (.slice a1 X.length c1) X ∧ OwnS w' B2 (.slice a2 Y.length c2) Y) := ⟨o1, o2⟩
          clear o1 o2
          rw [e0]
          go_simp
          refine hK.out (updS s 41 (Value.bool T)) _ _ ?_ ⟨hF.bel, hF.f0, hF.f1, hF.f2, hF.f3, hF.f4, hF.f5, hF.f6, hF.f7, hF.f8, fun _ => rfl, hF.f10, hF.f11, hF.f14⟩
          (simp only [putL, putT, List.setIfInBounds_toArray, List.set_cons_zero, List.set_cons_succ]); rw [← e0]; (try rfl)
      · intro d s w' hd hA hC hF K hK
        have hB9 := hF.bel
        simp only [putL, putT, List.setIfInBounds_toArray, List.set_cons_zero, List.set_cons_succ]
        clear hB9
        as_aux_lemma =>
          go_simp
          have b9 : Below w'.heap.size w' (w'.alloc (.cells #[.int .i64 0, .slice none 0 0] 31)) := Below.alloc_ _ _
          have hF2 := hF.later b9
          have off := hC.off 12 10 (by kernel_rfl) hd
          exact hK.out (updS s 8 (.pointer (some ⟨w'.heap.size, 0, none⟩))) _ _ (by (simp only [putL, putT, List.setIfInBounds_toArray, List.set_cons_zero, List.set_cons_succ]); rfl) ⟨hF2.bel, hF2.f0, hF2.f1, hF2.f2, hF2.f3, hF2.f4, hF2.f5, hF2.f6, hF2.f7, hF2.f8, hF2.f9, fun _ => ⟨_, 0, .slice none 0 0, rfl, hF.bel.size, KBlk.new _ _ _, fun e => (by rw [show upd d 10 12 = d 12 from rfl, off] at e; cases e)⟩, hF2.f11, hF2.f14⟩
      · intro d s w' hd hA hC hF K hK
        have hB9 := hF.bel
        simp only [putL, putT, List.setIfInBounds_toArray, List.set_cons_zero, List.set_cons_succ]
        clear hB9
        as_aux_lemma =>
          go_simp
          have b9 : Below w'.heap.size w' (w'.alloc (.cells #[.int .i64 0, .int .i64 0, .int .i64 0, .int .i64 0, .slice none 0 0] 33)) := Below.alloc_ _ _
          have hF2 := hF.later b9
          have off := hC.off 13 11 (by kernel_rfl) hd
          exact hK.out (updS s 9 (.pointer (some ⟨w'.heap.size, 0, none⟩))) _ _ (by (simp only [putL, putT, List.setIfInBounds_toArray, List.set_cons_zero, List.set_cons_succ]); rfl) ⟨hF2.bel, hF2.f0, hF2.f1, hF2.f2, hF2.f3, hF2.f4, hF2.f5, hF2.f6, hF2.f7, hF2.f8, hF2.f9, hF2.f10, fun _ => ⟨_, 0, 0, 0, 0, .slice none 0 0, rfl, hF.bel.size, KMb.new _ _ _ _ _ _, fun e => (by rw [show upd d 11 13 = d 13 from rfl, off] at e; cases e)⟩, hF2.f14⟩
      · intro d s w' hd hA hC hF K hK
        have hB9 := hF.bel
        simp only [putL, putT, List.setIfInBounds_toArray, List.set_cons_zero, List.set_cons_succ]
        clear hB9
        as_aux_lemma =>
          obtain ⟨p, k, v, e1, hp, hk, _⟩ := hF.f10 (hA.2.2.2.2.2.2.2.2.1)
          obtain ⟨q, k1, k2, k3, k4, v2, e2, hq, hm, _⟩ := hF.f11 (hA.2.2.2.2.2.2.2.2.2.1)
          obtain ⟨a1, c1, B1, e3, o1⟩ := hF.f7 (hA.2.2.2.2.2.2.2.1)
          have H0 : Hid (KBlk w' p k v ∧ KMb w' q k1 k2 k3 k4 v2 ∧ OwnS w' B1 (.slice a1 X.length c1) X) := ⟨hk, hm, o1⟩
          obtain ⟨p0, p1⟩ := hk.cells
          have z0 := hk.fro 0
          have z1 := hk.fro 1
          clear hk hm o1
          rw [e1, e3]
          go_simp
          clear p0 p1 z0 z1
          have g9 : w'.grownBy ((w'.setCell ⟨p, 0, none⟩ (.int .i64 N)).setCell ⟨p, 1, none⟩ (Value.slice a1 X.length c1)) (some p) := put2_grown _ _ _ _
          have H1 : KBlk ((w'.setCell ⟨p, 0, none⟩ (.int .i64 N)).setCell ⟨p, 1, none⟩ (Value.slice a1 X.length c1)) p N (Value.slice a1 X.length c1) := H0.out.1.put _ _
          generalize ((w'.setCell ⟨p, 0, none⟩ (.int .i64 N)).setCell ⟨p, 1, none⟩ (Value.slice a1 X.length c1)) = W at g9 H1 ⊢
          have H2 : KMb W q k1 k2 k3 k4 v2 := H0.out.2.1.grown g9 (fun e => H0.out.1.offM H0.out.2.1 (by injection e with e; exact e.symm))
          have H3 : OwnS W B1 (.slice a1 X.length c1) X := H0.out.2.2.gr g9 (H0.out.2.2.offK H0.out.1)
          have H5 : Below w7.heap.size w7 W := hF.bel.grown g9 hF.bel.size (fun q e => by injection e with e; rw [← e]; exact hp)
          have off5 : d 13 = false := hC.off 13 12 (by kernel_rfl) hd
          refine hK.out s _ _ ?_ ⟨H5, hF.f0, fun e => (by cases e), hF.f2, fun e => (by cases e), hF.f4, fun e => (by cases e), fun e => ?_, fun _ => ⟨a1, c1, B1, e3, H3⟩, fun e => ?_, hF.f9, fun _ => ⟨p, N, _, e1, hp, H1, fun _ => ⟨rfl, a1, c1, B1, rfl, H3⟩⟩, fun _ => ⟨q, k1, k2, k3, k4, v2, e2, hq, H2, fun e => (by rw [show upd d 12 13 = d 13 from rfl, off5] at e; cases e)⟩, hF.f14⟩
          · (simp only [putL, putT, List.setIfInBounds_toArray, List.set_cons_zero, List.set_cons_succ]); rw [← e1, ← e2, ← e3]; (try rfl)
          · obtain ⟨x1, y1, x2, y2, B3, B4, h1, h2, h3⟩ := hF.f6 e
            exact ⟨x1, y1, x2, y2, B3, B4, h1, h2.gr g9 (h2.offK H0.out.1), h3.gr g9 (h3.offK H0.out.1)⟩
          · obtain ⟨x1, y1, B3, h1, h2⟩ := hF.f8 e
            exact ⟨x1, y1, B3, h1, h2.gr g9 (h2.offK H0.out.1)⟩
      · intro d s w' hd hA hC hF K hK
        have hB9 := hF.bel
        simp only [putL, putT, List.setIfInBounds_toArray, List.set_cons_zero, List.set_cons_succ]
        clear hB9
        as_aux_lemma =>
          obtain ⟨p, k, v, e1, hp, hk, hk2⟩ := hF.f10 (hA.2.2.2.2.2.2.2.2.2.1)
          obtain ⟨rfl, a1, c1, B1, rfl, o1⟩ := hk2 (hA.2.2.2.2.2.2.2.2.2.2.2.1)
          obtain ⟨q, k1, k2, k3, k4, v2, e2, hq, hm, _⟩ := hF.f11 (hA.2.2.2.2.2.2.2.2.2.2.1)
          obtain ⟨a2, c2, B2, e4, o2⟩ := hF.f8 (hA.2.2.2.2.2.2.2.2.1)
          have H0 : Hid (KBlk w' p k (.slice a1 X.length c1) ∧ KMb w' q k1 k2 k3 k4 v2 ∧ OwnS w' B1 (.slice a1 X.length c1) X ∧ OwnS w' B2 (.slice a2 Y.length c2) Y) := ⟨hk, hm, o1, o2⟩
          obtain ⟨p0, p1, p2, p3, p4⟩ := hm.cells
          have z0 := hm.fro 0
          have z1 := hm.fro 1
          have z2 := hm.fro 2
          have z3 := hm.fro 3
          have z4 := hm.fro 4
          clear hk hm o1 o2 hk2
          rw [e2, e4]
          go_simp
          clear p0 p1 p2 p3 p4 z0 z1 z2 z3 z4
          have g9 : w'.grownBy (((((w'.setCell ⟨q, 0, none⟩ (.int .i64 M)).setCell ⟨q, 1, none⟩ (.int .i64 C)).setCell ⟨q, 2, none⟩ (.int .i64 S)).setCell ⟨q, 3, none⟩ (.int .i64 F)).setCell ⟨q, 4, none⟩ (Value.slice a2 Y.length c2)) (some q) := put5_grown _ _ _ _ _ _ _
          have H2 : KMb (((((w'.setCell ⟨q, 0, none⟩ (.int .i64 M)).setCell ⟨q, 1, none⟩ (.int .i64 C)).setCell ⟨q, 2, none⟩ (.int .i64 S)).setCell ⟨q, 3, none⟩ (.int .i64 F)).setCell ⟨q, 4, none⟩ (Value.slice a2 Y.length c2)) q M C S F (.slice a2 Y.length c2) := H0.out.2.1.put _ _ _ _ _
          generalize (((((w'.setCell ⟨q, 0, none⟩ (.int .i64 M)).setCell ⟨q, 1, none⟩ (.int .i64 C)).setCell ⟨q, 2, none⟩ (.int .i64 S)).setCell ⟨q, 3, none⟩ (.int .i64 F)).setCell ⟨q, 4, none⟩ (Value.slice a2 Y.length c2)) = W at g9 H2 ⊢
          have H1 : KBlk W p k (Value.slice a1 X.length c1) := H0.out.1.grown g9 (fun e => H0.out.1.offM H0.out.2.1 (by injection e))
          have H3 : OwnS W B1 (.slice a1 X.length c1) X := H0.out.2.2.1.gr g9 (H0.out.2.2.1.offM H0.out.2.1)
          have H4 : OwnS W B2 (.slice a2 Y.length c2) Y := H0.out.2.2.2.gr g9 (H0.out.2.2.2.offM H0.out.2.1)
          have H5 : Below w7.heap.size w7 W := hF.bel.grown g9 hF.bel.size (fun q e => by injection e with e; rw [← e]; exact hq)
          have on12 := hA.2.2.2.2.2.2.2.2.2.2.2.1
          refine hK.out s _ _ ?_ ⟨H5, hF.f0, fun e => (by rw [show upd d 13 12 = d 12 from rfl, on12] at e; cases e), hF.f2, fun e => (by rw [show upd d 13 12 = d 12 from rfl, on12] at e; cases e), hF.f4, fun e => (by rw [show upd d 13 12 = d 12 from rfl, on12] at e; cases e), fun e => ?_, fun e => ?_, fun _ => ⟨a2, c2, B2, e4, H4⟩, hF.f9, fun _ => ⟨p, k, _, e1, hp, H1, fun _ => ⟨rfl, a1, c1, B1, rfl, H3⟩⟩, fun _ => ⟨q, M, C, S, F, _, e2, hq, H2, fun _ => ⟨rfl, rfl, rfl, rfl, a2, c2, B2, rfl, H4⟩⟩, hF.f14⟩
          · (simp only [putL, putT, List.setIfInBounds_toArray, List.set_cons_zero, List.set_cons_succ]); rw [← e1, ← e2, ← e4]; (try rfl)
          · obtain ⟨x1, y1, x2, y2, B3, B4, h1, h2, h3⟩ := hF.f6 e
            exact ⟨x1, y1, x2, y2, B3, B4, h1, h2.gr g9 (h2.offM H0.out.2.1), h3.gr g9 (h3.offM H0.out.2.1)⟩
          · obtain ⟨x1, y1, B3, h1, h2⟩ := hF.f7 e
            exact ⟨x1, y1, B3, h1, h2.gr g9 (h2.offM H0.out.2.1)⟩
      · intro d s w' hd hA hC hF K hK
        have hB9 := hF.bel
        simp only [putL, putT, List.setIfInBounds_toArray, List.set_cons_zero, List.set_cons_succ]
        clear hB9
        as_aux_lemma =>
          have e0 := hF.f9 (hA.2.2.2.2.2.2.2.2.2.1)
          rw [e0]
          go_simp
          refine hK.out (updS s 10 (.bool T)) _ _ ?_ ⟨hF.bel, hF.f0, hF.f1, hF.f2, hF.f3, hF.f4, hF.f5, hF.f6, hF.f7, hF.f8, hF.f9, hF.f10, hF.f11, fun _ => rfl⟩
          (simp only [putL, putT, List.setIfInBounds_toArray, List.set_cons_zero, List.set_cons_succ]); rw [← e0]; (try rfl)
    · intro d s w' hA hF
      obtain ⟨p, k, v, e1, hp, hk, hk2⟩ := hF.f10 (hA.2.2.2.2.2.2.2.2.2.2.1)
      obtain ⟨rfl, a1, c1, B1, rfl, o1⟩ := hk2 (hA.2.2.2.2.2.2.2.2.2.2.2.2.1)
      obtain ⟨q, k1, k2, k3, k4, v2, e2, hq, hm, hm2⟩ := hF.f11 (hA.2.2.2.2.2.2.2.2.2.2.2.1)
      obtain ⟨rfl, rfl, rfl, rfl, a2, c2, B2, rfl, o2⟩ := hm2 (hA.2.2.2.2.2.2.2.2.2.2.2.2.2.1)
      have e3 := hF.f14 (hA.2.2.2.2.2.2.2.2.2.2.2.2.2.2.1)
      have H0 : Hid (KBlk w' p k (.slice a1 X.length c1) ∧ KMb w' q k1 k2 k3 k4 (.slice a2 Y.length c2) ∧ SRow w' a1 X ∧ SRow w' a2 Y ∧ Below w7.heap.size w7 w') := ⟨hk, hm, OwnS.rowAt o1, OwnS.rowAt o2, hF.bel⟩
      clear hk hm o1 o2 hk2 hm2 hF hA
      simp only [putL, putT, List.setIfInBounds_toArray, List.set_cons_zero, List.set_cons_succ]
      rw [e1, e2, e3]
      clear e1 e2 e3
      go_wp2_with fail
      go_meet
      case rel => exact ⟨p, q, a1, a2, c1, c2, rfl, rfl, rfl, H0⟩
  case rest =>
   as_aux_lemma =>
    obtain ⟨p8, p9, az1, az2, cz1, cz2, rfl, rfl, rfl, HZ⟩ := hcut
    have IN8 : Hid (In w n (.slice a xs.length cap) m cl sv nc (.slice b ys.length cb) wc) := IN7.out.later HZ.out.2.2.2.2
    have Z8 : Hid (KBlk wc p8 N (.slice az1 X.length cz1) ∧ KMb wc p9 M C S F (.slice az2 Y.length cz2) ∧ SRow wc az1 X ∧ SRow wc az2 Y) := ⟨HZ.out.1, HZ.out.2.1, HZ.out.2.2.1, HZ.out.2.2.2.1⟩
    clear HZ IN7
    obtain ⟨w8, hw8⟩ : ∃ w8, w8 = wc := ⟨_, rfl⟩
    subst hw8
    obtain ⟨q0, q1⟩ := IN8.out.cells
    -- a copy of each
    go_wp2_with fail
    refine (toKdc_any n a cap xs _ (JA.out.later IN8.out.below) (by omega)).mono ?_
    rintro r w9 ⟨g11, rfl, hg11, r9, wb9, b9⟩
    have IN9 : Hid (In w n (.slice a xs.length cap) m cl sv nc (.slice b ys.length cb) w9) := IN8.out.later b9
    have L9 : w.heap.size + 1 < w9.heap.size := IN9.out.size
    have G9 := wb9.lt
    have D9 : Hid (SRow w9 (some ⟨g11, 0, none⟩) xs ∧ WB w9 g11 (xs.length * 7) ∧ Below w8.heap.size w8 w9) := ⟨r9, wb9, b9⟩
    clear r9 wb9 b9 q0 q1
    obtain ⟨q0, q1, q2, q3, q4⟩ := IN9.out.cellm
    go_wp2_with fail
    have b9 := Below.alloc_ w9 (.cells #[.int .i64 n, .slice (some ⟨g11, 0, none⟩) xs.length xs.length] 31)
    have K9 := KBlk.new w9 n (.slice (some ⟨g11, 0, none⟩) xs.length xs.length)
    refine (toMsg_wb m cl sv nc b cb ys _ (JB.out.later (IN9.out.later b9).below) (by omega)).mono ?_
    rintro r w10 ⟨g12, rfl, hg12, r10, wb10, b10⟩
    replace hg12 : w9.heap.size + 1 ≤ g12 := by simpa using hg12
    have G10 := wb10.lt
    have L10 : w9.heap.size < w10.heap.size := by have := b10.size; simp at this; omega
    have D10 : Hid (SRow w10 (some ⟨g11, 0, none⟩) xs ∧ WB w10 g11 (xs.length * 7) ∧ SRow w10 (some ⟨g12, 0, none⟩) ys ∧ WB w10 g12 (ys.length * 7) ∧ KBlk w10 w9.heap.size n (.slice (some ⟨g11, 0, none⟩) xs.length xs.length) ∧ In w n (.slice a xs.length cap) m cl sv nc (.slice b ys.length cb) w10 ∧ Below w8.heap.size w8 w10) := by
      have bb := b9.trans (b10.mono b9.size)
      exact ⟨D9.out.1.later bb, D9.out.2.1.same (bb.block _ G9), r10, wb10, K9.later b10, IN9.out.later bb, D9.out.2.2.trans (bb.mono D9.out.2.2.size)⟩
    clear D9 IN9 b9 b10 r10 wb10 K9 q0 q1 q2 q3 q4
    obtain ⟨k0, k1⟩ := D10.out.2.2.2.2.1.cells
    go_wp2_with fail
    -- the program
    have E10 : Hid (Below w10.heap.size w10 (w10.alloc (.cells #[.int .i64 m, .int .i64 cl, .int .i64 sv, .int .i64 nc, .slice (some ⟨g12, 0, none⟩) ys.length ys.length] 33)) ∧ KMb (w10.alloc (.cells #[.int .i64 m, .int .i64 cl, .int .i64 sv, .int .i64 nc, .slice (some ⟨g12, 0, none⟩) ys.length ys.length] 33)) w10.heap.size m cl sv nc (.slice (some ⟨g12, 0, none⟩) ys.length ys.length)) := ⟨Below.alloc_ _ _, KMb.new _ _ _ _ _ _⟩
    refine (HI.out g11 g12 _ (D10.out.1.later E10.out.1) (D10.out.2.2.1.later E10.out.1) (JF.out.later (D10.out.2.2.2.2.2.1.later E10.out.1).below)).mono ?_
    rintro r w11 ⟨ax1, cx1, ax2, cx2, e1, e2, rfl, o1, o2, he1, ⟨he2, he3⟩, b11⟩
    replace he1 : w10.heap.size + 1 ≤ e1 := by simpa using he1
    replace he2 : w10.heap.size + 1 ≤ e2 := by simpa using he2
    have L11 : w10.heap.size < w11.heap.size := by have := b11.size; simp at this; omega
    have bb11 : Below w10.heap.size w10 w11 := E10.out.1.trans (b11.mono E10.out.1.size)
    have D11 : Hid (SRow w11 (some ⟨g11, 0, none⟩) xs ∧ WB w11 g11 (xs.length * 7) ∧ SRow w11 (some ⟨g12, 0, none⟩) ys ∧ WB w11 g12 (ys.length * 7) ∧ KBlk w11 w9.heap.size n (.slice (some ⟨g11, 0, none⟩) xs.length xs.length) ∧ KMb w11 w10.heap.size m cl sv nc (.slice (some ⟨g12, 0, none⟩) ys.length ys.length)) :=
      ⟨D10.out.1.later bb11, D10.out.2.1.same (bb11.block _ (by omega)), D10.out.2.2.1.later bb11, D10.out.2.2.2.1.same (bb11.block _ G10), D10.out.2.2.2.2.1.later bb11, E10.out.2.later b11⟩
    have IN11 : Hid (Below w8.heap.size w8 w11) := D10.out.2.2.2.2.2.2.trans (bb11.mono D10.out.2.2.2.2.2.2.size)
    have O11 : Hid (OwnS w11 e1 (.slice ax1 X.length cx1) X ∧ OwnS w11 e2 (.slice ax2 Y.length cx2) Y) := ⟨o1, o2⟩
    have L8a : p8 < w11.heap.size := Nat.lt_of_lt_of_le Z8.out.1.lt IN11.out.size
    have W8a : w.heap.size + 2 ≤ w8.heap.size := IN8.out.size
    have W8b : w8.heap.size ≤ g11 := hg11
    have HO : Hid (∀ k, (Value.slice ax1 X.length cx1).ownBlock = some k → k < e2) := he3
    obtain ⟨z0, z1⟩ := (Z8.out.1.later IN11.out).cells
    clear D10 E10 b11 bb11 o1 o2 he3 k0 k1
    go_wp2_with fail
    clear z0 z1 L8a
    obtain ⟨wA, hwA⟩ : ∃ wA, wA = ((w11.alloc (.cells #[.int .i64 N, .slice ax1 X.length cx1] 31)).alloc (.cells #[.int .i64 M, .int .i64 C, .int .i64 S, .int .i64 F, .slice ax2 Y.length cx2] 33)) := ⟨_, rfl⟩
    have bA : Below w11.heap.size w11 wA := hwA ▸ (Below.alloc_ _ _).trans ((Below.alloc_ _ _).mono (by simp))
    have KA : KBlk wA w11.heap.size N (.slice ax1 X.length cx1) ∧ KMb wA (w11.heap.size + 1) M C S F (.slice ax2 Y.length cx2) := by
      subst hwA
      refine ⟨(KBlk.new _ _ _).later (Below.alloc_ _ _), ?_⟩
      have e := KMb.new (w11.alloc (.cells #[.int .i64 N, .slice ax1 X.length cx1] 31)) M C S F (.slice ax2 Y.length cx2)
      simpa using e
    rw [← hwA]
    clear hwA
    have RA : Hid (KBlk wA w11.heap.size N (.slice ax1 X.length cx1) ∧ KMb wA (w11.heap.size + 1) M C S F (.slice ax2 Y.length cx2) ∧ OwnS wA e1 (.slice ax1 X.length cx1) X ∧ OwnS wA e2 (.slice ax2 Y.length cx2) Y) := ⟨KA.1, KA.2, O11.out.1.later bA, O11.out.2.later bA⟩
    have DA : Hid (SRow wA (some ⟨g11, 0, none⟩) xs ∧ WB wA g11 (xs.length * 7) ∧ SRow wA (some ⟨g12, 0, none⟩) ys ∧ WB wA g12 (ys.length * 7) ∧ KBlk wA w9.heap.size n (.slice (some ⟨g11, 0, none⟩) xs.length xs.length) ∧ KMb wA w10.heap.size m cl sv nc (.slice (some ⟨g12, 0, none⟩) ys.length ys.length)) := ⟨D11.out.1.later bA, D11.out.2.1.same (bA.block _ D11.out.2.1.lt), D11.out.2.2.1.later bA, D11.out.2.2.2.1.same (bA.block _ D11.out.2.2.2.1.lt), D11.out.2.2.2.2.1.later bA, D11.out.2.2.2.2.2.later bA⟩
    have EA : Hid (Below w8.heap.size w8 wA) := IN11.out.trans (bA.mono IN11.out.size)
    clear KA O11 D11 bA IN11
    refine (eqKdc_same N ax1 az1 cx1 cz1 X _ (OwnS.rowAt RA.out.2.2.1) (Z8.out.2.2.1.later EA.out) hX).mono ?_
    rintro r wB ⟨rfl, b9⟩
    have RB : Hid (KBlk wB w11.heap.size N (.slice ax1 X.length cx1) ∧ KMb wB (w11.heap.size + 1) M C S F (.slice ax2 Y.length cx2) ∧ OwnS wB e1 (.slice ax1 X.length cx1) X ∧ OwnS wB e2 (.slice ax2 Y.length cx2) Y) := ⟨RA.out.1.later b9, RA.out.2.1.later b9, RA.out.2.2.1.later b9, RA.out.2.2.2.later b9⟩
    have DB : Hid (SRow wB (some ⟨g11, 0, none⟩) xs ∧ WB wB g11 (xs.length * 7) ∧ SRow wB (some ⟨g12, 0, none⟩) ys ∧ WB wB g12 (ys.length * 7) ∧ KBlk wB w9.heap.size n (.slice (some ⟨g11, 0, none⟩) xs.length xs.length) ∧ KMb wB w10.heap.size m cl sv nc (.slice (some ⟨g12, 0, none⟩) ys.length ys.length)) := ⟨DA.out.1.later b9, DA.out.2.1.same (b9.block _ DA.out.2.1.lt), DA.out.2.2.1.later b9, DA.out.2.2.2.1.same (b9.block _ DA.out.2.2.2.1.lt), DA.out.2.2.2.2.1.later b9, DA.out.2.2.2.2.2.later b9⟩
    have EB : Hid (Below w8.heap.size w8 wB) := EA.out.trans (b9.mono EA.out.size)
    clear b9 RA DA EA
    obtain ⟨z0, z1⟩ := (Z8.out.1.later EB.out).cells
    obtain ⟨y0, y1, y2, y3, y4⟩ := (Z8.out.2.1.later EB.out).cells
    obtain ⟨x0, x1⟩ := RB.out.1.cells
    obtain ⟨t0, t1, t2, t3, t4⟩ := RB.out.2.1.cells
    go_wp2_with fail
    clear z0 z1 y0 y1 y2 y3 y4
    clear x0 x1 t0 t1 t2 t3 t4
    refine (eqMsg_same M C S F ax2 az2 cx2 cz2 Y _ (OwnS.rowAt RB.out.2.2.2) (Z8.out.2.2.2.later EB.out) hY).mono ?_
    rintro r wC ⟨rfl, b9⟩
    have RC : Hid (KBlk wC w11.heap.size N (.slice ax1 X.length cx1) ∧ KMb wC (w11.heap.size + 1) M C S F (.slice ax2 Y.length cx2) ∧ OwnS wC e1 (.slice ax1 X.length cx1) X ∧ OwnS wC e2 (.slice ax2 Y.length cx2) Y) := ⟨RB.out.1.later b9, RB.out.2.1.later b9, RB.out.2.2.1.later b9, RB.out.2.2.2.later b9⟩
    have DC : Hid (SRow wC (some ⟨g11, 0, none⟩) xs ∧ WB wC g11 (xs.length * 7) ∧ SRow wC (some ⟨g12, 0, none⟩) ys ∧ WB wC g12 (ys.length * 7) ∧ KBlk wC w9.heap.size n (.slice (some ⟨g11, 0, none⟩) xs.length xs.length) ∧ KMb wC w10.heap.size m cl sv nc (.slice (some ⟨g12, 0, none⟩) ys.length ys.length)) := ⟨DB.out.1.later b9, DB.out.2.1.same (b9.block _ DB.out.2.1.lt), DB.out.2.2.1.later b9, DB.out.2.2.2.1.same (b9.block _ DB.out.2.2.2.1.lt), DB.out.2.2.2.2.1.later b9, DB.out.2.2.2.2.2.later b9⟩
    have EC : Hid (Below w8.heap.size w8 wC) := EB.out.trans (b9.mono EB.out.size)
    clear b9 RB DB EB
    go_wp2_with fail
    refine wp_region_held_drew (S := fun w' => Below wC.heap.size wC w') (by kernel_rfl) (Below.refl _ _).drew (fun hS => ?_)
    generalize wC.drew = UC at hS ⊢
    refine take1 0 69 (Value.agg #[.int .i64 n, .slice (some ⟨g11, 0, none⟩) xs.length xs.length]) rfl rfl (by kernel_rfl) (by kernel_rfl) (by kernel_rfl) (by rfl) (fun _ _ _ h => h) hS (fun w' hS' => ?_) ?_
    · obtain ⟨x0, x1⟩ := (DC.out.2.2.2.2.1.later hS').cells
      (go_simp) <;> (intro hx9; omega)
    simp only [Act.put, List.setIfInBounds_toArray, List.set_cons_zero, List.set_cons_succ]
    refine take1 1 70 (Value.agg #[.int .i64 n, .slice a xs.length cap]) rfl rfl (by kernel_rfl) (by kernel_rfl) (by kernel_rfl) (by rfl) (fun _ _ _ h => h) hS (fun w' hS' => ?_) ?_
    · obtain ⟨x0, x1⟩ := ((IN8.out.later EC.out).later hS').cells
      (go_simp) <;> (intro hx9; omega)
    simp only [Act.put, List.setIfInBounds_toArray, List.set_cons_zero, List.set_cons_succ]
    refine wpAnyH_ready (rs := [2]) (by kernel_rfl) (by simp) ?_
    refine AllReadyH.cons rfl (fun K hK => ?_) AllReadyH.nil
    go_simp
    refine (toKdc_any n a cap xs _ (JA.out.later ((IN8.out.later EC.out).later hS).below) (by omega)).mono ?_
    rintro r wC1 ⟨g6, rfl, hg6, r6, _, b6⟩
    have S6 : Below wC.heap.size wC wC1 := hS.trans (b6.mono hS.size)
    have R6 : Hid (SRow wC1 (some ⟨g6, 0, none⟩) xs) := r6
    clear r6 hg6
    refine hK.out _ _ S6 (fun hS => ?_)
    clear hK K b6 S6
    refine wpAnyH_ready (rs := [3]) (by kernel_rfl) (by simp) ?_
    refine AllReadyH.cons rfl (fun K hK => ?_) AllReadyH.nil
    go_simp
    refine (eqKdc_same n _ _ _ _ xs _ (DC.out.1.later hS) R6.out (by omega)).mono ?_
    rintro r wD ⟨rfl, b7⟩
    have b9 : Below wC.heap.size wC wD := hS.trans (b7.mono hS.size)
    refine hK.out _ _ b9 (fun hS => ?_)
    clear hK K b7
    refine take1 4 73 (.bool false) rfl rfl (by kernel_rfl) (by kernel_rfl) (by kernel_rfl) (by rfl) (fun _ _ _ h => h) hS (fun w' hS' => ?_) ?_
    · (go_simp) <;> (intro hx9; omega)
    simp only [Act.put, List.setIfInBounds_toArray, List.set_cons_zero, List.set_cons_succ]
    refine wpAnyH_done (by kernel_rfl) ?_ _
    clear hS R6
    have RD : Hid (KBlk wD w11.heap.size N (.slice ax1 X.length cx1) ∧ KMb wD (w11.heap.size + 1) M C S F (.slice ax2 Y.length cx2) ∧ OwnS wD e1 (.slice ax1 X.length cx1) X ∧ OwnS wD e2 (.slice ax2 Y.length cx2) Y) := ⟨RC.out.1.later b9, RC.out.2.1.later b9, RC.out.2.2.1.later b9, RC.out.2.2.2.later b9⟩
    have DD : Hid (SRow wD (some ⟨g11, 0, none⟩) xs ∧ WB wD g11 (xs.length * 7) ∧ SRow wD (some ⟨g12, 0, none⟩) ys ∧ WB wD g12 (ys.length * 7) ∧ KBlk wD w9.heap.size n (.slice (some ⟨g11, 0, none⟩) xs.length xs.length) ∧ KMb wD w10.heap.size m cl sv nc (.slice (some ⟨g12, 0, none⟩) ys.length ys.length)) := ⟨DC.out.1.later b9, DC.out.2.1.same (b9.block _ DC.out.2.1.lt), DC.out.2.2.1.later b9, DC.out.2.2.2.1.same (b9.block _ DC.out.2.2.2.1.lt), DC.out.2.2.2.2.1.later b9, DC.out.2.2.2.2.2.later b9⟩
    have ED : Hid (Below w8.heap.size w8 wD) := EC.out.trans (b9.mono EC.out.size)
    clear b9 RC DC EC
    go_wp2_with fail
    refine wp_region_held_drew (S := fun w' => Below wD.heap.size wD w') (by kernel_rfl) (Below.refl _ _).drew (fun hS => ?_)
    generalize wD.drew = UD at hS ⊢
    refine take1 0 74 (Value.agg #[.int .i64 m, .int .i64 cl, .int .i64 sv, .int .i64 nc, .slice (some ⟨g12, 0, none⟩) ys.length ys.length]) rfl rfl (by kernel_rfl) (by kernel_rfl) (by kernel_rfl) (by rfl) (fun _ _ _ h => h) hS (fun w' hS' => ?_) ?_
    · obtain ⟨x0, x1, x2, x3, x4⟩ := (DD.out.2.2.2.2.2.later hS').cells
      (go_simp) <;> (intro hx9; omega)
    simp only [Act.put, List.setIfInBounds_toArray, List.set_cons_zero, List.set_cons_succ]
    refine take1 1 75 (Value.agg #[.int .i64 m, .int .i64 cl, .int .i64 sv, .int .i64 nc, .slice b ys.length cb]) rfl rfl (by kernel_rfl) (by kernel_rfl) (by kernel_rfl) (by rfl) (fun _ _ _ h => h) hS (fun w' hS' => ?_) ?_
    · obtain ⟨x0, x1, x2, x3, x4⟩ := ((IN8.out.later ED.out).later hS').cellm
      (go_simp) <;> (intro hx9; omega)
    simp only [Act.put, List.setIfInBounds_toArray, List.set_cons_zero, List.set_cons_succ]
    refine wpAnyH_ready (rs := [2]) (by kernel_rfl) (by simp) ?_
    refine AllReadyH.cons rfl (fun K hK => ?_) AllReadyH.nil
    go_simp
    refine (toMsg_wb m cl sv nc b cb ys _ (JB.out.later ((IN8.out.later ED.out).later hS).below) (by omega)).mono ?_
    rintro r wD1 ⟨g6, rfl, hg6, r6, _, b6⟩
    have S6 : Below wD.heap.size wD wD1 := hS.trans (b6.mono hS.size)
    have R6 : Hid (SRow wD1 (some ⟨g6, 0, none⟩) ys) := r6
    clear r6 hg6
    refine hK.out _ _ S6 (fun hS => ?_)
    clear hK K b6 S6
    refine wpAnyH_ready (rs := [3]) (by kernel_rfl) (by simp) ?_
    refine AllReadyH.cons rfl (fun K hK => ?_) AllReadyH.nil
    go_simp
    refine (eqMsg_same m cl sv nc _ _ _ _ ys _ (DD.out.2.2.1.later hS) R6.out (by omega)).mono ?_
    rintro r wE ⟨rfl, b7⟩
    have b9 : Below wD.heap.size wD wE := hS.trans (b7.mono hS.size)
    refine hK.out _ _ b9 (fun hS => ?_)
    clear hK K b7
    refine take1 4 78 (.bool false) rfl rfl (by kernel_rfl) (by kernel_rfl) (by kernel_rfl) (by rfl) (fun _ _ _ h => h) hS (fun w' hS' => ?_) ?_
    · (go_simp) <;> (intro hx9; omega)
    simp only [Act.put, List.setIfInBounds_toArray, List.set_cons_zero, List.set_cons_succ]
    refine wpAnyH_done (by kernel_rfl) ?_ _
    clear hS R6
    have RE : Hid (KBlk wE w11.heap.size N (.slice ax1 X.length cx1) ∧ KMb wE (w11.heap.size + 1) M C S F (.slice ax2 Y.length cx2) ∧ OwnS wE e1 (.slice ax1 X.length cx1) X ∧ OwnS wE e2 (.slice ax2 Y.length cx2) Y) := ⟨RD.out.1.later b9, RD.out.2.1.later b9, RD.out.2.2.1.later b9, RD.out.2.2.2.later b9⟩
    have DE : Hid (SRow wE (some ⟨g11, 0, none⟩) xs ∧ WB wE g11 (xs.length * 7) ∧ SRow wE (some ⟨g12, 0, none⟩) ys ∧ WB wE g12 (ys.length * 7) ∧ KBlk wE w9.heap.size n (.slice (some ⟨g11, 0, none⟩) xs.length xs.length) ∧ KMb wE w10.heap.size m cl sv nc (.slice (some ⟨g12, 0, none⟩) ys.length ys.length)) := ⟨DD.out.1.later b9, DD.out.2.1.same (b9.block _ DD.out.2.1.lt), DD.out.2.2.1.later b9, DD.out.2.2.2.1.same (b9.block _ DD.out.2.2.2.1.lt), DD.out.2.2.2.2.1.later b9, DD.out.2.2.2.2.2.later b9⟩
    have EE : Hid (Below w8.heap.size w8 wE) := ED.out.trans (b9.mono ED.out.size)
    clear b9 RD DD ED
    obtain ⟨x0, x1⟩ := DE.out.2.2.2.2.1.cells
    go_wp2_with fail
    clear x0 x1
    refine (markKdc_row n g11 xs.length xs.length 1 _ DE.out.2.1 (by omega) (by omega) (by omega)).mono ?_
    rintro r wF ⟨rfl, g9⟩
    have LF : w11.heap.size + 1 < wE.heap.size := RE.out.2.1.lt
    have RF : Hid (KBlk wF w11.heap.size N (.slice ax1 X.length cx1) ∧ KMb wF (w11.heap.size + 1) M C S F (.slice ax2 Y.length cx2) ∧ OwnS wF e1 (.slice ax1 X.length cx1) X ∧ OwnS wF e2 (.slice ax2 Y.length cx2) Y) := ⟨RE.out.1.grown g9 (fun e => by injection e with e; omega), RE.out.2.1.grown g9 (fun e => by injection e with e; omega), RE.out.2.2.1.gr g9 (fun k hk => by have := RE.out.2.2.1.lo k hk; omega), RE.out.2.2.2.gr g9 (fun k hk => by have := RE.out.2.2.2.lo k hk; omega)⟩
    have DF : Hid (WB wF g12 (ys.length * 7) ∧ KMb wF w10.heap.size m cl sv nc (.slice (some ⟨g12, 0, none⟩) ys.length ys.length)) := ⟨DE.out.2.2.2.1.same (g9.block _ DE.out.2.2.2.1.lt (fun e => by injection e with e; omega)), DE.out.2.2.2.2.2.grown g9 (fun e => by injection e with e; omega)⟩
    have EF : Hid (Below w8.heap.size w8 wF) := EE.out.grown g9 EE.out.size (fun k e => by injection e with e; omega)
    clear RE DE EE g9
    obtain ⟨x0, x1, x2, x3, x4⟩ := DF.out.2.cells
    go_wp2_with fail
    clear x0 x1 x2 x3 x4
    refine (markMsg_row m cl sv nc g12 ys.length ys.length (1 + 7 * (xs.length : Int)) _ DF.out.1 (by omega) (by omega) (by omega)).mono ?_
    rintro r wG ⟨rfl, g9⟩
    have RG : Hid (KBlk wG w11.heap.size N (.slice ax1 X.length cx1) ∧ KMb wG (w11.heap.size + 1) M C S F (.slice ax2 Y.length cx2) ∧ OwnS wG e1 (.slice ax1 X.length cx1) X ∧ OwnS wG e2 (.slice ax2 Y.length cx2) Y) := ⟨RF.out.1.grown g9 (fun e => by injection e with e; omega), RF.out.2.1.grown g9 (fun e => by injection e with e; omega), RF.out.2.2.1.gr g9 (fun k hk => by have := RF.out.2.2.1.lo k hk; omega), RF.out.2.2.2.gr g9 (fun k hk => by have := RF.out.2.2.2.lo k hk; omega)⟩
    have EG : Hid (Below w8.heap.size w8 wG) := EF.out.grown g9 EF.out.size (fun k e => by injection e with e; omega)
    clear RF DF EF g9 LF
    have hm0 : ¬ (1 + 7 * (xs.length : Int) + 7 * (ys.length : Int)) < 0 := by omega
    obtain ⟨z0, z1⟩ := (Z8.out.1.later EG.out).cells
    obtain ⟨y0, y1, y2, y3, y4⟩ := (Z8.out.2.1.later EG.out).cells
    obtain ⟨x0, x1⟩ := RG.out.1.cells
    obtain ⟨t0, t1, t2, t3, t4⟩ := RG.out.2.1.cells
    go_wp2_with fail
    clear z0 z1 y0 y1 y2 y3 y4
    clear x0 x1 t0 t1 t2 t3 t4
    refine (eqKdc_same N ax1 az1 cx1 cz1 X _ (OwnS.rowAt RG.out.2.2.1) (Z8.out.2.2.1.later EG.out) hX).mono ?_
    rintro r wH ⟨rfl, b9⟩
    have RH : Hid (KBlk wH w11.heap.size N (.slice ax1 X.length cx1) ∧ KMb wH (w11.heap.size + 1) M C S F (.slice ax2 Y.length cx2) ∧ OwnS wH e1 (.slice ax1 X.length cx1) X ∧ OwnS wH e2 (.slice ax2 Y.length cx2) Y) := ⟨RG.out.1.later b9, RG.out.2.1.later b9, RG.out.2.2.1.later b9, RG.out.2.2.2.later b9⟩
    have EH : Hid (Below w8.heap.size w8 wH) := EG.out.trans (b9.mono EG.out.size)
    clear b9 RG EG
    obtain ⟨z0, z1⟩ := (Z8.out.1.later EH.out).cells
    obtain ⟨y0, y1, y2, y3, y4⟩ := (Z8.out.2.1.later EH.out).cells
    obtain ⟨x0, x1⟩ := RH.out.1.cells
    obtain ⟨t0, t1, t2, t3, t4⟩ := RH.out.2.1.cells
    go_wp2_with fail
    clear z0 z1 y0 y1 y2 y3 y4
    clear x0 x1 t0 t1 t2 t3 t4
    refine (eqMsg_same M C S F ax2 az2 cx2 cz2 Y _ (OwnS.rowAt RH.out.2.2.2) (Z8.out.2.2.2.later EH.out) hY).mono ?_
    rintro r wI ⟨rfl, b9⟩
    have RI : Hid (KBlk wI w11.heap.size N (.slice ax1 X.length cx1) ∧ KMb wI (w11.heap.size + 1) M C S F (.slice ax2 Y.length cx2) ∧ OwnS wI e1 (.slice ax1 X.length cx1) X ∧ OwnS wI e2 (.slice ax2 Y.length cx2) Y) := ⟨RH.out.1.later b9, RH.out.2.1.later b9, RH.out.2.2.1.later b9, RH.out.2.2.2.later b9⟩
    have EI : Hid (Below w8.heap.size w8 wI) := EH.out.trans (b9.mono EH.out.size)
    clear b9 RH EH
    obtain ⟨x0, x1⟩ := RI.out.1.cells
    obtain ⟨t0, t1, t2, t3, t4⟩ := RI.out.2.1.cells
    go_wp2_with fail
    clear x0 x1 t0 t1 t2 t3 t4
    clear hm0
    refine (markKdc_own2 N 1 RI.out.2.2.1 hX (by omega) (by omega)).mono ?_
    rintro r wJ ⟨rfl, g9, m9⟩
    have HE : Hid (∀ k k', (Value.slice ax1 X.length cx1).ownBlock = some k → (Value.slice ax2 Y.length cx2).ownBlock = some k' → k ≠ k') := fun k k' h1 h2 => by have := HO.out k h1; have := RI.out.2.2.2.lo k' h2; omega
    have QJ : Hid (KBlk wJ w11.heap.size N (.slice ax1 X.length cx1) ∧ KMb wJ (w11.heap.size + 1) M C S F (.slice ax2 Y.length cx2) ∧ OwnS wJ e2 (.slice ax2 Y.length cx2) Y ∧ Mk7 wJ (.slice ax1 X.length cx1) X.length 1) := ⟨RI.out.1.grown g9 (fun e => RI.out.2.2.1.offK RI.out.1 _ e.symm rfl), RI.out.2.1.grown g9 (fun e => RI.out.2.2.1.offM RI.out.2.1 _ e.symm rfl), own_keep RI.out.2.2.2 (fun k hk => g9.block k (World.ownsRow.lt RI.out.2.2.2 k hk).2 (fun e => HE.out k k e.symm hk rfl)), m9⟩
    have EJ : Hid (Below w8.heap.size w8 wJ) := EI.out.grown g9 EI.out.size (fun k e => by have := RI.out.2.2.1.lo k e; omega)
    clear RI EI g9 m9
    obtain ⟨t0, t1, t2, t3, t4⟩ := QJ.out.2.1.cells
    go_wp2_with fail
    clear t0 t1 t2 t3 t4
    refine (markMsg_own2 M C S F (1 + 7 * (X.length : Int)) QJ.out.2.2.1 hY (by omega) (by omega)).mono ?_
    rintro r wK ⟨rfl, g9, m9⟩
    have QK : Hid (KBlk wK w11.heap.size N (.slice ax1 X.length cx1) ∧ KMb wK (w11.heap.size + 1) M C S F (.slice ax2 Y.length cx2) ∧ Mk7 wK (.slice ax1 X.length cx1) X.length 1 ∧ Mk7 wK (.slice ax2 Y.length cx2) Y.length (1 + 7 * (X.length : Int))) := ⟨QJ.out.1.grown g9 (fun e => QJ.out.2.2.1.offK QJ.out.1 _ e.symm rfl), QJ.out.2.1.grown g9 (fun e => QJ.out.2.2.1.offM QJ.out.2.1 _ e.symm rfl), QJ.out.2.2.2.grown g9 (fun k hk e => HE.out k k hk e.symm rfl), m9⟩
    have EK : Hid (Below w8.heap.size w8 wK) := EJ.out.grown g9 EJ.out.size (fun k e => by have := QJ.out.2.2.1.lo k e; omega)
    clear QJ EJ g9 m9 HE HO
    have hq1 : ¬ (1 + 7 * (X.length : Int)) < 0 := by omega
    have hq2 : ¬ (1 + 7 * (X.length : Int) + 7 * (Y.length : Int)) < 0 := by omega
    obtain ⟨x0, x1⟩ := QK.out.1.cells
    obtain ⟨t0, t1, t2, t3, t4⟩ := QK.out.2.1.cells
    go_wp2_with fail
    clear x0 x1 t0 t1 t2 t3 t4
    refine (heldKdc_own N 1 QK.out.2.2.1 hX (by omega) (by omega)).mono ?_
    rintro r wL ⟨rfl, b9⟩
    have QL : Hid (KBlk wL w11.heap.size N (.slice ax1 X.length cx1) ∧ KMb wL (w11.heap.size + 1) M C S F (.slice ax2 Y.length cx2) ∧ Mk7 wL (.slice ax1 X.length cx1) X.length 1 ∧ Mk7 wL (.slice ax2 Y.length cx2) Y.length (1 + 7 * (X.length : Int))) := ⟨QK.out.1.later b9, QK.out.2.1.later b9, QK.out.2.2.1.later b9, QK.out.2.2.2.later b9⟩
    have EL : Hid (Below w8.heap.size w8 wL) := EK.out.trans (b9.mono EK.out.size)
    clear b9 QK EK
    obtain ⟨x0, x1⟩ := QL.out.1.cells
    obtain ⟨t0, t1, t2, t3, t4⟩ := QL.out.2.1.cells
    go_wp2_with fail
    clear x0 x1 t0 t1 t2 t3 t4
    refine (heldMsg_own M C S F (1 + 7 * (X.length : Int)) QL.out.2.2.2 hY (by omega) (by omega)).mono ?_
    rintro r w33 ⟨rfl, b9⟩
    have Q33 : Hid (KBlk w33 w11.heap.size N (.slice ax1 X.length cx1) ∧ KMb w33 (w11.heap.size + 1) M C S F (.slice ax2 Y.length cx2) ∧ Mk7 w33 (.slice ax1 X.length cx1) X.length 1 ∧ Mk7 w33 (.slice ax2 Y.length cx2) Y.length (1 + 7 * (X.length : Int))) := ⟨QL.out.1.later b9, QL.out.2.1.later b9, QL.out.2.2.1.later b9, QL.out.2.2.2.later b9⟩
    have E33 : Hid (Below w8.heap.size w8 w33) := EL.out.trans (b9.mono EL.out.size)
    clear b9 QL EL
    have IN33 : Hid (In w n (.slice a xs.length cap) m cl sv nc (.slice b ys.length cb) w33) := IN8.out.later E33.out
    go_upto_region 35 with fail
    go_cut [19, 20, 21] (fun v8 v9 v10 wc => ∃ (pk pm : Nat) (ax3 ax4 : Option Addr) (cx3 cx4 : Nat), v8 = .pointer (some ⟨pk, 0, none⟩) ∧ v9 = .pointer (some ⟨pm, 0, none⟩) ∧ v10 = .bool T ∧ Hid (KBlk wc pk N (.slice ax3 X.length cx3) ∧ KMb wc pm M C S F (.slice ax4 Y.length cx4) ∧ SRow wc ax3 X ∧ SRow wc ax4 Y ∧ Below w33.heap.size w33 wc))
    case first =>
      clear IN8 Z8 Q33 E33
      refine wp_region_inv [124, 125, 126, 127, 128, 129, 123, 130, 131, 132, 19, 20, 21] (RgK w33 n a cap xs m cl sv nc b cb ys now N M C S F X Y T 124 125 126 127 128 129 123 130 131 132 19 20 21) [0, 1, 2, 3, 4, 5, 6, 7, 8, 9, 10, 11, 12, 13, 14] (by kernel_rfl) (by kernel_rfl) (by kernel_rfl) ?_ ?_ ?_
      · intro s
        exact ⟨(Below.refl _ _).drew, fun e => (by cases e), fun _ e => (by cases e), fun e => (by cases e), fun _ e => (by cases e), fun e => (by cases e), fun _ e => (by cases e), fun e => (by cases e), fun e => (by cases e), fun e => (by cases e), fun e => (by cases e), fun e => (by cases e), fun e => (by cases e), fun e => (by cases e)⟩
      · refine StepsI.cons (i := 0) [] rfl (by kernel_rfl) ?_ (StepsI.cons (i := 1) [0] rfl (by kernel_rfl) ?_ (StepsI.cons (i := 2) [] rfl (by kernel_rfl) ?_ (StepsI.cons (i := 3) [1, 2] rfl (by kernel_rfl) ?_ (StepsI.cons (i := 4) [] rfl (by kernel_rfl) ?_ (StepsI.cons (i := 5) [1, 3, 4] rfl (by kernel_rfl) ?_ (StepsI.cons (i := 6) [5] rfl (by kernel_rfl) ?_ (StepsI.cons (i := 7) [6] rfl (by kernel_rfl) ?_ (StepsI.cons (i := 8) [6] rfl (by kernel_rfl) ?_ (StepsI.cons (i := 9) [6] rfl (by kernel_rfl) ?_ (StepsI.cons (i := 10) [] rfl (by kernel_rfl) ?_ (StepsI.cons (i := 11) [] rfl (by kernel_rfl) ?_ (StepsI.cons (i := 12) [0, 1, 2, 3, 4, 5, 6, 7, 10, 11] rfl (by kernel_rfl) ?_ (StepsI.cons (i := 13) [0, 1, 2, 3, 4, 5, 6, 7, 8, 10, 11, 12] rfl (by kernel_rfl) ?_ (StepsI.cons (i := 14) [0, 1, 2, 3, 4, 5, 6, 7, 8, 9, 10, 11, 12, 13] rfl (by kernel_rfl) ?_ (StepsI.nil)))))))))))))))
        · intro d s w' hd hA hC hF K hK
          have hB9 := hF.bel
          simp only [putL, putT, List.setIfInBounds_toArray, List.set_cons_zero, List.set_cons_succ]
          clear hB9
          as_aux_lemma =>
            obtain ⟨p0, p1⟩ := (IN33.out.later hF.bel).cells
            (go_simp) <;> (try (intro hx9; omega))
            clear p0 p1
            exact hK.out (updS s 124 (Value.agg #[.int .i64 n, .slice a xs.length cap])) _ _ (by (simp only [putL, putT, List.setIfInBounds_toArray, List.set_cons_zero, List.set_cons_succ]); rfl) ⟨hF.bel, fun _ => rfl, hF.f1, hF.f2, hF.f3, hF.f4, hF.f5, hF.f6, hF.f7, hF.f8, hF.f9, hF.f10, hF.f11, hF.f14⟩
        · intro d s w' hd hA hC hF K hK
          have hB9 := hF.bel
          simp only [putL, putT, List.setIfInBounds_toArray, List.set_cons_zero, List.set_cons_succ]
          clear hB9
          as_aux_lemma =>
            have e0 := hF.f0 hA.1
            rw [e0]
            go_simp
            refine (toKdc_any n a cap xs _ (JA.out.later (IN33.out.later hF.bel).below) (by omega)).mono ?_
            rintro r w2 ⟨g1, rfl, _, r9, _, b9⟩
            go_simp
            have hF2 := hF.later b9
            refine hK.out (updS s 125 (Value.agg #[.int .i64 n, .slice (some ⟨g1, 0, none⟩) xs.length xs.length])) _ _ ?_ ⟨hF2.bel, hF2.f0, fun _ _ => ⟨g1, rfl, r9⟩, hF2.f2, hF2.f3, hF2.f4, hF2.f5, hF2.f6, hF2.f7, hF2.f8, hF2.f9, hF2.f10, hF2.f11, hF2.f14⟩
            (simp only [putL, putT, List.setIfInBounds_toArray, List.set_cons_zero, List.set_cons_succ]); rw [← e0]; (try rfl)
        · intro d s w' hd hA hC hF K hK
          have hB9 := hF.bel
          simp only [putL, putT, List.setIfInBounds_toArray, List.set_cons_zero, List.set_cons_succ]
          clear hB9
          as_aux_lemma =>
            obtain ⟨p0, p1, p2, p3, p4⟩ := (IN33.out.later hF.bel).cellm
            (go_simp) <;> (try (intro hx9; omega))
            clear p0 p1 p2 p3 p4
            exact hK.out (updS s 126 (Value.agg #[.int .i64 m, .int .i64 cl, .int .i64 sv, .int .i64 nc, .slice b ys.length cb])) _ _ (by (simp only [putL, putT, List.setIfInBounds_toArray, List.set_cons_zero, List.set_cons_succ]); rfl) ⟨hF.bel, hF.f0, hF.f1, fun _ => rfl, hF.f3, hF.f4, hF.f5, hF.f6, hF.f7, hF.f8, hF.f9, hF.f10, hF.f11, hF.f14⟩
        · intro d s w' hd hA hC hF K hK
          have hB9 := hF.bel
          simp only [putL, putT, List.setIfInBounds_toArray, List.set_cons_zero, List.set_cons_succ]
          clear hB9
          as_aux_lemma =>
            have e0 := hF.f2 hA.2.1
            rw [e0]
            go_simp
            refine (toMsg_wb m cl sv nc b cb ys _ (JB.out.later (IN33.out.later hF.bel).below) (by omega)).mono ?_
            rintro r w2 ⟨g1, rfl, _, r9, _, b9⟩
            go_simp
            have hF2 := hF.later b9
            refine hK.out (updS s 127 (Value.agg #[.int .i64 m, .int .i64 cl, .int .i64 sv, .int .i64 nc, .slice (some ⟨g1, 0, none⟩) ys.length ys.length])) _ _ ?_ ⟨hF2.bel, hF2.f0, hF2.f1, hF2.f2, fun _ _ => ⟨g1, rfl, r9⟩, hF2.f4, hF2.f5, hF2.f6, hF2.f7, hF2.f8, hF2.f9, hF2.f10, hF2.f11, hF2.f14⟩
            (simp only [putL, putT, List.setIfInBounds_toArray, List.set_cons_zero, List.set_cons_succ]); rw [← e0]; (try rfl)
        · intro d s w' hd hA hC hF K hK
          have hB9 := hF.bel
          simp only [putL, putT, List.setIfInBounds_toArray, List.set_cons_zero, List.set_cons_succ]
          clear hB9
          as_aux_lemma =>
            go_simp
            exact hK.out (updS s 128 (.int .i64 now)) _ _ (by (simp only [putL, putT, List.setIfInBounds_toArray, List.set_cons_zero, List.set_cons_succ]); rfl) ⟨hF.bel, hF.f0, hF.f1, hF.f2, hF.f3, fun _ => rfl, hF.f5, hF.f6, hF.f7, hF.f8, hF.f9, hF.f10, hF.f11, hF.f14⟩
        · intro d s w' hd hA hC hF K hK
          have hB9 := hF.bel
          simp only [putL, putT, List.setIfInBounds_toArray, List.set_cons_zero, List.set_cons_succ]
          clear hB9
          as_aux_lemma =>
            obtain ⟨g1, e1, r1⟩ := hF.f1 (hC.off 12 5 (by kernel_rfl) hd) hA.1
            obtain ⟨g2, e2, r2⟩ := hF.f3 (hC.off 12 5 (by kernel_rfl) hd) hA.2.1
            have e3 := hF.f4 hA.2.2.1
            have R1 : Hid (SRow w' (some ⟨g1, 0, none⟩) xs) := r1
            have R2 : Hid (SRow w' (some ⟨g2, 0, none⟩) ys) := r2
            clear r1 r2
            rw [e1, e2, e3]
            go_simp
            refine (HI.out g1 g2 _ R1.out R2.out (JF.out.later (IN33.out.later hF.bel).below)).mono ?_
            rintro r w2 ⟨a1, c1, a2, c2, B1, B2, rfl, o1, o2, _, _, b9⟩
            go_simp
            have hF2 := hF.later b9
            refine hK.out (updS s 129 (Value.tuple #[.agg #[.int .i64 N, .slice a1 X.length c1], .agg #[.int .i64 M, .int .i64 C, .int .i64 S, .int .i64 F, .slice a2 Y.length c2], .bool T])) _ _ ?_ ⟨hF2.bel, hF2.f0, hF2.f1, hF2.f2, hF2.f3, hF2.f4, fun _ _ => ⟨a1, c1, a2, c2, B1, B2, rfl, o1, o2⟩, hF2.f6, hF2.f7, hF2.f8, hF2.f9, hF2.f10, hF2.f11, hF2.f14⟩
            (simp only [putL, putT, List.setIfInBounds_toArray, List.set_cons_zero, List.set_cons_succ]); rw [← e1, ← e2, ← e3]; (try rfl)
        · intro d s w' hd hA hC hF K hK
          have hB9 := hF.bel
          simp only [putL, putT, List.setIfInBounds_toArray, List.set_cons_zero, List.set_cons_succ]
          clear hB9
          as_aux_lemma =>
            obtain ⟨a1, c1, a2, c2, B1, B2, e0, o1, o2⟩ := hF.f5 (hC.off 12 6 (by kernel_rfl) hd) hA.1
            have O1 : Hid (OwnS w' B1 (.slice a1 X.length c1) X ∧ OwnS w' B2 (.slice a2 Y.length c2) Y) := ⟨o1, o2⟩
            clear o1 o2
            rw [e0]
            go_simp
            refine hK.out (updS s 123 (Value.tuple #[.agg #[.int .i64 N, .slice a1 X.length c1], .agg #[.int .i64 M, .int .i64 C, .int .i64 S, .int .i64 F, .slice a2 Y.length c2], .bool T])) _ _ ?_ ⟨hF.bel, hF.f0, hF.f1, hF.f2, hF.f3, hF.f4, hF.f5, fun _ => ⟨a1, c1, a2, c2, B1, B2, rfl, O1.out.1, O1.out.2⟩, hF.f7, hF.f8, hF.f9, hF.f10, hF.f11, hF.f14⟩
            (simp only [putL, putT, List.setIfInBounds_toArray, List.set_cons_zero, List.set_cons_succ]); rw [← e0]; (try rfl)
        · intro d s w' hd hA hC hF K hK
          have hB9 := hF.bel
          simp only [putL, putT, List.setIfInBounds_toArray, List.set_cons_zero, List.set_cons_succ]
          clear hB9
          as_aux_lemma =>
            obtain ⟨a1, c1, a2, c2, B1, B2, e0, o1, o2⟩ := hF.f6 hA.1
            have O1 : Hid (OwnS w' B1 (.slice a1 X.length c1) X ∧ OwnS w' B2 (.slice a2 Y.length c2) Y) := ⟨o1, o2⟩
            clear o1 o2
            rw [e0]
            go_simp
            refine hK.out (updS s 130 (Value.agg #[.int .i64 N, .slice a1 X.length c1])) _ _ ?_ ⟨hF.bel, hF.f0, hF.f1, hF.f2, hF.f3, hF.f4, hF.f5, hF.f6, fun _ => ⟨a1, c1, B1, rfl, O1.out.1⟩, hF.f8, hF.f9, hF.f10, hF.f11, hF.f14⟩
            (simp only [putL, putT, List.setIfInBounds_toArray, List.set_cons_zero, List.set_cons_succ]); rw [← e0]; (try rfl)
        · intro d s w' hd hA hC hF K hK
          have hB9 := hF.bel
          simp only [putL, putT, List.setIfInBounds_toArray, List.set_cons_zero, List.set_cons_succ]
          clear hB9
          as_aux_lemma =>
            obtain ⟨a1, c1, a2, c2, B1, B2, e0, o1, o2⟩ := hF.f6 hA.1
            have O1 : Hid (OwnS w' B1 (.slice a1 X.length c1) X ∧ OwnS w' B2 (.slice a2 Y.length c2) Y) := ⟨o1, o2⟩
            clear o1 o2
            rw [e0]
            go_simp
            refine hK.out (updS s 131 (Value.agg #[.int .i64 M, .int .i64 C, .int .i64 S, .int .i64 F, .slice a2 Y.length c2])) _ _ ?_ ⟨hF.bel, hF.f0, hF.f1, hF.f2, hF.f3, hF.f4, hF.f5, hF.f6, hF.f7, fun _ => ⟨a2, c2, B2, rfl, O1.out.2⟩, hF.f9, hF.f10, hF.f11, hF.f14⟩
            (simp only [putL, putT, List.setIfInBounds_toArray, List.set_cons_zero, List.set_cons_succ]); rw [← e0]; (try rfl)
        · intro d s w' hd hA hC hF K hK
          have hB9 := hF.bel
          simp only [putL, putT, List.setIfInBounds_toArray, List.set_cons_zero, List.set_cons_succ]
          clear hB9
          as_aux_lemma =>
            obtain ⟨a1, c1, a2, c2, B1, B2, e0, o1, o2⟩ := hF.f6 hA.1
            have O1 : Hid (OwnS w' B1 (.slice a1 X.length c1) X ∧ OwnS w' B2 (.slice a2 Y.length c2) Y) := ⟨o1, o2⟩
            clear o1 o2
            rw [e0]
            go_simp
            refine hK.out (updS s 132 (Value.bool T)) _ _ ?_ ⟨hF.bel, hF.f0, hF.f1, hF.f2, hF.f3, hF.f4, hF.f5, hF.f6, hF.f7, hF.f8, fun _ => rfl, hF.f10, hF.f11, hF.f14⟩
            (simp only [putL, putT, List.setIfInBounds_toArray, List.set_cons_zero, List.set_cons_succ]); rw [← e0]; (try rfl)
        · intro d s w' hd hA hC hF K hK
          have hB9 := hF.bel
          simp only [putL, putT, List.setIfInBounds_toArray, List.set_cons_zero, List.set_cons_succ]
          clear hB9
          as_aux_lemma =>
            go_simp
            have b9 : Below w'.heap.size w' (w'.alloc (.cells #[.int .i64 0, .slice none 0 0] 31)) := Below.alloc_ _ _
            have hF2 := hF.later b9
            have off := hC.off 12 10 (by kernel_rfl) hd
            exact hK.out (updS s 19 (.pointer (some ⟨w'.heap.size, 0, none⟩))) _ _ (by (simp only [putL, putT, List.setIfInBounds_toArray, List.set_cons_zero, List.set_cons_succ]); rfl) ⟨hF2.bel, hF2.f0, hF2.f1, hF2.f2, hF2.f3, hF2.f4, hF2.f5, hF2.f6, hF2.f7, hF2.f8, hF2.f9, fun _ => ⟨_, 0, .slice none 0 0, rfl, hF.bel.size, KBlk.new _ _ _, fun e => (by rw [show upd d 10 12 = d 12 from rfl, off] at e; cases e)⟩, hF2.f11, hF2.f14⟩
        · intro d s w' hd hA hC hF K hK
          have hB9 := hF.bel
          simp only [putL, putT, List.setIfInBounds_toArray, List.set_cons_zero, List.set_cons_succ]
          clear hB9
          as_aux_lemma =>
            go_simp
            have b9 : Below w'.heap.size w' (w'.alloc (.cells #[.int .i64 0, .int .i64 0, .int .i64 0, .int .i64 0, .slice none 0 0] 33)) := Below.alloc_ _ _
            have hF2 := hF.later b9
            have off := hC.off 13 11 (by kernel_rfl) hd
            exact hK.out (updS s 20 (.pointer (some ⟨w'.heap.size, 0, none⟩))) _ _ (by (simp only [putL, putT, List.setIfInBounds_toArray, List.set_cons_zero, List.set_cons_succ]); rfl) ⟨hF2.bel, hF2.f0, hF2.f1, hF2.f2, hF2.f3, hF2.f4, hF2.f5, hF2.f6, hF2.f7, hF2.f8, hF2.f9, hF2.f10, fun _ => ⟨_, 0, 0, 0, 0, .slice none 0 0, rfl, hF.bel.size, KMb.new _ _ _ _ _ _, fun e => (by rw [show upd d 11 13 = d 13 from rfl, off] at e; cases e)⟩, hF2.f14⟩
        · intro d s w' hd hA hC hF K hK
          have hB9 := hF.bel
          simp only [putL, putT, List.setIfInBounds_toArray, List.set_cons_zero, List.set_cons_succ]
          clear hB9
          as_aux_lemma =>
            obtain ⟨p, k, v, e1, hp, hk, _⟩ := hF.f10 (hA.2.2.2.2.2.2.2.2.1)
            obtain ⟨q, k1, k2, k3, k4, v2, e2, hq, hm, _⟩ := hF.f11 (hA.2.2.2.2.2.2.2.2.2.1)
            obtain ⟨a1, c1, B1, e3, o1⟩ := hF.f7 (hA.2.2.2.2.2.2.2.1)
            have H0 : Hid (KBlk w' p k v ∧ KMb w' q k1 k2 k3 k4 v2 ∧ OwnS w' B1 (.slice a1 X.length c1) X) := ⟨hk, hm, o1⟩
            obtain ⟨p0, p1⟩ := hk.cells
            have z0 := hk.fro 0
            have z1 := hk.fro 1
            clear hk hm o1
            rw [e1, e3]
            go_simp
            clear p0 p1 z0 z1
            have g9 : w'.grownBy ((w'.setCell ⟨p, 0, none⟩ (.int .i64 N)).setCell ⟨p, 1, none⟩ (Value.slice a1 X.length c1)) (some p) := put2_grown _ _ _ _
            have H1 : KBlk ((w'.setCell ⟨p, 0, none⟩ (.int .i64 N)).setCell ⟨p, 1, none⟩ (Value.slice a1 X.length c1)) p N (Value.slice a1 X.length c1) := H0.out.1.put _ _
            generalize ((w'.setCell ⟨p, 0, none⟩ (.int .i64 N)).setCell ⟨p, 1, none⟩ (Value.slice a1 X.length c1)) = W at g9 H1 ⊢
            have H2 : KMb W q k1 k2 k3 k4 v2 := H0.out.2.1.grown g9 (fun e => H0.out.1.offM H0.out.2.1 (by injection e with e; exact e.symm))
            have H3 : OwnS W B1 (.slice a1 X.length c1) X := H0.out.2.2.gr g9 (H0.out.2.2.offK H0.out.1)
            have H5 : Below w33.heap.size w33 W := hF.bel.grown g9 hF.bel.size (fun q e => by injection e with e; rw [← e]; exact hp)
            have off5 : d 13 = false := hC.off 13 12 (by kernel_rfl) hd
            refine hK.out s _ _ ?_ ⟨H5, hF.f0, fun e => (by cases e), hF.f2, fun e => (by cases e), hF.f4, fun e => (by cases e), fun e => ?_, fun _ => ⟨a1, c1, B1, e3, H3⟩, fun e => ?_, hF.f9, fun _ => ⟨p, N, _, e1, hp, H1, fun _ => ⟨rfl, a1, c1, B1, rfl, H3⟩⟩, fun _ => ⟨q, k1, k2, k3, k4, v2, e2, hq, H2, fun e => (by rw [show upd d 12 13 = d 13 from rfl, off5] at e; cases e)⟩, hF.f14⟩
            · (simp only [putL, putT, List.setIfInBounds_toArray, List.set_cons_zero, List.set_cons_succ]); rw [← e1, ← e2, ← e3]; (try rfl)
            · obtain ⟨x1, y1, x2, y2, B3, B4, h1, h2, h3⟩ := hF.f6 e
              exact ⟨x1, y1, x2, y2, B3, B4, h1, h2.gr g9 (h2.offK H0.out.1), h3.gr g9 (h3.offK H0.out.1)⟩
            · obtain ⟨x1, y1, B3, h1, h2⟩ := hF.f8 e
              exact ⟨x1, y1, B3, h1, h2.gr g9 (h2.offK H0.out.1)⟩
        · intro d s w' hd hA hC hF K hK
          have hB9 := hF.bel
          simp only [putL, putT, List.setIfInBounds_toArray, List.set_cons_zero, List.set_cons_succ]
          clear hB9
          as_aux_lemma =>
            obtain ⟨p, k, v, e1, hp, hk, hk2⟩ := hF.f10 (hA.2.2.2.2.2.2.2.2.2.1)
            obtain ⟨rfl, a1, c1, B1, rfl, o1⟩ := hk2 (hA.2.2.2.2.2.2.2.2.2.2.2.1)
            obtain ⟨q, k1, k2, k3, k4, v2, e2, hq, hm, _⟩ := hF.f11 (hA.2.2.2.2.2.2.2.2.2.2.1)
            obtain ⟨a2, c2, B2, e4, o2⟩ := hF.f8 (hA.2.2.2.2.2.2.2.2.1)
            have H0 : Hid (KBlk w' p k (.slice a1 X.length c1) ∧ KMb w' q k1 k2 k3 k4 v2 ∧ OwnS w' B1 (.slice a1 X.length c1) X ∧ OwnS w' B2 (.slice a2 Y.length c2) Y) := ⟨hk, hm, o1, o2⟩
            obtain ⟨p0, p1, p2, p3, p4⟩ := hm.cells
            have z0 := hm.fro 0
            have z1 := hm.fro 1
            have z2 := hm.fro 2
            have z3 := hm.fro 3
            have z4 := hm.fro 4
            clear hk hm o1 o2 hk2
            rw [e2, e4]
            go_simp
            clear p0 p1 p2 p3 p4 z0 z1 z2 z3 z4
            have g9 : w'.grownBy (((((w'.setCell ⟨q, 0, none⟩ (.int .i64 M)).setCell ⟨q, 1, none⟩ (.int .i64 C)).setCell ⟨q, 2, none⟩ (.int .i64 S)).setCell ⟨q, 3, none⟩ (.int .i64 F)).setCell ⟨q, 4, none⟩ (Value.slice a2 Y.length c2)) (some q) := put5_grown _ _ _ _ _ _ _
            have H2 : KMb (((((w'.setCell ⟨q, 0, none⟩ (.int .i64 M)).setCell ⟨q, 1, none⟩ (.int .i64 C)).setCell ⟨q, 2, none⟩ (.int .i64 S)).setCell ⟨q, 3, none⟩ (.int .i64 F)).setCell ⟨q, 4, none⟩ (Value.slice a2 Y.length c2)) q M C S F (.slice a2 Y.length c2) := H0.out.2.1.put _ _ _ _ _
            generalize (((((w'.setCell ⟨q, 0, none⟩ (.int .i64 M)).setCell ⟨q, 1, none⟩ (.int .i64 C)).setCell ⟨q, 2, none⟩ (.int .i64 S)).setCell ⟨q, 3, none⟩ (.int .i64 F)).setCell ⟨q, 4, none⟩ (Value.slice a2 Y.length c2)) = W at g9 H2 ⊢
            have H1 : KBlk W p k (Value.slice a1 X.length c1) := H0.out.1.grown g9 (fun e => H0.out.1.offM H0.out.2.1 (by injection e))
            have H3 : OwnS W B1 (.slice a1 X.length c1) X := H0.out.2.2.1.gr g9 (H0.out.2.2.1.offM H0.out.2.1)
            have H4 : OwnS W B2 (.slice a2 Y.length c2) Y := H0.out.2.2.2.gr g9 (H0.out.2.2.2.offM H0.out.2.1)
            have H5 : Below w33.heap.size w33 W := hF.bel.grown g9 hF.bel.size (fun q e => by injection e with e; rw [← e]; exact hq)
            have on12 := hA.2.2.2.2.2.2.2.2.2.2.2.1
            refine hK.out s _ _ ?_ ⟨H5, hF.f0, fun e => (by rw [show upd d 13 12 = d 12 from rfl, on12] at e; cases e), hF.f2, fun e => (by rw [show upd d 13 12 = d 12 from rfl, on12] at e; cases e), hF.f4, fun e => (by rw [show upd d 13 12 = d 12 from rfl, on12] at e; cases e), fun e => ?_, fun e => ?_, fun _ => ⟨a2, c2, B2, e4, H4⟩, hF.f9, fun _ => ⟨p, k, _, e1, hp, H1, fun _ => ⟨rfl, a1, c1, B1, rfl, H3⟩⟩, fun _ => ⟨q, M, C, S, F, _, e2, hq, H2, fun _ => ⟨rfl, rfl, rfl, rfl, a2, c2, B2, rfl, H4⟩⟩, hF.f14⟩
            · (simp only [putL, putT, List.setIfInBounds_toArray, List.set_cons_zero, List.set_cons_succ]); rw [← e1, ← e2, ← e4]; (try rfl)
            · obtain ⟨x1, y1, x2, y2, B3, B4, h1, h2, h3⟩ := hF.f6 e
              exact ⟨x1, y1, x2, y2, B3, B4, h1, h2.gr g9 (h2.offM H0.out.2.1), h3.gr g9 (h3.offM H0.out.2.1)⟩
            · obtain ⟨x1, y1, B3, h1, h2⟩ := hF.f7 e
              exact ⟨x1, y1, B3, h1, h2.gr g9 (h2.offM H0.out.2.1)⟩
        · intro d s w' hd hA hC hF K hK
          have hB9 := hF.bel
          simp only [putL, putT, List.setIfInBounds_toArray, List.set_cons_zero, List.set_cons_succ]
          clear hB9
          as_aux_lemma =>
            have e0 := hF.f9 (hA.2.2.2.2.2.2.2.2.2.1)
            rw [e0]
            go_simp
            refine hK.out (updS s 21 (.bool T)) _ _ ?_ ⟨hF.bel, hF.f0, hF.f1, hF.f2, hF.f3, hF.f4, hF.f5, hF.f6, hF.f7, hF.f8, hF.f9, hF.f10, hF.f11, fun _ => rfl⟩
            (simp only [putL, putT, List.setIfInBounds_toArray, List.set_cons_zero, List.set_cons_succ]); rw [← e0]; (try rfl)
      · intro d s w' hA hF
        obtain ⟨p, k, v, e1, hp, hk, hk2⟩ := hF.f10 (hA.2.2.2.2.2.2.2.2.2.2.1)
        obtain ⟨rfl, a1, c1, B1, rfl, o1⟩ := hk2 (hA.2.2.2.2.2.2.2.2.2.2.2.2.1)
        obtain ⟨q, k1, k2, k3, k4, v2, e2, hq, hm, hm2⟩ := hF.f11 (hA.2.2.2.2.2.2.2.2.2.2.2.1)
        obtain ⟨rfl, rfl, rfl, rfl, a2, c2, B2, rfl, o2⟩ := hm2 (hA.2.2.2.2.2.2.2.2.2.2.2.2.2.1)
        have e3 := hF.f14 (hA.2.2.2.2.2.2.2.2.2.2.2.2.2.2.1)
        have H0 : Hid (KBlk w' p k (.slice a1 X.length c1) ∧ KMb w' q k1 k2 k3 k4 (.slice a2 Y.length c2) ∧ SRow w' a1 X ∧ SRow w' a2 Y ∧ Below w33.heap.size w33 w') := ⟨hk, hm, OwnS.rowAt o1, OwnS.rowAt o2, hF.bel⟩
        clear hk hm o1 o2 hk2 hm2 hF hA
        simp only [putL, putT, List.setIfInBounds_toArray, List.set_cons_zero, List.set_cons_succ]
        rw [e1, e2, e3]
        clear e1 e2 e3
        go_wp2_with fail
        go_meet
        case rel => exact ⟨p, q, a1, a2, c1, c2, rfl, rfl, rfl, H0⟩
    case rest =>
     as_aux_lemma =>
      obtain ⟨p19, p20, ax3, ax4, cx3, cx4, rfl, rfl, rfl, HV⟩ := hcut
      have EV : Hid (Below w8.heap.size w8 wc) := E33.out.trans (HV.out.2.2.2.2.mono E33.out.size)
      have QV : Hid (KBlk wc w11.heap.size N (.slice ax1 X.length cx1) ∧ KMb wc (w11.heap.size + 1) M C S F (.slice ax2 Y.length cx2) ∧ Mk7 wc (.slice ax1 X.length cx1) X.length 1 ∧ Mk7 wc (.slice ax2 Y.length cx2) Y.length (1 + 7 * (X.length : Int))) := ⟨Q33.out.1.later HV.out.2.2.2.2, Q33.out.2.1.later HV.out.2.2.2.2, Q33.out.2.2.1.later HV.out.2.2.2.2, Q33.out.2.2.2.later HV.out.2.2.2.2⟩
      have RV : Hid (KBlk wc p19 N (.slice ax3 X.length cx3) ∧ KMb wc p20 M C S F (.slice ax4 Y.length cx4) ∧ SRow wc ax3 X ∧ SRow wc ax4 Y) := ⟨HV.out.1, HV.out.2.1, HV.out.2.2.1, HV.out.2.2.2.1⟩
      clear HV E33 Q33 IN33
      obtain ⟨wV, hwV⟩ : ∃ wV, wV = wc := ⟨_, rfl⟩
      subst hwV
      obtain ⟨z0, z1⟩ := (Z8.out.1.later EV.out).cells
      obtain ⟨y0, y1, y2, y3, y4⟩ := (Z8.out.2.1.later EV.out).cells
      obtain ⟨x0, x1⟩ := RV.out.1.cells
      obtain ⟨t0, t1, t2, t3, t4⟩ := RV.out.2.1.cells
      go_wp2_with fail
      clear z0 z1 y0 y1 y2 y3 y4
      clear x0 x1 t0 t1 t2 t3 t4
      refine (eqKdc_same N ax3 az1 cx3 cz1 X _ RV.out.2.2.1 (Z8.out.2.2.1.later EV.out) hX).mono ?_
      rintro r wP ⟨rfl, b9⟩
      have RP : Hid (KBlk wP p19 N (.slice ax3 X.length cx3) ∧ KMb wP p20 M C S F (.slice ax4 Y.length cx4) ∧ SRow wP ax3 X ∧ SRow wP ax4 Y) := ⟨RV.out.1.later b9, RV.out.2.1.later b9, RV.out.2.2.1.later b9, RV.out.2.2.2.later b9⟩
      have QP : Hid (KBlk wP w11.heap.size N (.slice ax1 X.length cx1) ∧ KMb wP (w11.heap.size + 1) M C S F (.slice ax2 Y.length cx2) ∧ Mk7 wP (.slice ax1 X.length cx1) X.length 1 ∧ Mk7 wP (.slice ax2 Y.length cx2) Y.length (1 + 7 * (X.length : Int))) := ⟨QV.out.1.later b9, QV.out.2.1.later b9, QV.out.2.2.1.later b9, QV.out.2.2.2.later b9⟩
      have EP : Hid (Below w8.heap.size w8 wP) := EV.out.trans (b9.mono EV.out.size)
      clear b9 QV EV
      clear RV
      obtain ⟨z0, z1⟩ := (Z8.out.1.later EP.out).cells
      obtain ⟨y0, y1, y2, y3, y4⟩ := (Z8.out.2.1.later EP.out).cells
      obtain ⟨x0, x1⟩ := RP.out.1.cells
      obtain ⟨t0, t1, t2, t3, t4⟩ := RP.out.2.1.cells
      go_wp2_with fail
      clear z0 z1 y0 y1 y2 y3 y4
      clear x0 x1 t0 t1 t2 t3 t4
      refine (eqMsg_same M C S F ax4 az2 cx4 cz2 Y _ RP.out.2.2.2 (Z8.out.2.2.2.later EP.out) hY).mono ?_
      rintro r wS ⟨rfl, b9⟩
      have QS : Hid (KBlk wS w11.heap.size N (.slice ax1 X.length cx1) ∧ KMb wS (w11.heap.size + 1) M C S F (.slice ax2 Y.length cx2) ∧ Mk7 wS (.slice ax1 X.length cx1) X.length 1 ∧ Mk7 wS (.slice ax2 Y.length cx2) Y.length (1 + 7 * (X.length : Int))) := ⟨QP.out.1.later b9, QP.out.2.1.later b9, QP.out.2.2.1.later b9, QP.out.2.2.2.later b9⟩
      have ES : Hid (Below w8.heap.size w8 wS) := EP.out.trans (b9.mono EP.out.size)
      clear b9 QP EP
      clear RP
      obtain ⟨x0, x1⟩ := QS.out.1.cells
      obtain ⟨t0, t1, t2, t3, t4⟩ := QS.out.2.1.cells
      go_wp2_with fail
      clear x0 x1 t0 t1 t2 t3 t4
      refine (heldKdc_own N 1 QS.out.2.2.1 hX (by omega) (by omega)).mono ?_
      rintro r wX ⟨rfl, b9⟩
      have QX : Hid (KBlk wX w11.heap.size N (.slice ax1 X.length cx1) ∧ KMb wX (w11.heap.size + 1) M C S F (.slice ax2 Y.length cx2) ∧ Mk7 wX (.slice ax1 X.length cx1) X.length 1 ∧ Mk7 wX (.slice ax2 Y.length cx2) Y.length (1 + 7 * (X.length : Int))) := ⟨QS.out.1.later b9, QS.out.2.1.later b9, QS.out.2.2.1.later b9, QS.out.2.2.2.later b9⟩
      have EX : Hid (Below w8.heap.size w8 wX) := ES.out.trans (b9.mono ES.out.size)
      clear b9 QS ES
      obtain ⟨x0, x1⟩ := QX.out.1.cells
      obtain ⟨t0, t1, t2, t3, t4⟩ := QX.out.2.1.cells
      go_wp2_with fail
      clear x0 x1 t0 t1 t2 t3 t4
      refine (heldMsg_own M C S F (1 + 7 * (X.length : Int)) QX.out.2.2.2 hY (by omega) (by omega)).mono ?_
      rintro r wY ⟨rfl, b9⟩
      have QY : Hid (KBlk wY w11.heap.size N (.slice ax1 X.length cx1) ∧ KMb wY (w11.heap.size + 1) M C S F (.slice ax2 Y.length cx2) ∧ Mk7 wY (.slice ax1 X.length cx1) X.length 1 ∧ Mk7 wY (.slice ax2 Y.length cx2) Y.length (1 + 7 * (X.length : Int))) := ⟨QX.out.1.later b9, QX.out.2.1.later b9, QX.out.2.2.1.later b9, QX.out.2.2.2.later b9⟩
      have EY : Hid (Below w8.heap.size w8 wY) := EX.out.trans (b9.mono EX.out.size)
      clear b9 QX EX
      go_wp2_with fail
      go_ret
      exact ⟨rfl, (IN8.out.later EY.out).below⟩

end Go.Proofs.YtghajmfjekfdpaaDoor
