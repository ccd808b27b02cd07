/-
  The law on CacheWith, walked: it returns true at all that is remembered, told, and at every time; nothing that was in memory is turned.
-/
import Derived.Test.YtdogpkeolhonbaaKdcTo
import Derived.Test.YtdogpkeolhonbaaKdcWith
import Derived.Test.YtdogpkeolhonbaaKdcSpecW
namespace Go.Proofs.Ytdogpkeolhonbaa
open Go.RowKit
attribute [local go_sem ↓] Go.wp_at_zero Go.wp_at_succ

set_option maxHeartbeats 8000000 in
set_option maxRecDepth 100000 in
theorem lawCache_short (a : Option Addr) (cap : Nat) (xs : List Sl) (s : Sl) (now : Int) (w : World) (h : SRow w a xs) (hx : xs.length ≤ 1048576) :
    Calls Try.prog 5 #[.slice a xs.length cap, .agg #[.int .i64 s.k, .int .i64 s.t, .int .i64 s.a, .int .i64 s.b, .int .i64 s.c, .int .i64 s.d, .int .i64 s.e], .int .i64 now] w fun r w' => r = .returned (.bool true) ∧ Below w.heap.size w w' := by
  have hlf : leftI 1048576 xs.length = 1048576 - (xs.length : Int) := by unfold leftI; rw [if_neg (by omega)]
  have hl0 : ¬ (1048576 - (xs.length : Int)) < 0 := by omega
  have hcl := cwL_len now xs s
  go_enter Try.func5, Try.ntmps5
  obtain ⟨WL, hWL⟩ : ∃ WL, WL = w.alloc (.cells #[.int .i64 s.k, .int .i64 s.t, .int .i64 s.a, .int .i64 s.b, .int .i64 s.c, .int .i64 s.d, .int .i64 s.e] 37) := ⟨_, rfl⟩
  have B0 : Hid (Below w.heap.size w WL) := hWL ▸ Below.alloc_ _ _
  have F0 : Hid (SealAt WL w.heap.size 0 s ∧ w.heap.size < WL.heap.size) := by
    subst hWL
    exact ⟨⟨by go_simp, by go_simp, by go_simp, by go_simp, by go_simp, by go_simp, by go_simp⟩, by simp⟩
  have HR : Hid (SRow w a xs) := h
  clear h
  go_wp2_with fail
  refine (szSealS_any a xs.length cap 1048576 _ (by omega) (by omega) (by omega)).mono ?_
  rintro r w1 ⟨rfl, hw1⟩
  rw [hlf, hw1]
  clear hw1 hlf w1
  go_wp2_with fail
  rw [← hWL]
  clear hWL
  have W0 : Hid (Below w.heap.size w WL) := B0
  -- what the specification says
  have HAT : Hid (SealAt WL w.heap.size 0 s) := F0.out.1
  have HLT : w.heap.size < WL.heap.size := F0.out.2
  refine wp_region_held_drew (S := fun w' => Below WL.heap.size WL w') (by kernel_rfl) (Below.refl _ _).drew (fun hS => ?_)
  generalize WL.drew = W9 at hS ⊢
  refine take1 0 24 (.slice a xs.length cap) rfl rfl (by kernel_rfl) (by kernel_rfl) (by kernel_rfl) (by rfl) (fun _ _ _ h => h) hS (fun w' hS' => ?_) ?_
  · (go_simp) <;> (intro hx9; omega)
  simp only [Act.put, List.setIfInBounds_toArray, List.set_cons_zero, List.set_cons_succ]
  refine take1 2 26 (Value.agg #[.int .i64 s.k, .int .i64 s.t, .int .i64 s.a, .int .i64 s.b, .int .i64 s.c, .int .i64 s.d, .int .i64 s.e]) rfl rfl (by kernel_rfl) (by kernel_rfl) (by kernel_rfl) (by rfl) (fun _ _ _ h => h) hS (fun w' hS' => ?_) ?_
  · obtain ⟨c0, c1, c2, c3, c4, c5, c6⟩ := HAT.out.later hS' HLT
    simp only [Nat.zero_add] at c1 c2 c3 c4 c5 c6
    (go_simp) <;> (intro hx9; omega)
  simp only [Act.put, List.setIfInBounds_toArray, List.set_cons_zero, List.set_cons_succ]
  refine take1 4 28 (.int .i64 now) rfl rfl (by kernel_rfl) (by kernel_rfl) (by kernel_rfl) (by rfl) (fun _ _ _ h => h) hS (fun w' hS' => ?_) ?_
  · (go_simp) <;> (intro hx9; omega)
  simp only [Act.put, List.setIfInBounds_toArray, List.set_cons_zero, List.set_cons_succ]
  refine wpAnyH_ready (rs := [1]) (by kernel_rfl) (by simp) ?_
  refine AllReadyH.cons rfl (fun K hK => ?_) AllReadyH.nil
  go_simp
  refine (toSealS_any a cap xs _ ((HR.out.later W0.out).later hS) (by omega)).mono ?_
  rintro r wa ⟨rfl, s9, b9⟩
  have S9 : Below WL.heap.size WL wa := hS.trans (b9.mono hS.size)
  have R9 : Hid (SRow wa (some ⟨W9.heap.size, 0, none⟩) xs) := s9
  clear s9 b9
  refine hK.out _ _ S9 (fun hS => ?_)
  clear hK K S9
  refine wpAnyH_ready (rs := [3]) (by kernel_rfl) (by simp) ?_
  refine AllReadyH.cons rfl (fun K hK => ?_) AllReadyH.nil
  go_simp
  refine (toSeal_any _ _ _ _ _ _ _ _).mono ?_
  rintro r wb ⟨rfl, b9⟩
  have S9 : Below WL.heap.size WL wb := hS.trans (b9.mono hS.size)
  replace R9 : Hid (SRow wb (some ⟨W9.heap.size, 0, none⟩) xs) := R9.out.later b9
  clear b9
  refine hK.out _ _ S9 (fun hS => ?_)
  clear hK K S9
  refine wpAnyH_ready (rs := [5]) (by kernel_rfl) (by simp) ?_
  refine AllReadyH.cons rfl (fun K hK => ?_) AllReadyH.nil
  go_simp
  refine (specWith_any (some ⟨W9.heap.size, 0, none⟩) xs.length xs s now _ R9.out (Nat.le_refl _) (by omega)).mono ?_
  rintro r w3 ⟨⟨v9, rfl, o9⟩, b9⟩
  obtain ⟨aw, cw, rfl, i9⟩ := o9.row
  have I3 : Hid (SRow w3 aw (cwL now xs s)) := i9
  have S9 : Below WL.heap.size WL w3 := hS.trans (b9.mono hS.size)
  clear b9 o9 i9
  refine hK.out _ _ S9 (fun hS => ?_)
  clear hK K S9
  refine take1 6 23 (.tuple #[.slice aw (cwL now xs s).length cw, .bool (cwB now xs s)]) rfl rfl (by kernel_rfl) (by kernel_rfl) (by kernel_rfl) (by rfl) (fun _ _ _ h => h) hS (fun w' hS' => ?_) ?_
  · (go_simp) <;> (intro hx9; omega)
  simp only [Act.put, List.setIfInBounds_toArray, List.set_cons_zero, List.set_cons_succ]
  refine take1 7 30 (.slice aw (cwL now xs s).length cw) rfl rfl (by kernel_rfl) (by kernel_rfl) (by kernel_rfl) (by rfl) (fun _ _ _ h => h) hS (fun w' hS' => ?_) ?_
  · (go_simp) <;> (intro hx9; omega)
  simp only [Act.put, List.setIfInBounds_toArray, List.set_cons_zero, List.set_cons_succ]
  refine take1 8 31 (.bool (cwB now xs s)) rfl rfl (by kernel_rfl) (by kernel_rfl) (by kernel_rfl) (by rfl) (fun _ _ _ h => h) hS (fun w' hS' => ?_) ?_
  · (go_simp) <;> (intro hx9; omega)
  simp only [Act.put, List.setIfInBounds_toArray, List.set_cons_zero, List.set_cons_succ]
  refine take1 9 8 (.slice aw (cwL now xs s).length cw) rfl rfl (by kernel_rfl) (by kernel_rfl) (by kernel_rfl) (by rfl) (fun _ _ _ h => h) hS (fun w' hS' => ?_) ?_
  · (go_simp) <;> (intro hx9; omega)
  simp only [Act.put, List.setIfInBounds_toArray, List.set_cons_zero, List.set_cons_succ]
  refine take1 10 9 (.bool (cwB now xs s)) rfl rfl (by kernel_rfl) (by kernel_rfl) (by kernel_rfl) (by rfl) (fun _ _ _ h => h) hS (fun w' hS' => ?_) ?_
  · (go_simp) <;> (intro hx9; omega)
  simp only [Act.put, List.setIfInBounds_toArray, List.set_cons_zero, List.set_cons_succ]
  refine wpAnyH_done (by kernel_rfl) ?_ _
  have E3 : Hid (Below WL.heap.size WL w3) := hS
  have B3 : Hid (Below w.heap.size w w3) := W0.out.trans (hS.mono W0.out.size)
  have L3 : w.heap.size < w3.heap.size := by have := hS.size; omega
  have A3 : Hid (SealAt w3 w.heap.size 0 s) := F0.out.1.later hS F0.out.2
  clear hS HAT HLT R9 E3 W0 B0 F0
  -- what the program says
  obtain ⟨c0, c1, c2, c3, c4, c5, c6⟩ := id A3.out
  simp only [Nat.zero_add] at c1 c2 c3 c4 c5 c6
  go_wp2_with fail
  refine (toSealS_wb a cap xs w3 (HR.out.later B3.out) (by omega)).mono ?_
  rintro r w5 ⟨rfl, s5, ⟨cu5, hc5, hs5⟩, b5⟩
  have L5 : w3.heap.size < w5.heap.size := (Array.getElem?_eq_some_iff.1 hc5).1
  have A5 : Hid (SealAt w5 w.heap.size 0 s) := A3.out.later b5 L3
  have S5 : Hid (SRow w5 (some ⟨w3.heap.size, 0, none⟩) xs ∧ WB w5 w3.heap.size (xs.length * 7) ∧ Below w3.heap.size w3 w5) := ⟨s5, ⟨cu5, _, hc5, by omega⟩, b5⟩
  clear c0 c1 c2 c3 c4 c5 c6 A3 s5 hc5 hs5 b5
  obtain ⟨c0, c1, c2, c3, c4, c5, c6⟩ := id A5.out
  simp only [Nat.zero_add] at c1 c2 c3 c4 c5 c6
  go_wp2_with fail
  refine (toSeal_any _ _ _ _ _ _ _ _).mono ?_
  rintro r w5' ⟨rfl, b5'⟩
  have L5' : w5.heap.size ≤ w5'.heap.size := b5'.size
  have A5' : Hid (SealAt w5' w.heap.size 0 s) := A5.out.later b5' (by omega)
  have S5' : Hid (SRow w5' (some ⟨w3.heap.size, 0, none⟩) xs ∧ WB w5' w3.heap.size (xs.length * 7) ∧ Below w3.heap.size w3 w5') := ⟨S5.out.1.later b5', S5.out.2.1.same (b5'.block _ L5), S5.out.2.2.trans (b5'.mono (by omega))⟩
  clear c0 c1 c2 c3 c4 c5 c6 A5 S5 b5'
  go_wp2_with fail
  refine (implWith_any (some ⟨w3.heap.size, 0, none⟩) xs.length xs s now w5' S5'.out.1 (Nat.le_refl _)).mono ?_
  rintro r w6 ⟨⟨v6, rfl, o6⟩, b6⟩
  obtain ⟨ag, cg, rfl, i6⟩ := o6.row
  have L6 := b6.size
  have S6 : Hid (SRow w6 (some ⟨w3.heap.size, 0, none⟩) xs ∧ WB w6 w3.heap.size (xs.length * 7)) := ⟨S5'.out.1.later b6, S5'.out.2.1.same (b6.block _ (by omega))⟩
  have B6 : Hid (Below w3.heap.size w3 w6) := S5'.out.2.2.trans (b6.mono (by omega))
  have O6 : Hid (OwnS w6 w5'.heap.size (.slice ag (cwL now xs s).length cg) (cwL now xs s)) := o6
  have A6 : Hid (SealAt w6 w.heap.size 0 s) := A5'.out.later b6 (by omega)
  clear A5' S5' o6 b6
  go_wp2_with fail
  refine (eqSealS_same ag aw cg cw (cwL now xs s) w6 i6 (I3.out.later B6.out) (by omega)).mono ?_
  rintro r w7 ⟨rfl, b7⟩
  have B7 : Hid (Below w6.heap.size w6 w7) := b7
  have W7 : Hid (Below w.heap.size w w7) := (B3.out.trans (B6.out.mono B3.out.size)).trans (b7.mono (by have := B3.out.size; omega))
  clear b7 i6
  go_wp2_with fail
  refine (toSealS_any a cap xs w7 (HR.out.later W7.out) (by omega)).mono ?_
  rintro r w10 ⟨rfl, s10, b10⟩
  have B10 : Hid (Below w6.heap.size w6 w10) := B7.out.trans (b10.mono B7.out.size)
  go_wp2_with fail
  refine (eqSealS_same _ _ _ _ xs w10 (S6.out.1.later B10.out) s10 (by omega)).mono ?_
  rintro r w11 ⟨rfl, b11⟩
  have B11 : Hid (Below w6.heap.size w6 w11) := B10.out.trans (b11.mono B10.out.size)
  have W11 : Hid (Below w.heap.size w w11) := W7.out.trans ((b10.mono W7.out.size).trans (b11.mono (by have := W7.out.size; have := b10.size; omega)))
  have E11 : Hid (Below w3.heap.size w3 w11) := B6.out.trans (B11.out.mono (by omega))
  have O11 : Hid (OwnS w11 w5'.heap.size (.slice ag (cwL now xs s).length cg) (cwL now xs s)) := O6.out.later B11.out
  have S11 : Hid (WB w11 w3.heap.size (xs.length * 7)) := S6.out.2.same (B11.out.block _ (by omega))
  have A11 : Hid (SealAt w11 w.heap.size 0 s) := A6.out.later B11.out (by omega)
  have L11 : w6.heap.size ≤ w11.heap.size := B11.out.size
  clear b10 b11 s10 B7 B10 B11 W7 S6 O6 B6 B3 A6
  -- marks
  go_wp2_with fail
  refine (markSealS_any w3.heap.size xs.length xs.length 1 w11 S11.out (by omega) (by omega) (by omega)).mono ?_
  rintro r w13 ⟨rfl, t13, _, _⟩
  have E13 : Hid (Below w3.heap.size w3 w13) := E11.out.trans (t13.below (Nat.le_refl _))
  have W13 : Hid (Below w.heap.size w w13) := W11.out.trans (t13.below (by omega))
  have O13 : Hid (OwnS w13 w5'.heap.size (.slice ag (cwL now xs s).length cg) (cwL now xs s)) := O11.out.touch t13 (by omega)
  have A13 : Hid (SealAt w13 w.heap.size 0 s) := A11.out.same (t13.block _ (by omega))
  have L13 : w6.heap.size ≤ w13.heap.size := by rw [t13.size]; exact L11
  clear t13 S11 O11 E11 W11 A11
  have hm0 : ¬ (1 + 7 * (xs.length : Int)) < 0 := by omega
  obtain ⟨ag', cg', hag, i13⟩ := O13.out.row
  obtain ⟨rfl, rfl⟩ : ag = ag' ∧ cg = cg' := by injection hag with e1 e2 e3; exact ⟨e1, e3⟩
  clear hag
  go_wp2_with fail
  refine (eqSealS_same ag aw cg cw (cwL now xs s) w13 i13 (I3.out.later E13.out) (by omega)).mono ?_
  rintro r w14 ⟨rfl, b14⟩
  have E14 : Hid (Below w3.heap.size w3 w14) := E13.out.trans (b14.mono E13.out.size)
  have W14 : Hid (Below w.heap.size w w14) := W13.out.trans (b14.mono W13.out.size)
  have O14 : Hid (OwnS w14 w5'.heap.size (.slice ag (cwL now xs s).length cg) (cwL now xs s)) := O13.out.later b14
  have A14 : Hid (SealAt w14 w.heap.size 0 s) := A13.out.later b14 (by omega)
  have L14 : w6.heap.size ≤ w14.heap.size := Nat.le_trans L13 b14.size
  clear b14 i13 O13 E13 W13 A13
  go_wp2_with fail
  refine (markSeal_own 1 O14.out (by omega) (by omega) (by omega)).mono ?_
  rintro r w15 ⟨rfl, b15, m15⟩
  have E15 : Hid (Below w3.heap.size w3 w15) := E14.out.trans (b15.mono (by omega))
  have W15 : Hid (Below w.heap.size w w15) := W14.out.trans (b15.mono (by omega))
  have A15 : Hid (SealAt w15 w.heap.size 0 s) := A14.out.same (b15.block _ (by omega))
  have L15 : w6.heap.size ≤ w15.heap.size := Nat.le_trans L14 b15.size
  have M15 : Hid (Mk7 w15 (.slice ag (cwL now xs s).length cg) (cwL now xs s).length 1) := m15
  clear b15 m15 O14 E14 W14 A14
  have hq0 : ¬ (1 + 7 * ((cwL now xs s).length : Int)) < 0 := by omega
  go_wp2_with fail
  refine (heldSeal_own 1 M15.out (by omega) (by omega) (by omega)).mono ?_
  rintro r w15' ⟨rfl, hw⟩
  rw [hw]
  clear hw w15'
  -- once more
  go_wp2_with fail
  have HAT : Hid (SealAt w15 w.heap.size 0 s) := A15
  have HLT : w.heap.size < w15.heap.size := by omega
  refine wp_region_held_drew (S := fun w' => Below w15.heap.size w15 w') (by kernel_rfl) (Below.refl _ _).drew (fun hS => ?_)
  generalize w15.drew = W9 at hS ⊢
  refine take1 0 84 (.slice a xs.length cap) rfl rfl (by kernel_rfl) (by kernel_rfl) (by kernel_rfl) (by rfl) (fun _ _ _ h => h) hS (fun w' hS' => ?_) ?_
  · (go_simp) <;> (intro hx9; omega)
  simp only [Act.put, List.setIfInBounds_toArray, List.set_cons_zero, List.set_cons_succ]
  refine take1 2 86 (Value.agg #[.int .i64 s.k, .int .i64 s.t, .int .i64 s.a, .int .i64 s.b, .int .i64 s.c, .int .i64 s.d, .int .i64 s.e]) rfl rfl (by kernel_rfl) (by kernel_rfl) (by kernel_rfl) (by rfl) (fun _ _ _ h => h) hS (fun w' hS' => ?_) ?_
  · obtain ⟨c0, c1, c2, c3, c4, c5, c6⟩ := HAT.out.later hS' HLT
    simp only [Nat.zero_add] at c1 c2 c3 c4 c5 c6
    (go_simp) <;> (intro hx9; omega)
  simp only [Act.put, List.setIfInBounds_toArray, List.set_cons_zero, List.set_cons_succ]
  refine take1 4 88 (.int .i64 now) rfl rfl (by kernel_rfl) (by kernel_rfl) (by kernel_rfl) (by rfl) (fun _ _ _ h => h) hS (fun w' hS' => ?_) ?_
  · (go_simp) <;> (intro hx9; omega)
  simp only [Act.put, List.setIfInBounds_toArray, List.set_cons_zero, List.set_cons_succ]
  refine wpAnyH_ready (rs := [1]) (by kernel_rfl) (by simp) ?_
  refine AllReadyH.cons rfl (fun K hK => ?_) AllReadyH.nil
  go_simp
  refine (toSealS_any a cap xs _ ((HR.out.later W15.out).later hS) (by omega)).mono ?_
  rintro r wd ⟨rfl, s9, b9⟩
  have S9 : Below w15.heap.size w15 wd := hS.trans (b9.mono hS.size)
  have R9 : Hid (SRow wd (some ⟨W9.heap.size, 0, none⟩) xs) := s9
  clear s9 b9
  refine hK.out _ _ S9 (fun hS => ?_)
  clear hK K S9
  refine wpAnyH_ready (rs := [3]) (by kernel_rfl) (by simp) ?_
  refine AllReadyH.cons rfl (fun K hK => ?_) AllReadyH.nil
  go_simp
  refine (toSeal_any _ _ _ _ _ _ _ _).mono ?_
  rintro r we ⟨rfl, b9⟩
  have S9 : Below w15.heap.size w15 we := hS.trans (b9.mono hS.size)
  replace R9 : Hid (SRow we (some ⟨W9.heap.size, 0, none⟩) xs) := R9.out.later b9
  clear b9
  refine hK.out _ _ S9 (fun hS => ?_)
  clear hK K S9
  refine wpAnyH_ready (rs := [5]) (by kernel_rfl) (by simp) ?_
  refine AllReadyH.cons rfl (fun K hK => ?_) AllReadyH.nil
  go_simp
  refine (implWith_any (some ⟨W9.heap.size, 0, none⟩) xs.length xs s now _ R9.out (Nat.le_refl _)).mono ?_
  rintro r w18 ⟨⟨v9, rfl, o9⟩, b9⟩
  obtain ⟨ah, ch, rfl, i9⟩ := o9.row
  have I18 : Hid (SRow w18 ah (cwL now xs s)) := i9
  have S9 : Below w15.heap.size w15 w18 := hS.trans (b9.mono hS.size)
  clear b9 o9 i9
  refine hK.out _ _ S9 (fun hS => ?_)
  clear hK K S9
  refine take1 6 83 (.tuple #[.slice ah (cwL now xs s).length ch, .bool (cwB now xs s)]) rfl rfl (by kernel_rfl) (by kernel_rfl) (by kernel_rfl) (by rfl) (fun _ _ _ h => h) hS (fun w' hS' => ?_) ?_
  · (go_simp) <;> (intro hx9; omega)
  simp only [Act.put, List.setIfInBounds_toArray, List.set_cons_zero, List.set_cons_succ]
  refine take1 7 90 (.slice ah (cwL now xs s).length ch) rfl rfl (by kernel_rfl) (by kernel_rfl) (by kernel_rfl) (by rfl) (fun _ _ _ h => h) hS (fun w' hS' => ?_) ?_
  · (go_simp) <;> (intro hx9; omega)
  simp only [Act.put, List.setIfInBounds_toArray, List.set_cons_zero, List.set_cons_succ]
  refine take1 8 91 (.bool (cwB now xs s)) rfl rfl (by kernel_rfl) (by kernel_rfl) (by kernel_rfl) (by rfl) (fun _ _ _ h => h) hS (fun w' hS' => ?_) ?_
  · (go_simp) <;> (intro hx9; omega)
  simp only [Act.put, List.setIfInBounds_toArray, List.set_cons_zero, List.set_cons_succ]
  refine take1 9 16 (.slice ah (cwL now xs s).length ch) rfl rfl (by kernel_rfl) (by kernel_rfl) (by kernel_rfl) (by rfl) (fun _ _ _ h => h) hS (fun w' hS' => ?_) ?_
  · (go_simp) <;> (intro hx9; omega)
  simp only [Act.put, List.setIfInBounds_toArray, List.set_cons_zero, List.set_cons_succ]
  refine take1 10 17 (.bool (cwB now xs s)) rfl rfl (by kernel_rfl) (by kernel_rfl) (by kernel_rfl) (by rfl) (fun _ _ _ h => h) hS (fun w' hS' => ?_) ?_
  · (go_simp) <;> (intro hx9; omega)
  simp only [Act.put, List.setIfInBounds_toArray, List.set_cons_zero, List.set_cons_succ]
  refine wpAnyH_done (by kernel_rfl) ?_ _
  have E18 : Hid (Below w3.heap.size w3 w18) := E15.out.trans (hS.mono E15.out.size)
  have W18 : Hid (Below w.heap.size w w18) := W15.out.trans (hS.mono W15.out.size)
  have M18 : Hid (Mk7 w18 (.slice ag (cwL now xs s).length cg) (cwL now xs s).length 1) := M15.out.later hS
  clear hS E15 W15 M15 HR HAT A15 R9
  go_wp2_with fail
  refine (eqSealS_same ah aw ch cw (cwL now xs s) w18 I18.out (I3.out.later E18.out) (by omega)).mono ?_
  rintro r w19 ⟨rfl, b19⟩
  have W19 : Hid (Below w.heap.size w w19) := W18.out.trans (b19.mono W18.out.size)
  have M19 : Hid (Mk7 w19 (.slice ag (cwL now xs s).length cg) (cwL now xs s).length 1) := M18.out.later b19
  clear b19
  go_wp2_with fail
  refine (heldSeal_own 1 M19.out (by omega) (by omega) (by omega)).mono ?_
  rintro r w20 ⟨rfl, hw⟩
  rw [hw]
  go_wp2_with fail
  go_ret
  exact ⟨rfl, W19.out⟩

set_option maxHeartbeats 1000000 in
theorem lawCache_any (a : Option Addr) (cap : Nat) (xs : List Sl) (s : Sl) (now : Int) (w : World) (h : SRow w a xs) (hm : xs.length ≤ 9223372036854775807) :
    Calls Try.prog 5 #[.slice a xs.length cap, .agg #[.int .i64 s.k, .int .i64 s.t, .int .i64 s.a, .int .i64 s.b, .int .i64 s.c, .int .i64 s.d, .int .i64 s.e], .int .i64 now] w fun r w' => r = .returned (.bool true) ∧ Below w.heap.size w w' := by
  by_cases hx : xs.length ≤ 1048576
  · exact lawCache_short a cap xs s now w h hx
  · have hlf : leftI 1048576 xs.length = -1 := by unfold leftI; rw [if_pos (by omega)]
    go_enter Try.func5, Try.ntmps5
    go_wp2_with fail
    refine (szSealS_any a xs.length cap 1048576 _ (by omega) (by omega) hm).mono ?_
    rintro r w1 ⟨rfl, hw1⟩
    rw [hlf, hw1]
    clear hw1 hlf w1
    go_wp2_with fail
    go_ret
    exact ⟨rfl, Below.alloc_ _ _⟩

end Go.Proofs.Ytdogpkeolhonbaa
