/-
  The text of a word as the specification writes it: a line of its four numbers, and one of each seal; nothing that was in memory is turned. The order in which Go evaluates the sum is left open; the text is the same in each.
-/
import Derived.Test.YtopikapamfmalaaGreatDoorMsgTextM
namespace Go.Proofs.YtopikapamfmalaaGreatDoor
open Go.RowKit
attribute [local go_sem ↓] Go.wp_at_zero Go.wp_at_succ

theorem specSeal_text (s : Sl) (w : World) : Calls Tryz.prog 41 #[.agg #[.int .i64 s.k, .int .i64 s.t, .int .i64 s.a, .int .i64 s.b, .int .i64 s.c, .int .i64 s.d, .int .i64 s.e]] w fun r w' => r = .returned (.string s.text) ∧ Below w.heap.size w w' :=
  specText_any s.k s.t s.a s.b s.c s.d s.e w

set_option maxHeartbeats 2000000 in
set_option maxRecDepth 100000 in
theorem specMT_ok (m n k f : Int) (a : Option Addr) (cap : Nat) (xs : List Sl) (w : World) (h : SRow w a xs) (hx : xs.length ≤ 2) (hok : msgB m n k f xs = true) (d0 d1 d2 d3 x1 x2 x3 x4 x5 x6 x7 : ByteArray)
    (y0 : Hid (∀ w : World, Calls Tryz.prog 46 #[.int .i64 m] w fun e w' => e = .returned (.string d0) ∧ Below w.heap.size w w')) (y1 : Hid (∀ w : World, Calls Tryz.prog 46 #[.int .i64 n] w fun e w' => e = .returned (.string d1) ∧ Below w.heap.size w w')) (y2 : Hid (∀ w : World, Calls Tryz.prog 46 #[.int .i64 k] w fun e w' => e = .returned (.string d2) ∧ Below w.heap.size w w')) (y3 : Hid (∀ w : World, Calls Tryz.prog 46 #[.int .i64 f] w fun e w' => e = .returned (.string d3) ∧ Below w.heap.size w w'))
    (z1 : ∀ w : World, (Op.stringOp .add d0 ⟨#[32]⟩).run Tryz.prog w = .ok (.string x1) w) (z2 : ∀ w : World, (Op.stringOp .add x1 d1).run Tryz.prog w = .ok (.string x2) w) (z3 : ∀ w : World, (Op.stringOp .add x2 ⟨#[32]⟩).run Tryz.prog w = .ok (.string x3) w) (z4 : ∀ w : World, (Op.stringOp .add x3 d2).run Tryz.prog w = .ok (.string x4) w) (z5 : ∀ w : World, (Op.stringOp .add x4 ⟨#[32]⟩).run Tryz.prog w = .ok (.string x5) w) (z6 : ∀ w : World, (Op.stringOp .add x5 d3).run Tryz.prog w = .ok (.string x6) w) (z7 : ∀ w : World, (Op.stringOp .add x6 ⟨#[10]⟩).run Tryz.prog w = .ok (.string x7) w) (h7 : Hid (x7 = tB (headL m n k f))) :
    Calls Tryz.prog 18 #[.agg #[.int .i64 m, .int .i64 n, .int .i64 k, .int .i64 f, .slice a xs.length cap]] w fun r w' => r = .returned (.string (tB (linesL (headL m n k f) xs))) ∧ Below w.heap.size w w' := by
  obtain ⟨W, hW⟩ : ∃ W, W = w.alloc (.cells #[.int .i64 m, .int .i64 n, .int .i64 k, .int .i64 f, .slice a xs.length cap] 24) := ⟨_, rfl⟩
  have hz : W.heap.size = w.heap.size + 1 := by subst hW; simp
  have B0 : Below w.heap.size w W := hW ▸ (Below.refl _ _).alloc (Nat.le_refl _) _
  have M0 : MsgAt W w.heap.size m n k f (.slice a xs.length cap) := by
    subst hW
    exact ⟨by go_simp, by go_simp, by go_simp, by go_simp, by go_simp⟩
  have HK : Hid (msgB m n k f xs = true) := hok
  go_enter Tryz.func18, Tryz.ntmps18
  go_wp2_with fail
  rw [← hW]
  clear hW
  refine (specMsg_any m n k f a cap xs W (h.later B0) (by omega)).mono ?_
  rintro r1 w1 ⟨rfl, hb1⟩
  rw [hok]
  clear hok
  have D1 : Below W.heap.size W w1.drew := hb1.drew
  have M1 : MsgAt w1.drew w.heap.size m n k f (.slice a xs.length cap) := M0.later D1 (by omega)
  clear hb1
  go_wp2_with fail
  refine wp_region_held_drew (S := fun w' => MsgAt w' w.heap.size m n k f (.slice a xs.length cap)) (by kernel_rfl) M1 (fun hS => ?_)
  clear M1
  refine take1 0 8 (.pointer (some ⟨w.heap.size, 0, none⟩)) rfl rfl (by kernel_rfl) (by kernel_rfl) (by kernel_rfl) (by rfl) (fun _ _ _ h => h) hS (fun w' hS' => ?_) ?_
  · go_simp
  simp only [Act.put, List.setIfInBounds_toArray, List.set_cons_zero, List.set_cons_succ]
  refine take1 1 9 (.int .i64 m) rfl rfl (by kernel_rfl) (by kernel_rfl) (by kernel_rfl) (by rfl) (fun _ _ _ h => h) hS (fun w' hS' => ?_) ?_
  · obtain ⟨c0, c1, c2, c3, c4⟩ := hS'
    go_simp
  simp only [Act.put, List.setIfInBounds_toArray, List.set_cons_zero, List.set_cons_succ]
  refine take1 4 12 (.pointer (some ⟨w.heap.size, 1, none⟩)) rfl rfl (by kernel_rfl) (by kernel_rfl) (by kernel_rfl) (by rfl) (fun _ _ _ h => h) hS (fun w' hS' => ?_) ?_
  · go_simp
  simp only [Act.put, List.setIfInBounds_toArray, List.set_cons_zero, List.set_cons_succ]
  refine take1 5 13 (.int .i64 n) rfl rfl (by kernel_rfl) (by kernel_rfl) (by kernel_rfl) (by rfl) (fun _ _ _ h => h) hS (fun w' hS' => ?_) ?_
  · obtain ⟨c0, c1, c2, c3, c4⟩ := hS'
    go_simp
  simp only [Act.put, List.setIfInBounds_toArray, List.set_cons_zero, List.set_cons_succ]
  refine take1 9 17 (.pointer (some ⟨w.heap.size, 2, none⟩)) rfl rfl (by kernel_rfl) (by kernel_rfl) (by kernel_rfl) (by rfl) (fun _ _ _ h => h) hS (fun w' hS' => ?_) ?_
  · go_simp
  simp only [Act.put, List.setIfInBounds_toArray, List.set_cons_zero, List.set_cons_succ]
  refine take1 10 18 (.int .i64 k) rfl rfl (by kernel_rfl) (by kernel_rfl) (by kernel_rfl) (by rfl) (fun _ _ _ h => h) hS (fun w' hS' => ?_) ?_
  · obtain ⟨c0, c1, c2, c3, c4⟩ := hS'
    go_simp
  simp only [Act.put, List.setIfInBounds_toArray, List.set_cons_zero, List.set_cons_succ]
  refine take1 14 22 (.pointer (some ⟨w.heap.size, 3, none⟩)) rfl rfl (by kernel_rfl) (by kernel_rfl) (by kernel_rfl) (by rfl) (fun _ _ _ h => h) hS (fun w' hS' => ?_) ?_
  · go_simp
  simp only [Act.put, List.setIfInBounds_toArray, List.set_cons_zero, List.set_cons_succ]
  refine take1 15 23 (.int .i64 f) rfl rfl (by kernel_rfl) (by kernel_rfl) (by kernel_rfl) (by rfl) (fun _ _ _ h => h) hS (fun w' hS' => ?_) ?_
  · obtain ⟨c0, c1, c2, c3, c4⟩ := hS'
    go_simp
  simp only [Act.put, List.setIfInBounds_toArray, List.set_cons_zero, List.set_cons_succ]
  refine wpAnyH_ready (rs := [2]) (by kernel_rfl) (by simp) ?_
  refine AllReadyH.cons rfl (fun K hK => ?_) AllReadyH.nil
  go_simp
  refine (y0.out _).mono ?_
  rintro r2 w2 ⟨rfl, hb2⟩
  have D2 : Below W.heap.size W w2 := D1.trans (hb2.mono D1.size)
  refine hK.out _ _ (M0.later D2 (by omega)) (fun hS2 => ?_)
  clear hK K hb2 D1 hS
  refine take1 3 11 (.string x1) rfl rfl (by kernel_rfl) (by kernel_rfl) (by kernel_rfl) (by rfl) (fun _ _ _ h => h) hS2 (fun w' hS' => ?_) ?_
  · go_simp
  simp only [Act.put, List.setIfInBounds_toArray, List.set_cons_zero, List.set_cons_succ]
  refine wpAnyH_ready (rs := [6]) (by kernel_rfl) (by simp) ?_
  refine AllReadyH.cons rfl (fun K hK => ?_) AllReadyH.nil
  go_simp
  refine (y1.out _).mono ?_
  rintro r3 w3 ⟨rfl, hb3⟩
  have D3 : Below W.heap.size W w3 := D2.trans (hb3.mono D2.size)
  refine hK.out _ _ (M0.later D3 (by omega)) (fun hS3 => ?_)
  clear hK K hb3 D2 hS2
  refine take1 7 15 (.string x2) rfl rfl (by kernel_rfl) (by kernel_rfl) (by kernel_rfl) (by rfl) (fun _ _ _ h => h) hS3 (fun w' hS' => ?_) ?_
  · go_simp
  simp only [Act.put, List.setIfInBounds_toArray, List.set_cons_zero, List.set_cons_succ]
  refine take1 8 16 (.string x3) rfl rfl (by kernel_rfl) (by kernel_rfl) (by kernel_rfl) (by rfl) (fun _ _ _ h => h) hS3 (fun w' hS' => ?_) ?_
  · go_simp
  simp only [Act.put, List.setIfInBounds_toArray, List.set_cons_zero, List.set_cons_succ]
  refine wpAnyH_ready (rs := [11]) (by kernel_rfl) (by simp) ?_
  refine AllReadyH.cons rfl (fun K hK => ?_) AllReadyH.nil
  go_simp
  refine (y2.out _).mono ?_
  rintro r4 w4 ⟨rfl, hb4⟩
  have D4 : Below W.heap.size W w4 := D3.trans (hb4.mono D3.size)
  refine hK.out _ _ (M0.later D4 (by omega)) (fun hS4 => ?_)
  clear hK K hb4 D3 hS3
  refine take1 12 20 (.string x4) rfl rfl (by kernel_rfl) (by kernel_rfl) (by kernel_rfl) (by rfl) (fun _ _ _ h => h) hS4 (fun w' hS' => ?_) ?_
  · go_simp
  simp only [Act.put, List.setIfInBounds_toArray, List.set_cons_zero, List.set_cons_succ]
  refine take1 13 21 (.string x5) rfl rfl (by kernel_rfl) (by kernel_rfl) (by kernel_rfl) (by rfl) (fun _ _ _ h => h) hS4 (fun w' hS' => ?_) ?_
  · go_simp
  simp only [Act.put, List.setIfInBounds_toArray, List.set_cons_zero, List.set_cons_succ]
  refine wpAnyH_ready (rs := [16]) (by kernel_rfl) (by simp) ?_
  refine AllReadyH.cons rfl (fun K hK => ?_) AllReadyH.nil
  go_simp
  refine (y3.out _).mono ?_
  rintro r5 w5 ⟨rfl, hb5⟩
  have D5 : Below W.heap.size W w5 := D4.trans (hb5.mono D4.size)
  refine hK.out _ _ (M0.later D5 (by omega)) (fun hS5 => ?_)
  clear hK K hb5 D4 hS4
  refine take1 17 25 (.string x6) rfl rfl (by kernel_rfl) (by kernel_rfl) (by kernel_rfl) (by rfl) (fun _ _ _ h => h) hS5 (fun w' hS' => ?_) ?_
  · go_simp
  simp only [Act.put, List.setIfInBounds_toArray, List.set_cons_zero, List.set_cons_succ]
  refine take1 18 26 (.string x7) rfl rfl (by kernel_rfl) (by kernel_rfl) (by kernel_rfl) (by rfl) (fun _ _ _ h => h) hS5 (fun w' hS' => ?_) ?_
  · go_simp
  simp only [Act.put, List.setIfInBounds_toArray, List.set_cons_zero, List.set_cons_succ]
  refine take1 19 3 (.string x7) rfl rfl (by kernel_rfl) (by kernel_rfl) (by kernel_rfl) (by rfl) (fun _ _ _ h => h) hS5 (fun w' hS' => ?_) ?_
  · go_simp
  simp only [Act.put, List.setIfInBounds_toArray, List.set_cons_zero, List.set_cons_succ]
  refine wpAnyH_done (by kernel_rfl) ?_ _
  have HD : Hid (Below W.heap.size W w5 ∧ MsgAt w5 w.heap.size m n k f (.slice a xs.length cap)) := ⟨D5, hS5⟩
  clear D5 hS5 z1 z2 z3 z4 z5 z6 z7 y0 y1 y2 y3
  rw [h7.out]
  go_wp2_with fail
  go_loopw [3, 4] (fun v i wr => ∃ (j : Nat), j ≤ xs.length ∧ i = .int .i64 j ∧ v = .string (tB (linesL (headL m n k f) (xs.take j))) ∧ Hid (Below W.heap.size W wr)) (fun _ i _ => xs.length - (intOf i).toNat)
  case atStart => exact ⟨0, Nat.zero_le _, rfl, rfl, HD.out.1⟩
  case round =>
    obtain ⟨j, hj, rfl, rfl, C⟩ := hrel
    obtain ⟨c0, c1, c2, c3, c4⟩ := M0.later C.out (by omega : w.heap.size < W.heap.size)
    by_cases hlt : j < xs.length
    · obtain ⟨s, hs⟩ : ∃ s, xs[j]? = some s := ⟨xs[j], List.getElem?_eq_getElem hlt⟩
      rcases h with h | ⟨b, off, rfl, hl, h⟩
      · simp [h] at hlt
      obtain ⟨e0, e1, e2, e3, e4, e5, e6⟩ := ((h j s hs).later B0 hl).later C.out (by omega)
      have hadd1 : ∀ w : World, (Op.stringOp .add (tB (linesL (headL m n k f) (xs.take j))) s.text).run Tryz.prog w = .ok (.string (tB (linesL (headL m n k f) (xs.take j) ++ s.text.data.toList))) w := fun w => by
        rw [run_string_add_sum w _ _ (by have := lines_take_len HK.out j; have := text_le s; rw [tB_size]; omega), tB_add]
      have hadd2 : ∀ w : World, (Op.stringOp .add (tB (linesL (headL m n k f) (xs.take j) ++ s.text.data.toList)) ⟨#[10]⟩).run Tryz.prog w = .ok (.string (tB (linesL (headL m n k f) (xs.take (j + 1))))) w := fun w => by
        have hsz : (tB (linesL (headL m n k f) (xs.take j) ++ s.text.data.toList)).size ≤ 400 := by
          have := lines_take_len HK.out j; have := text_le s
          have e : s.text.data.toList.length = s.text.size := by rw [Array.length_toList]; rfl
          rw [tB_size, List.length_append, e]; omega
        rw [run_string_add_sum w _ _ (by have e : (ByteArray.mk #[10]).size = 1 := rfl; omega), tB_add, linesL_next hs, List.append_assoc]
      clear h
      go_wp2_with fail
      refine (specSeal_text s _).mono ?_
      rintro r6 w6 ⟨rfl, hb6⟩
      have C6 : Hid (Below W.heap.size W w6) := C.out.trans (hb6.mono C.out.size)
      clear C hb6 c0 c1 c2 c3 c4 e0 e1 e2 e3 e4 e5 e6
      go_wp2_with fail
      go_roundw
      case rel => exact ⟨j + 1, by omega, by go_num, rfl, C6⟩
      case measure => simp [intOf]; omega
    · obtain rfl : j = xs.length := by omega
      rw [List.take_length]
      have C6 : Hid (Below w.heap.size w wr) := B0.trans (C.out.mono (by omega))
      clear C
      go_wp2_with fail
      go_ret
      exact ⟨rfl, C6.out⟩

set_option maxHeartbeats 400000 in
theorem specMT_not (m n k f : Int) (a : Option Addr) (cap : Nat) (xs : List Sl) (w : World) (h : SRow w a xs) (hx : xs.length ≤ 2000000) (hok : msgB m n k f xs = false) :
    Calls Tryz.prog 18 #[.agg #[.int .i64 m, .int .i64 n, .int .i64 k, .int .i64 f, .slice a xs.length cap]] w fun r w' => r = .returned (.string ⟨#[]⟩) ∧ Below w.heap.size w w' := by
  go_enter Tryz.func18, Tryz.ntmps18
  go_wp2_with fail
  refine (specMsg_any m n k f a cap xs _ (h.later ((Below.refl _ _).alloc (Nat.le_refl _) _)) hx).mono ?_
  rintro r1 w1 ⟨rfl, hb1⟩
  rw [hok]
  go_wp2_with fail
  go_ret
  exact ⟨rfl, ((Below.refl _ _).alloc (Nat.le_refl _) _).trans (hb1.mono (by simp))⟩

/-- The specification's MsgText, whatever the word. -/
theorem specMT_any (m n k f : Int) (a : Option Addr) (cap : Nat) (xs : List Sl) (w : World) (h : SRow w a xs) (hx : xs.length ≤ 2000000) :
    Calls Tryz.prog 18 #[.agg #[.int .i64 m, .int .i64 n, .int .i64 k, .int .i64 f, .slice a xs.length cap]] w fun r w' => r = .returned (.string (msgT m n k f xs)) ∧ Below w.heap.size w w' := by
  cases hok : msgB m n k f xs
  · have e : msgT m n k f xs = ⟨#[]⟩ := by unfold msgT; rw [hok]; rfl
    rw [e]; exact specMT_not m n k f a cap xs w h hx hok
  · have e : msgT m n k f xs = tB (linesL (headL m n k f) xs) := by unfold msgT; rw [if_pos hok]
    rw [e]
    obtain ⟨⟨m0, m1⟩, ⟨n0, n1⟩, ⟨k0, k1⟩, f0, f1⟩ := msg_bounds hok
    have s0 := dig_len (n := m) (by omega) (by omega)
    have s1 := dig_len (n := n) (by omega) (by omega)
    have s2 := dig_len (n := k) (by omega) (by omega)
    have s3 := dig_len (n := f) (by omega) (by omega)
    have add : ∀ (l : List UInt8) (x : ByteArray), l.length + x.size ≤ 1000 → ∀ w : World, (Op.stringOp .add (tB l) x).run Tryz.prog w = .ok (.string (tB (l ++ x.data.toList))) w := fun l x hl w => by
      rw [run_string_add_sum w _ _ (by rw [tB_size]; omega), tB_add]
    have hd : ∀ n, (decB n).data.toList = digL n := fun _ => rfl
    have hs : ∀ n, (decB n).size = (digL n).length := fun _ => rfl
    have e1 : (ByteArray.mk #[32]).size = 1 := rfl
    have e2 : (ByteArray.mk #[10]).size = 1 := rfl
    exact specMT_ok m n k f a cap xs w h (msg_seals hok).1 hok (decB m) (decB n) (decB k) (decB f) _ _ _ _ _ _ _
      (fun w => l6Dec_any m (by omega) (by omega) w) (fun w => l6Dec_any n n0 (by omega) w) (fun w => l6Dec_any k k0 (by omega) w) (fun w => l6Dec_any f f0 (by omega) w)
      (add (digL m) ⟨#[32]⟩ (by omega)) (add _ (decB n) (by simp only [List.length_append, List.length_cons, List.length_nil, hs]; omega)) (add _ ⟨#[32]⟩ (by simp only [List.length_append, hd, List.length_cons, List.length_nil, e1]; omega)) (add _ (decB k) (by simp only [List.length_append, hd, List.length_cons, List.length_nil, hs]; omega)) (add _ ⟨#[32]⟩ (by simp only [List.length_append, hd, List.length_cons, List.length_nil, e1]; omega)) (add _ (decB f) (by simp only [List.length_append, hd, List.length_cons, List.length_nil, hs]; omega)) (add _ ⟨#[10]⟩ (by simp only [List.length_append, hd, List.length_cons, List.length_nil, e2]; omega))
      (show _ = _ by simp only [hd, headL, List.append_assoc, List.cons_append, List.nil_append])

end Go.Proofs.YtopikapamfmalaaGreatDoor
