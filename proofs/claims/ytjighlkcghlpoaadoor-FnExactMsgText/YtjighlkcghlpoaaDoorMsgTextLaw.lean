/-
  The law on MsgText, walked: it returns true at every word, and nothing that was in memory is turned.
-/
import Derived.Test.YtjighlkcghlpoaaDoorMsgEq
import Derived.Test.YtjighlkcghlpoaaDoorMsgTextS
import Derived.Test.YtjighlkcghlpoaaDoorMsgTextI
namespace Go.Proofs.YtjighlkcghlpoaaDoor
open Go.RowKit
attribute [local go_sem ↓] Go.wp_at_zero Go.wp_at_succ

set_option maxHeartbeats 1000000 in
theorem msgText_long (m n k f : Int) (a : Option Addr) (len cap : Nat) (w : World) (hl : 1048576 < len) (hm : len ≤ 9223372036854775807) :
    Calls Tryd.prog 3 #[.agg #[.int .i64 m, .int .i64 n, .int .i64 k, .int .i64 f, .slice a len cap]] w fun r w' => r = .returned (.bool true) ∧ Below w.heap.size w w' := by
  go_enter Tryd.func3, Tryd.ntmps3
  go_wp2_with fail
  refine (szMsg_long _ _ _ _ _ _ _ _ hl hm).mono ?_
  rintro r1 w1 ⟨rfl, hb1⟩
  go_wp2_with fail
  go_ret
  exact ⟨rfl, ((Below.refl _ _).alloc (Nat.le_refl _) _).trans (hb1.mono (by simp))⟩

set_option maxHeartbeats 2000000 in
set_option maxRecDepth 100000 in
theorem msgText_short (m n k f : Int) (a : Option Addr) (cap : Nat) (xs : List Sl) (w : World) (h : SRow w a xs) (hl : xs.length ≤ 1048576) (hf : Forms w) (htab : Lib.TabIs Tryd.prog w "internal/strconv.uint64pow10" .u64 Lib.pow10Tab) :
    Calls Tryd.prog 3 #[.agg #[.int .i64 m, .int .i64 n, .int .i64 k, .int .i64 f, .slice a xs.length cap]] w fun r w' => r = .returned (.bool true) ∧ Below w.heap.size w w' := by
  have HT : Hid (Lib.TabIs Tryd.prog w "internal/strconv.uint64pow10" .u64 Lib.pow10Tab) := htab
  clear htab
  have hx : xs.length ≤ 2000000 := by omega
  have hn : ¬ (1048576 - (xs.length : Int)) < 0 := by omega
  obtain ⟨W, hW⟩ : ∃ W, W = w.alloc (.cells #[.int .i64 m, .int .i64 n, .int .i64 k, .int .i64 f, .slice a xs.length cap] 24) := ⟨_, rfl⟩
  have hz : W.heap.size = w.heap.size + 1 := by subst hW; simp
  have B0 : Below w.heap.size w W := hW ▸ (Below.refl _ _).alloc (Nat.le_refl _) _
  have k0 : W.cell? ⟨w.heap.size, 0, none⟩ = some (.int .i64 m) := by subst hW; go_simp
  have k1 : W.cell? ⟨w.heap.size, 1, none⟩ = some (.int .i64 n) := by subst hW; go_simp
  have k2 : W.cell? ⟨w.heap.size, 2, none⟩ = some (.int .i64 k) := by subst hW; go_simp
  have k3 : W.cell? ⟨w.heap.size, 3, none⟩ = some (.int .i64 f) := by subst hW; go_simp
  have k4 : W.cell? ⟨w.heap.size, 4, none⟩ = some (.slice a xs.length cap) := by subst hW; go_simp
  go_enter Tryd.func3, Tryd.ntmps3
  go_wp2_with fail
  rw [← hW]
  clear hW
  refine (szMsg_short _ _ _ _ _ _ _ _ hl).mono ?_
  rintro r1 w1 ⟨rfl, hb1⟩
  have D1 : Below W.heap.size W w1 := hb1
  clear hb1
  obtain ⟨hc, _⟩ := bcell D1
  have e0 := (hc _ _ (by omega)).trans k0
  have e1 := (hc _ _ (by omega)).trans k1
  have e2 := (hc _ _ (by omega)).trans k2
  have e3 := (hc _ _ (by omega)).trans k3
  have e4 := (hc _ _ (by omega)).trans k4
  clear hc
  have z1 := D1.size
  go_wp2_with fail
  refine (toMsg_any m n k f a cap xs _ ((h.later B0).later D1) hx).mono ?_
  rintro r2 w2 ⟨⟨a2, rfl, R2⟩, hb2⟩
  have D2 : Below W.heap.size W w2 := D1.trans (hb2.mono z1)
  clear hb2 D1 e0 e1 e2 e3 e4 z1
  have z2 := D2.size
  go_wp2_with fail
  refine (specMT_any m n k f a2 xs.length xs _ R2 hx).mono ?_
  rintro r3 w3 ⟨rfl, hb3⟩
  have D3 : Below W.heap.size W w3 := D2.trans (hb3.mono z2)
  clear hb3 D2 z2 R2
  have z3 := D3.size
  obtain ⟨hc, _⟩ := bcell D3
  have e0 := (hc _ _ (by omega)).trans k0
  have e1 := (hc _ _ (by omega)).trans k1
  have e2 := (hc _ _ (by omega)).trans k2
  have e3 := (hc _ _ (by omega)).trans k3
  have e4 := (hc _ _ (by omega)).trans k4
  clear hc
  go_wp2_with fail
  refine (toMsg_any m n k f a cap xs _ ((h.later B0).later D3) hx).mono ?_
  rintro r4 w4 ⟨⟨a4, rfl, R4⟩, hb4⟩
  have D4 : Below W.heap.size W w4 := D3.trans (hb4.mono z3)
  clear hb4 D3 e0 e1 e2 e3 e4 z3
  have z4 := D4.size
  -- the program's own copy lies in a block of its own
  obtain ⟨V, hV⟩ : ∃ V, V = w4.alloc (.cells #[.int .i64 m, .int .i64 n, .int .i64 k, .int .i64 f, .slice a4 xs.length xs.length] 29) := ⟨_, rfl⟩
  have DV : Below W.heap.size W V := hV ▸ D4.alloc z4 _
  have BV : Below w4.heap.size w4 V := hV ▸ (Below.refl _ _).alloc (Nat.le_refl _) _
  have zV : V.heap.size = w4.heap.size + 1 := by subst hV; simp
  have g0 : V.cell? ⟨w4.heap.size, 0, none⟩ = some (.int .i64 m) := by subst hV; go_simp
  have g1 : V.cell? ⟨w4.heap.size, 1, none⟩ = some (.int .i64 n) := by subst hV; go_simp
  have g2 : V.cell? ⟨w4.heap.size, 2, none⟩ = some (.int .i64 k) := by subst hV; go_simp
  have g3 : V.cell? ⟨w4.heap.size, 3, none⟩ = some (.int .i64 f) := by subst hV; go_simp
  have g4 : V.cell? ⟨w4.heap.size, 4, none⟩ = some (.slice a4 xs.length xs.length) := by subst hV; go_simp
  go_wp2_with fail
  rw [← hV]
  clear hV
  refine (implMT_any m n k f a4 xs.length xs _ (R4.later BV) hx ((hf.later B0).later DV) (Joins.tab_stays gPow HT.out (B0.trans (DV.mono (by omega))) (Nat.le_refl _))).mono ?_
  rintro r5 w5 ⟨rfl, hb5⟩
  have z5 := hb5.size
  have D5 : Below W.heap.size W w5 := DV.trans (hb5.mono DV.size)
  have H5 : MsgAt w5.drew w4.heap.size m n k f (.slice a4 xs.length xs.length) ∧ MsgAt w5.drew w.heap.size m n k f (.slice a xs.length cap) := ⟨(MsgAt.mk g0 g1 g2 g3 g4).later hb5.drew (by omega), (MsgAt.mk k0 k1 k2 k3 k4).later D5.drew (by omega)⟩
  have R5 : SRow w5.drew a4 xs := (R4.later BV).later hb5.drew
  have D5' : Below W.heap.size W w5.drew := D5.drew
  clear hb5 D5 g0 g1 g2 g3 g4 k0 k1 k2 k3 k4 R4 DV D4 BV
  go_wp2_with fail
  refine wp_region_held_drew (S := fun w' => MsgAt w' w4.heap.size m n k f (.slice a4 xs.length xs.length) ∧ MsgAt w' w.heap.size m n k f (.slice a xs.length cap)) (by kernel_rfl) H5 (fun hS => ?_)
  refine take1 0 22 (.agg #[.int .i64 m, .int .i64 n, .int .i64 k, .int .i64 f, .slice a4 xs.length xs.length]) rfl rfl (by kernel_rfl) (by kernel_rfl) (by kernel_rfl) (by rfl) (fun _ _ _ h => h) hS (fun w' hS' => ?_) ?_
  · obtain ⟨⟨c0, c1, c2, c3, c4⟩, _⟩ := hS'
    go_simp
  simp only [Act.put, List.setIfInBounds_toArray, List.set_cons_zero, List.set_cons_succ]
  refine take1 1 23 (.agg #[.int .i64 m, .int .i64 n, .int .i64 k, .int .i64 f, .slice a xs.length cap]) rfl rfl (by kernel_rfl) (by kernel_rfl) (by kernel_rfl) (by rfl) (fun _ _ _ h => h) hS (fun w' hS' => ?_) ?_
  · obtain ⟨_, ⟨c0, c1, c2, c3, c4⟩⟩ := hS'
    go_simp
  simp only [Act.put, List.setIfInBounds_toArray, List.set_cons_zero, List.set_cons_succ]
  refine wpAnyH_ready (rs := [2]) (by kernel_rfl) (by simp) ?_
  refine AllReadyH.cons rfl (fun K hK => ?_) AllReadyH.nil
  go_simp
  refine (toMsg_any m n k f a cap xs _ ((h.later B0).later D5') hx).mono ?_
  rintro r6 w6 ⟨⟨a6, rfl, R6⟩, hb6⟩
  have R6' : SRow w6 a4 xs := R5.later hb6
  have hlt : w4.heap.size < w5.drew.heap.size := by simp; omega
  have hlt2 : w.heap.size < w5.drew.heap.size := by simp; omega
  have D6 : Below W.heap.size W w6 := D5'.trans (hb6.mono D5'.size)
  refine hK.out _ _ ⟨hS.1.later hb6 hlt, hS.2.later hb6 hlt2⟩ (fun hS2 => ?_)
  clear hK K
  refine wpAnyH_ready (rs := [3]) (by kernel_rfl) (by simp) ?_
  refine AllReadyH.cons rfl (fun K hK => ?_) AllReadyH.nil
  go_simp
  refine (eqMsg_same m n k f a4 a6 xs.length xs.length xs _ R6' R6 hx).mono ?_
  rintro r7 w7 ⟨rfl, hb7⟩
  have z6 := hb6.size
  have D7 : Hid (Below w.heap.size w w7) := B0.trans ((D6.trans (hb7.mono D6.size)).mono (by omega))
  refine hK.out _ _ ⟨hS2.1.later hb7 (by omega), hS2.2.later hb7 (by omega)⟩ (fun hS3 => ?_)
  clear hK K hb6 hb7 hS hS2 R6 R6' D6 D5' H5 R5
  refine take1 4 26 (.bool false) rfl rfl (by kernel_rfl) (by kernel_rfl) (by kernel_rfl) (by rfl) (fun _ _ _ h => h) hS3 (fun w' hS' => ?_) ?_
  · go_simp
  simp only [Act.put, List.setIfInBounds_toArray, List.set_cons_zero, List.set_cons_succ]
  refine wpAnyH_done (by kernel_rfl) ?_ _
  clear hS3
  go_wp2_with fail
  go_ret
  exact ⟨rfl, D7.out⟩

end Go.Proofs.YtjighlkcghlpoaaDoor
