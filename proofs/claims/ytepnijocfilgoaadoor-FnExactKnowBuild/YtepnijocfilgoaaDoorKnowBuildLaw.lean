/-
  The law on KnowBuild, walked at all keys, seals and words: it returns true, and nothing that was in memory is turned.
-/
import Derived.Test.YtepnijocfilgoaaDoorKnowBuildI
import Derived.Test.YtepnijocfilgoaaDoorIntTo
import Derived.Test.YtepnijocfilgoaaDoorKTo
import Derived.Test.YtepnijocfilgoaaDoorKEq
import Derived.Test.YtepnijocfilgoaaDoorKSz
import Derived.Test.YtepnijocfilgoaaDoorMsgTo
import Derived.Test.YtepnijocfilgoaaDoorMsgEq
namespace Go.Proofs.YtepnijocfilgoaaDoor
open Go.RowKit
attribute [local go_sem ↓] Go.wp_at_zero Go.wp_at_succ

/-- The word that was handed over, in a variable of the call's own. -/
structure Mc (w : World) (b : Nat) (m n k f : Int) (v : Value) : Prop where
  c0 : w.cell? ⟨b, 0, none⟩ = some (.int .i64 m)
  c1 : w.cell? ⟨b, 1, none⟩ = some (.int .i64 n)
  c2 : w.cell? ⟨b, 2, none⟩ = some (.int .i64 k)
  c3 : w.cell? ⟨b, 3, none⟩ = some (.int .i64 f)
  c4 : w.cell? ⟨b, 4, none⟩ = some v
  lt : b < w.heap.size
theorem Mc.later {w w' : World} {b : Nat} {m n k f : Int} {v : Value} (h : Mc w b m n k f v) (hb : Below w.heap.size w w') : Mc w' b m n k f v := by
  obtain ⟨hc, _⟩ := bcell hb
  exact ⟨(hc _ _ h.lt).trans h.c0, (hc _ _ h.lt).trans h.c1, (hc _ _ h.lt).trans h.c2, (hc _ _ h.lt).trans h.c3, (hc _ _ h.lt).trans h.c4, Nat.lt_of_lt_of_le h.lt hb.size⟩
theorem leftI_neg {q : Int} {len : Nat} (h : q < len) : leftI q len = -1 := by unfold leftI; rw [if_pos (by omega)]
theorem leftI_pos {q : Int} {len : Nat} (h : len ≤ q) : leftI q len = q - len := by unfold leftI; rw [if_neg (by omega)]

set_option maxRecDepth 100000 in
set_option maxHeartbeats 1000000 in
theorem lawBuild_long (a1 a2 a3 : Option Addr) (c1 c2 c3 n1 n2 n3 : Nat) (m n k f : Int) (w : World) (h : 1048576 < n1) :
    Calls Tryd.prog 3 #[.slice a1 n1 c1, .slice a2 n2 c2, .agg #[.int .i64 m, .int .i64 n, .int .i64 k, .int .i64 f, .slice a3 n3 c3]] w fun r w' => r = .returned (.bool true) ∧ Below w.heap.size w w' := by
  have h' : (1048576 : Int) < n1 := by omega
  go_enter Tryd.func3, Tryd.ntmps3
  go_wp2_with fail
  go_ret
  exact ⟨rfl, (Below.refl _ _).alloc (Nat.le_refl _) _⟩

set_option maxRecDepth 100000 in
set_option maxHeartbeats 1000000 in
theorem lawBuild_long2 (a1 a2 a3 : Option Addr) (c1 c2 c3 n1 n2 n3 : Nat) (m n k f : Int) (w : World) (h : ¬ 1048576 < n1) (h2 : 1048576 < n2) (h3 : n2 ≤ 9223372036854775807) :
    Calls Tryd.prog 3 #[.slice a1 n1 c1, .slice a2 n2 c2, .agg #[.int .i64 m, .int .i64 n, .int .i64 k, .int .i64 f, .slice a3 n3 c3]] w fun r w' => r = .returned (.bool true) ∧ Below w.heap.size w w' := by
  have h' : ¬ (1048576 : Int) < n1 := by omega
  go_enter Tryd.func3, Tryd.ntmps3
  go_wp2_with (go_at_call 8; refine (szSealS_any a2 n2 c2 1048576 _ (by omega) (by omega) h3).mono ?_; rintro e w1 ⟨rfl, rfl⟩; rw [leftI_neg (by omega)])
  go_ret
  exact ⟨rfl, (Below.refl _ _).alloc (Nat.le_refl _) _⟩

set_option maxRecDepth 100000 in
set_option maxHeartbeats 1000000 in
theorem lawBuild_long3 (a1 a2 a3 : Option Addr) (c1 c2 c3 n1 n2 n3 : Nat) (m n k f : Int) (w : World) (h : ¬ 1048576 < n1) (h2 : ¬ 1048576 < n2) (h3 : 1048576 < n2 + n3) (h4 : n3 ≤ 9223372036854775807) :
    Calls Tryd.prog 3 #[.slice a1 n1 c1, .slice a2 n2 c2, .agg #[.int .i64 m, .int .i64 n, .int .i64 k, .int .i64 f, .slice a3 n3 c3]] w fun r w' => r = .returned (.bool true) ∧ Below w.heap.size w w' := by
  have h' : ¬ (1048576 : Int) < n1 := by omega
  have h'' : ¬ (1048576 - (n2 : Int)) < 0 := by omega
  go_enter Tryd.func3, Tryd.ntmps3
  go_wp2_with (go_at_call 8; refine (szSealS_any a2 n2 c2 1048576 _ (by omega) (by omega) (by omega)).mono ?_; rintro e w1 ⟨rfl, hw⟩; rw [hw, leftI_pos (by omega)]; clear hw w1)
  refine (szMsg_any m n k f a3 n3 c3 (1048576 - n2) _ (by omega) (by omega) h4).mono ?_
  rintro r w1 ⟨rfl, b1⟩
  rw [leftI_neg (by omega)]
  go_wp2_with fail
  go_ret
  exact ⟨rfl, ((Below.refl _ _).alloc (Nat.le_refl _) _).trans (b1.mono (by simp))⟩

set_option maxRecDepth 100000 in
set_option maxHeartbeats 4000000 in
theorem lawBuild_short (a1 a2 a3 : Option Addr) (c1 c2 c3 : Nat) (ks : List Int) (xs : List Sl) (m n k f : Int) (ys : List Sl) (w : World) (h1 : IRow w a1 ks) (h2 : SRow w a2 xs) (h3 : SRow w a3 ys) (hk : ks.length ≤ 1048576) (hx : xs.length + ys.length ≤ 1048576) (hf : Forms w) :
    Calls Tryd.prog 3 #[.slice a1 ks.length c1, .slice a2 xs.length c2, .agg #[.int .i64 m, .int .i64 n, .int .i64 k, .int .i64 f, .slice a3 ys.length c3]] w fun r w' => r = .returned (.bool true) ∧ Below w.heap.size w w' := by
  obtain ⟨H, hR⟩ := right_any ks xs
  have HR : Hid (Right ks xs H) := hR
  clear hR
  have M0 : Hid (Mc (w.alloc (.cells #[.int .i64 m, .int .i64 n, .int .i64 k, .int .i64 f, .slice a3 ys.length c3] 25)) w.heap.size m n k f (.slice a3 ys.length c3)) := ⟨by go_simp, by go_simp, by go_simp, by go_simp, by go_simp, by simp⟩
  have h' : ¬ (1048576 : Int) < ks.length := by omega
  have h'' : ¬ (1048576 - (xs.length : Int)) < 0 := by omega
  have h''' : ¬ (1048576 - (xs.length : Int) - ys.length) < 0 := by omega
  go_enter Tryd.func3, Tryd.ntmps3
  go_wp2_with (go_at_call 8; refine (szSealS_any a2 xs.length c2 1048576 _ (by omega) (by omega) (by omega)).mono ?_; rintro e w1 ⟨rfl, hw⟩; rw [hw, leftI_pos (by omega)]; clear hw w1)
  refine (szMsg_any m n k f a3 ys.length c3 (1048576 - xs.length) _ (by omega) (by omega) (by omega)).mono ?_
  rintro r w1 ⟨rfl, b1⟩
  rw [leftI_pos (by omega)]
  have B1 : Hid (Below w.heap.size w w1) := ((Below.refl _ _).alloc (Nat.le_refl _) _).trans (b1.mono (by simp))
  have M1 : Hid (Mc w1 w.heap.size m n k f (.slice a3 ys.length c3)) := M0.out.later b1
  clear b1 M0
  -- what the specification says
  go_wp2_with fail
  refine wp_region_held_drew (S := fun w' => Mc w' w.heap.size m n k f (.slice a3 ys.length c3)) (by kernel_rfl) (M1.out.later (Below.refl _ _).drew) (fun hS => ?_)
  refine take1 0 26 (.slice a1 ks.length c1) rfl rfl (by kernel_rfl) (by kernel_rfl) (by kernel_rfl) (by rfl) (fun _ _ _ h => h) hS (fun w' hS' => ?_) ?_
  · (go_simp) <;> (intro hx9; omega)
  simp only [Act.put, List.setIfInBounds_toArray, List.set_cons_zero, List.set_cons_succ]
  refine take1 2 28 (.slice a2 xs.length c2) rfl rfl (by kernel_rfl) (by kernel_rfl) (by kernel_rfl) (by rfl) (fun _ _ _ h => h) hS (fun w' hS' => ?_) ?_
  · (go_simp) <;> (intro hx9; omega)
  simp only [Act.put, List.setIfInBounds_toArray, List.set_cons_zero, List.set_cons_succ]
  refine take1 4 30 (.agg #[.int .i64 m, .int .i64 n, .int .i64 k, .int .i64 f, .slice a3 ys.length c3]) rfl rfl (by kernel_rfl) (by kernel_rfl) (by kernel_rfl) (by rfl) (fun _ _ _ h => h) hS (fun w' hS' => ?_) ?_
  · obtain ⟨e0, e1, e2, e3, e4, _⟩ := hS'
    (go_simp) <;> (intro hx9; omega)
  simp only [Act.put, List.setIfInBounds_toArray, List.set_cons_zero, List.set_cons_succ]
  have B1d : Hid (Below w.heap.size w w1.drew) := B1.out.drew
  clear B1 M1
  refine wpAnyH_ready (rs := [1]) (by kernel_rfl) (by simp) ?_
  refine AllReadyH.cons rfl (fun K hK => ?_) AllReadyH.nil
  go_simp
  refine (toIntS_any a1 c1 ks _ (h1.later B1d.out) (by omega)).mono ?_
  rintro r w2 ⟨rfl, k2, _, b2⟩
  have B2 : Hid (Below w.heap.size w w2) := B1d.out.trans (b2.mono B1d.out.size)
  have M2 := hS.later b2
  have K2 : Hid (IRow w2 (some ⟨w1.drew.heap.size, 0, none⟩) ks) := k2
  clear b2 k2
  refine hK.out _ _ M2 (fun hS => ?_)
  clear hK K M2 B1d
  refine wpAnyH_ready (rs := [3]) (by kernel_rfl) (by simp) ?_
  refine AllReadyH.cons rfl (fun K hK => ?_) AllReadyH.nil
  go_simp
  refine (toSealS_any a2 c2 xs _ (h2.later B2.out) (by omega)).mono ?_
  rintro r w3 ⟨rfl, s3, b3⟩
  have B3 : Hid (Below w.heap.size w w3) := B2.out.trans (b3.mono B2.out.size)
  have M3 := hS.later b3
  have K3 : Hid (IRow w3 (some ⟨w1.drew.heap.size, 0, none⟩) ks ∧ SRow w3 (some ⟨w2.heap.size, 0, none⟩) xs) := ⟨K2.out.later b3, s3⟩
  clear b3 s3 K2
  refine hK.out _ _ M3 (fun hS => ?_)
  clear hK K M3 B2
  refine wpAnyH_ready (rs := [5]) (by kernel_rfl) (by simp) ?_
  refine AllReadyH.cons rfl (fun K hK => ?_) AllReadyH.nil
  go_simp
  refine (toMsg_any m n k f a3 c3 ys _ (h3.later B3.out) (by omega)).mono ?_
  rintro r w4 ⟨⟨a4, rfl, s4⟩, b4⟩
  have B4 : Hid (Below w.heap.size w w4) := B3.out.trans (b4.mono B3.out.size)
  have M4 := hS.later b4
  have K4 : Hid (IRow w4 (some ⟨w1.drew.heap.size, 0, none⟩) ks ∧ SRow w4 (some ⟨w2.heap.size, 0, none⟩) xs ∧ SRow w4 a4 ys) := ⟨K3.out.1.later b4, K3.out.2.later b4, s4⟩
  clear b4 s4 K3
  refine hK.out _ _ M4 (fun hS => ?_)
  clear hK K M4 B3
  refine wpAnyH_ready (rs := [6]) (by kernel_rfl) (by simp) ?_
  refine AllReadyH.cons rfl (fun K hK => ?_) AllReadyH.nil
  go_simp
  refine (specBuild_any _ _ a4 _ _ ys.length ks xs m n k f ys w4 H HR.out K4.out.1 K4.out.2.1 K4.out.2.2 (by omega) (by omega) (by omega)).mono ?_
  rintro r w5 ⟨rfl, b5⟩
  have B5 : Hid (Below w.heap.size w w5) := B4.out.trans (b5.mono B4.out.size)
  have M5' := hS.later b5
  have M5 : Hid (Mc w5 w.heap.size m n k f (.slice a3 ys.length c3)) := M5'
  clear b5 K4
  obtain ⟨bb, hbb⟩ : ∃ bb, bb = buildB H xs m n k f ys := ⟨_, rfl⟩
  rw [← hbb]
  have HB : Hid (bb = buildB H xs m n k f ys) := hbb
  clear hbb
  refine hK.out _ _ M5' (fun hS => ?_)
  clear hK K M5' B4
  refine take1 7 8 (.bool bb) rfl rfl (by kernel_rfl) (by kernel_rfl) (by kernel_rfl) (by rfl) (fun _ _ _ h => h) hS (fun w' hS' => ?_) ?_
  · (go_simp) <;> (intro hx9; omega)
  simp only [Act.put, List.setIfInBounds_toArray, List.set_cons_zero, List.set_cons_succ]
  refine wpAnyH_done (by kernel_rfl) ?_ _
  clear hS
  -- what the program says
  go_wp2_with fail
  refine (toIntS_any a1 c1 ks w5 (h1.later B5.out) (by omega)).mono ?_
  rintro r w6 ⟨rfl, k6, _, b6⟩
  have B6 : Hid (Below w.heap.size w w6) := B5.out.trans (b6.mono B5.out.size)
  go_wp2_with fail
  refine (toSealS_any a2 c2 xs w6 (h2.later B6.out) (by omega)).mono ?_
  rintro r w7 ⟨rfl, s7, b7⟩
  have B7 : Hid (Below w.heap.size w w7) := B6.out.trans (b7.mono B6.out.size)
  have M7 : Hid (Mc w7 w.heap.size m n k f (.slice a3 ys.length c3)) := (M5.out.later b6).later b7
  obtain ⟨e0, e1, e2, e3, e4, _⟩ := M7.out
  go_wp2_with fail
  refine (toMsg_any m n k f a3 c3 ys w7 (h3.later B7.out) (by omega)).mono ?_
  rintro r w8 ⟨⟨a8, rfl, s8⟩, b8⟩
  have B8 : Hid (Below w.heap.size w w8) := B7.out.trans (b8.mono B7.out.size)
  have K8 : Hid (IRow w8 (some ⟨w5.heap.size, 0, none⟩) ks ∧ SRow w8 (some ⟨w6.heap.size, 0, none⟩) xs ∧ SRow w8 a8 ys) := ⟨(k6.later b7).later b8, s7.later b8, s8⟩
  have ab := Below.alloc_ w8 (.cells #[.int .i64 m, .int .i64 n, .int .i64 k, .int .i64 f, .slice a8 ys.length ys.length] 33)
  have M8 : Hid (Mc (w8.alloc (.cells #[.int .i64 m, .int .i64 n, .int .i64 k, .int .i64 f, .slice a8 ys.length ys.length] 33)) w.heap.size m n k f (.slice a3 ys.length c3)) := (M7.out.later b8).later ab
  have X8 : Hid (Mc (w8.alloc (.cells #[.int .i64 m, .int .i64 n, .int .i64 k, .int .i64 f, .slice a8 ys.length ys.length] 33)) w8.heap.size m n k f (.slice a8 ys.length ys.length)) := ⟨by go_simp, by go_simp, by go_simp, by go_simp, by go_simp, by simp⟩
  have C8 : Hid (Below w.heap.size w (w8.alloc (.cells #[.int .i64 m, .int .i64 n, .int .i64 k, .int .i64 f, .slice a8 ys.length ys.length] 33))) := B8.out.trans (ab.mono B8.out.size)
  have L8 : Hid (IRow (w8.alloc (.cells #[.int .i64 m, .int .i64 n, .int .i64 k, .int .i64 f, .slice a8 ys.length ys.length] 33)) (some ⟨w5.heap.size, 0, none⟩) ks ∧ SRow (w8.alloc (.cells #[.int .i64 m, .int .i64 n, .int .i64 k, .int .i64 f, .slice a8 ys.length ys.length] 33)) (some ⟨w6.heap.size, 0, none⟩) xs ∧ SRow (w8.alloc (.cells #[.int .i64 m, .int .i64 n, .int .i64 k, .int .i64 f, .slice a8 ys.length ys.length] 33)) a8 ys) := ⟨K8.out.1.later ab, K8.out.2.1.later ab, K8.out.2.2.later ab⟩
  clear k6 s7 s8 b6 b7 b8 B5 B6 B7 M5 M7 e0 e1 e2 e3 e4 K8 B8 ab
  go_wp2_with fail
  refine (implBuild_any _ _ a8 _ _ ys.length ks xs m n k f ys _ H HR.out L8.out.1 L8.out.2.1 L8.out.2.2 (by omega) (by omega) (by omega) (hf.later C8.out)).mono ?_
  rintro r w9 ⟨rfl, b9⟩
  have B9 : Hid (Below w.heap.size w w9) := C8.out.trans (b9.mono C8.out.size)
  have K9 : Hid (IRow w9 (some ⟨w5.heap.size, 0, none⟩) ks ∧ SRow w9 (some ⟨w6.heap.size, 0, none⟩) xs ∧ SRow w9 a8 ys) := ⟨L8.out.1.later b9, L8.out.2.1.later b9, L8.out.2.2.later b9⟩
  have M9 : Hid (Mc w9 w.heap.size m n k f (.slice a3 ys.length c3)) := M8.out.later b9
  have X9 : Hid (Mc w9 w8.heap.size m n k f (.slice a8 ys.length ys.length)) := X8.out.later b9
  clear L8 C8 b9 M8 X8
  rw [← HB.out]
  have hne : (bb != bb) = false := by cases bb <;> rfl
  go_wp2_with fail
  refine (toIntS_any a1 c1 ks w9 (h1.later B9.out) (by omega)).mono ?_
  rintro r w10 ⟨rfl, k10, _, b10⟩
  have B10 : Hid (Below w.heap.size w w10) := B9.out.trans (b10.mono B9.out.size)
  have K10 : Hid (IRow w10 (some ⟨w5.heap.size, 0, none⟩) ks ∧ SRow w10 (some ⟨w6.heap.size, 0, none⟩) xs ∧ SRow w10 a8 ys) := ⟨K9.out.1.later b10, K9.out.2.1.later b10, K9.out.2.2.later b10⟩
  have X10 : Hid (Mc w10 w8.heap.size m n k f (.slice a8 ys.length ys.length)) := X9.out.later b10
  have M10 : Hid (Mc w10 w.heap.size m n k f (.slice a3 ys.length c3)) := M9.out.later b10
  clear K9 B9 b10 M9 X9
  go_wp2_with fail
  refine (eqIntS_same _ _ _ _ ks w10 K10.out.1 k10 (by omega)).mono ?_
  rintro r w11 ⟨rfl, b11⟩
  have B11 : Hid (Below w.heap.size w w11) := B10.out.trans (b11.mono B10.out.size)
  have K11 : Hid (SRow w11 (some ⟨w6.heap.size, 0, none⟩) xs ∧ SRow w11 a8 ys) := ⟨K10.out.2.1.later b11, K10.out.2.2.later b11⟩
  have X11 : Hid (Mc w11 w8.heap.size m n k f (.slice a8 ys.length ys.length)) := X10.out.later b11
  have M11 : Hid (Mc w11 w.heap.size m n k f (.slice a3 ys.length c3)) := M10.out.later b11
  clear K10 B10 b11 k10 M10 X10
  go_wp2_with fail
  refine (toSealS_any a2 c2 xs w11 (h2.later B11.out) (by omega)).mono ?_
  rintro r w12 ⟨rfl, s12, b12⟩
  have B12 : Hid (Below w.heap.size w w12) := B11.out.trans (b12.mono B11.out.size)
  have K12 : Hid (SRow w12 (some ⟨w6.heap.size, 0, none⟩) xs ∧ SRow w12 a8 ys) := ⟨K11.out.1.later b12, K11.out.2.later b12⟩
  have X12 : Hid (Mc w12 w8.heap.size m n k f (.slice a8 ys.length ys.length)) := X11.out.later b12
  have M12 : Hid (Mc w12 w.heap.size m n k f (.slice a3 ys.length c3)) := M11.out.later b12
  clear K11 B11 b12 M11 X11
  go_wp2_with fail
  refine (eqSealS_same _ _ _ _ xs w12 K12.out.1 s12 (by omega)).mono ?_
  rintro r w13 ⟨rfl, b13⟩
  have B13 : Hid (Below w.heap.size w w13) := B12.out.trans (b13.mono B12.out.size)
  have K13 : Hid (SRow w13 a8 ys) := K12.out.2.later b13
  have X13 : Hid (Mc w13 w8.heap.size m n k f (.slice a8 ys.length ys.length)) := X12.out.later b13
  have M13 : Hid (Mc w13 w.heap.size m n k f (.slice a3 ys.length c3)) := M12.out.later b13
  clear K12 B12 b13 s12 M12 X12
  go_wp2_with fail
  refine wp_region_held_drew (S := fun w' => Mc w' w8.heap.size m n k f (.slice a8 ys.length ys.length) ∧ Mc w' w.heap.size m n k f (.slice a3 ys.length c3)) (by kernel_rfl) ⟨X13.out.later (Below.refl _ _).drew, M13.out.later (Below.refl _ _).drew⟩ (fun hS => ?_)
  refine take1 0 56 (.agg #[.int .i64 m, .int .i64 n, .int .i64 k, .int .i64 f, .slice a8 ys.length ys.length]) rfl rfl (by kernel_rfl) (by kernel_rfl) (by kernel_rfl) (by rfl) (fun _ _ _ h => h) hS (fun w' hS' => ?_) ?_
  · obtain ⟨⟨e0, e1, e2, e3, e4, _⟩, _⟩ := hS'
    (go_simp) <;> (intro hx9; omega)
  simp only [Act.put, List.setIfInBounds_toArray, List.set_cons_zero, List.set_cons_succ]
  refine take1 1 57 (.agg #[.int .i64 m, .int .i64 n, .int .i64 k, .int .i64 f, .slice a3 ys.length c3]) rfl rfl (by kernel_rfl) (by kernel_rfl) (by kernel_rfl) (by rfl) (fun _ _ _ h => h) hS (fun w' hS' => ?_) ?_
  · obtain ⟨_, ⟨e0, e1, e2, e3, e4, _⟩⟩ := hS'
    (go_simp) <;> (intro hx9; omega)
  simp only [Act.put, List.setIfInBounds_toArray, List.set_cons_zero, List.set_cons_succ]
  have B13d : Hid (Below w.heap.size w w13.drew) := B13.out.drew
  have K13d : Hid (SRow w13.drew a8 ys) := K13.out.later (Below.refl _ _).drew
  clear B13 K13 X13 M13
  refine wpAnyH_ready (rs := [2]) (by kernel_rfl) (by simp) ?_
  refine AllReadyH.cons rfl (fun K hK => ?_) AllReadyH.nil
  go_simp
  refine (toMsg_any m n k f a3 c3 ys _ (h3.later B13d.out) (by omega)).mono ?_
  rintro r w14 ⟨⟨a14, rfl, s14⟩, b14⟩
  have B14 : Hid (Below w.heap.size w w14) := B13d.out.trans (b14.mono B13d.out.size)
  have K14 : Hid (SRow w14 a8 ys ∧ SRow w14 a14 ys) := ⟨K13d.out.later b14, s14⟩
  have M14 := And.intro (hS.1.later b14) (hS.2.later b14)
  clear b14 s14 K13d
  refine hK.out _ _ M14 (fun hS => ?_)
  clear hK K M14 B13d
  refine wpAnyH_ready (rs := [3]) (by kernel_rfl) (by simp) ?_
  refine AllReadyH.cons rfl (fun K hK => ?_) AllReadyH.nil
  go_simp
  refine (eqMsg_same m n k f a8 a14 _ _ ys w14 K14.out.1 K14.out.2 (by omega)).mono ?_
  rintro r w15 ⟨rfl, b15⟩
  have B15 : Hid (Below w.heap.size w w15) := B14.out.trans (b15.mono B14.out.size)
  have M15 := And.intro (hS.1.later b15) (hS.2.later b15)
  clear b15 K14
  refine hK.out _ _ M15 (fun hS => ?_)
  clear hK K M15 B14
  refine take1 4 60 (.bool false) rfl rfl (by kernel_rfl) (by kernel_rfl) (by kernel_rfl) (by rfl) (fun _ _ _ h => h) hS (fun w' hS' => ?_) ?_
  · (go_simp) <;> (intro hx9; omega)
  simp only [Act.put, List.setIfInBounds_toArray, List.set_cons_zero, List.set_cons_succ]
  refine wpAnyH_done (by kernel_rfl) ?_ _
  clear hS
  go_wp2_with fail
  go_ret
  exact ⟨rfl, B15.out⟩

theorem lawBuild_any (a1 a2 a3 : Option Addr) (c1 c2 c3 : Nat) (ks : List Int) (xs : List Sl) (m n k f : Int) (ys : List Sl) (w : World) (h1 : IRow w a1 ks) (h2 : SRow w a2 xs) (h3 : SRow w a3 ys) (hx : xs.length ≤ 9223372036854775807) (hy : ys.length ≤ 9223372036854775807) (hf : Forms w) :
    Calls Tryd.prog 3 #[.slice a1 ks.length c1, .slice a2 xs.length c2, .agg #[.int .i64 m, .int .i64 n, .int .i64 k, .int .i64 f, .slice a3 ys.length c3]] w fun r w' => r = .returned (.bool true) ∧ Below w.heap.size w w' := by
  by_cases q1 : 1048576 < ks.length
  · exact lawBuild_long _ _ _ _ _ _ _ _ _ _ _ _ _ w q1
  · by_cases q2 : 1048576 < xs.length
    · exact lawBuild_long2 _ _ _ _ _ _ _ _ _ _ _ _ _ w q1 q2 hx
    · by_cases q3 : 1048576 < xs.length + ys.length
      · exact lawBuild_long3 _ _ _ _ _ _ _ _ _ _ _ _ _ w q1 q2 q3 hy
      · exact lawBuild_short _ _ _ _ _ _ _ _ _ _ _ _ _ w h1 h2 h3 (by omega) (by omega) hf

end Go.Proofs.YtepnijocfilgoaaDoor
