/-
  The law 'what one makes tells one nothing new', walked at every list of bytes: it returns true, and nothing that was in memory is turned.
-/
import Derived.Test.YtepnijocfilgoaaDoorDrawnWord
import Derived.Test.YtepnijocfilgoaaDoorKnowKeysI
import Derived.Test.YtepnijocfilgoaaDoorIntLb
namespace Go.Proofs.YtepnijocfilgoaaDoor
open Go.RowKit
attribute [local go_sem ↓] Go.wp_at_zero Go.wp_at_succ

theorem Right.made {ks : List Int} {xs ys : List Sl} {H : List Bool} (h : Right ks xs H) {m n k f : Int} (hb : buildB H xs m n k f ys = true) (z : Int) : Come ks (xs ++ ys) z ↔ Come ks xs z := by
  unfold buildB at hb
  rw [Bool.and_eq_true, List.all_eq_true] at hb
  refine ⟨Come.back (fun _ hm => Or.inl hm) (fun s hs => ?_), Come.mono (fun _ h => h) (fun _ h => List.mem_append_left _ h)⟩
  rcases List.mem_append.1 hs with hs | hs
  · exact Or.inl hs
  · have hc := hb.2 s hs
    unfold canB at hc
    rw [Bool.or_eq_true] at hc
    rcases hc with hc | hc
    · exact Or.inl (inS_iff.1 hc)
    · refine Or.inr fun hi _ => ?_
      rw [Bool.and_eq_true, Bool.or_eq_true] at hc
      rcases hc.2 with q | q
      · exact absurd (of_decide_eq_true q) hi
      · obtain ⟨h1, h2⟩ := s.inn_nonneg
        have := (h.iff s.inn.toNat (by omega)).1 q
        rwa [Int.toNat_of_nonneg h1] at this

set_option maxRecDepth 100000 in
set_option maxHeartbeats 1000000 in
theorem knowNothing_long (a : Option Addr) (len cap : Nat) (w : World) (h : 1048576 < (len : Int)) :
    Calls Tryd.prog 4 #[.slice a len cap] w fun r w' => r = .returned (.bool true) ∧ Below w.heap.size w w' := by
  go_enter Tryd.func4, Tryd.ntmps4
  go_wp2_with fail
  go_ret
  exact ⟨rfl, Below.refl _ _⟩

set_option maxRecDepth 100000 in
set_option maxHeartbeats 8000000 in
theorem knowNothing_short (a : Option Addr) (len cap : Nat) (w : World) (h : (len : Int) ≤ 1048576) (hc : Code w a len cap) (hf : Forms w) :
    Calls Tryd.prog 4 #[.slice a len cap] w fun r w' => r = .returned (.bool true) ∧ Below w.heap.size w w' := by
  go_enter Tryd.func4, Tryd.ntmps4
  go_wp2_with fail
  refine (drawBuild_any a len cap w hc).mono ?_
  rintro r w1 ⟨a1, c1, ks, a2, c2, xs, m, n, k, f, a3, c3, ys, rfl, d1, r1, hy⟩
  have f1 := d1.few1
  have f2 := d1.few2
  have E1 : Hid (Dw w a1 ks a2 xs a3 ys w1.heap.size m n k f (.slice a3 ys.length c3) (w1.alloc (.cells #[.int .i64 m, .int .i64 n, .int .i64 k, .int .i64 f, .slice a3 ys.length c3] 33))) := Dw.of d1 r1 hf
  obtain ⟨H, hR⟩ := right_any ks xs
  have HR : Hid (Right ks xs H) := hR
  clear d1 r1 hc hR
  go_wp2_with fail
  refine (implBuild_any a1 a2 a3 c1 c2 c3 ks xs m n k f ys _ H HR.out E1.out.dr.keys E1.out.dr.seals E1.out.row (by omega) (by omega) (by omega) E1.out.fo).mono ?_
  rintro r w2 ⟨rfl, b2⟩
  have E2 : Hid (Dw w a1 ks a2 xs a3 ys w1.heap.size m n k f (.slice a3 ys.length c3) w2) := E1.out.later b2
  clear E1 b2
  obtain ⟨bb, hbb⟩ : ∃ bb, buildB H xs m n k f ys = bb := ⟨_, rfl⟩
  have HB : Hid (buildB H xs m n k f ys = bb) := hbb
  rw [hbb]
  clear hbb
  obtain ⟨e0, e1, e2, e3, e4⟩ := E2.out.mc
  go_wp2_with fail
  refine (specBuild_any a1 a2 a3 c1 c2 c3 ks xs m n k f ys _ H HR.out E2.out.dr.keys E2.out.dr.seals E2.out.row (by omega) (by omega) (by omega)).mono ?_
  rintro r w3 ⟨rfl, b3⟩
  have E3 : Hid (Dw w a1 ks a2 xs a3 ys w1.heap.size m n k f (.slice a3 ys.length c3) w3) := E2.out.later b3
  clear E2 b3 e0 e1 e2 e3 e4
  rw [HB.out]
  obtain ⟨e0, e1, e2, e3, e4⟩ := E3.out.mc
  cases bb
  · go_wp2_with fail
    refine (specBuild_any a1 a2 a3 c1 c2 c3 ks xs m n k f ys _ H HR.out E3.out.dr.keys E3.out.dr.seals E3.out.row (by omega) (by omega) (by omega)).mono ?_
    rintro r w4 ⟨rfl, b4⟩
    have E4 : Hid (Dw w a1 ks a2 xs a3 ys w1.heap.size m n k f (.slice a3 ys.length c3) w4) := E3.out.later b4
    clear E3 b4 e0 e1 e2 e3 e4
    rw [HB.out]
    go_wp2_with fail
    go_ret
    exact ⟨rfl, E4.out.dr.below⟩
  · have D3 : Hid (Dw w a1 ks a2 xs a3 ys w1.heap.size m n k f (.slice a3 ys.length c3) w3.drew) := E3.out.later (Below.refl _ _).drew
    have HM : Hid (∀ z, Come ks (xs ++ ys) z ↔ Come ks xs z) := fun z => HR.out.made HB.out z
    clear E3
    go_wp2_with fail
    clear e0 e1 e2 e3 e4
    refine wp_region_held_drew (S := fun w' => w'.cell? ⟨w1.heap.size, 4, none⟩ = some (.slice a3 ys.length c3)) (by kernel_rfl) D3.out.mc.c4 (fun hS => ?_)
    generalize w3.drew = WD at D3 hS ⊢
    refine take1 0 36 (.slice a1 ks.length c1) rfl rfl (by kernel_rfl) (by kernel_rfl) (by kernel_rfl) (by rfl) (fun _ _ _ h => h) hS (fun w' hS' => ?_) ?_
    · (go_simp) <;> (intro hx9; omega)
    simp only [Act.put, List.setIfInBounds_toArray, List.set_cons_zero, List.set_cons_succ]
    refine take1 2 38 (.slice a2 xs.length c2) rfl rfl (by kernel_rfl) (by kernel_rfl) (by kernel_rfl) (by rfl) (fun _ _ _ h => h) hS (fun w' hS' => ?_) ?_
    · (go_simp) <;> (intro hx9; omega)
    simp only [Act.put, List.setIfInBounds_toArray, List.set_cons_zero, List.set_cons_succ]
    refine take1 4 40 (.pointer (some ⟨w1.heap.size, 4, none⟩)) rfl rfl (by kernel_rfl) (by kernel_rfl) (by kernel_rfl) (by rfl) (fun _ _ _ h => h) hS (fun w' hS' => ?_) ?_
    · (go_simp) <;> (intro hx9; omega)
    simp only [Act.put, List.setIfInBounds_toArray, List.set_cons_zero, List.set_cons_succ]
    refine take1 5 41 (.slice a3 ys.length c3) rfl rfl (by kernel_rfl) (by kernel_rfl) (by kernel_rfl) (by rfl) (fun _ _ _ h => h) hS (fun w' hS' => ?_) ?_
    · have e4 := hS'
      (go_simp) <;> (intro hx9; omega)
    simp only [Act.put, List.setIfInBounds_toArray, List.set_cons_zero, List.set_cons_succ]
    refine take1 8 44 (.slice a1 ks.length c1) rfl rfl (by kernel_rfl) (by kernel_rfl) (by kernel_rfl) (by rfl) (fun _ _ _ h => h) hS (fun w' hS' => ?_) ?_
    · (go_simp) <;> (intro hx9; omega)
    simp only [Act.put, List.setIfInBounds_toArray, List.set_cons_zero, List.set_cons_succ]
    refine take1 9 45 (.slice a2 xs.length c2) rfl rfl (by kernel_rfl) (by kernel_rfl) (by kernel_rfl) (by rfl) (fun _ _ _ h => h) hS (fun w' hS' => ?_) ?_
    · (go_simp) <;> (intro hx9; omega)
    simp only [Act.put, List.setIfInBounds_toArray, List.set_cons_zero, List.set_cons_succ]
    refine wpAnyH_ready (rs := [1]) (by kernel_rfl) (by simp) ?_
    refine AllReadyH.cons rfl (fun K hK => ?_) AllReadyH.nil
    go_simp
    have ab := Below.alloc_ WD (.cells #[] 45)
    have D5 : Hid (Dw w a1 ks a2 xs a3 ys w1.heap.size m n k f (.slice a3 ys.length c3) (WD.alloc (.cells #[] 45)) ∧ OwnS (WD.alloc (.cells #[] 45)) WD.heap.size (.slice (some ⟨WD.heap.size, 0, none⟩) 0 0) [] ∧ WD.heap.size ≤ (WD.alloc (.cells #[] 45)).heap.size) := ⟨D3.out.later ab, OwnS.zero _ (Nat.le_refl _), ab.size⟩
    have B5 : Hid (Below WD.heap.size WD (WD.alloc (.cells #[] 45))) := ab
    refine hK.out _ _ D5.out.1.mc.c4 (fun hS => ?_)
    clear hK K ab
    refine wpAnyH_ready (rs := [3]) (by kernel_rfl) (by simp) ?_
    refine AllReadyH.cons rfl (fun K hK => ?_) AllReadyH.nil
    rw [if_pos (by rfl)]
    refine wp_app_seals _ _ rfl WD.heap.size _ [] rfl D5.out.2.1 a2 xs c2 rfl D5.out.1.dr.seals (by simp; omega) D5.out.2.2 ?_
    intro b6 c6 w6 o6 g6
    rw [List.nil_append] at o6 ⊢
    have B6 : Hid (Below WD.heap.size WD w6) := B5.out.grown g6 B5.out.size D5.out.2.1.lo
    have D6 : Hid (Dw w a1 ks a2 xs a3 ys w1.heap.size m n k f (.slice a3 ys.length c3) w6 ∧ OwnS w6 WD.heap.size (.slice b6 xs.length c6) xs) := ⟨D3.out.later B6.out, o6⟩
    refine hK.out _ _ D6.out.1.mc.c4 (fun hS => ?_)
    clear hK K D5 B5 o6 g6
    refine wpAnyH_ready (rs := [6]) (by kernel_rfl) (by simp) ?_
    refine AllReadyH.cons rfl (fun K hK => ?_) AllReadyH.nil
    rw [if_pos (by rfl)]
    refine wp_app_seals _ _ rfl WD.heap.size _ xs rfl D6.out.2 a3 ys c3 rfl D6.out.1.row (by omega) B6.out.size ?_
    intro b7 c7 w7 o7 g7
    have B7 : Hid (Below WD.heap.size WD w7) := B6.out.grown g7 B6.out.size D6.out.2.lo
    have D7 : Hid (Dw w a1 ks a2 xs a3 ys w1.heap.size m n k f (.slice a3 ys.length c3) w7 ∧ SRow w7 b7 (xs ++ ys)) := ⟨D3.out.later B7.out, OwnS.rowAt o7⟩
    refine hK.out _ _ D7.out.1.mc.c4 (fun hS => ?_)
    clear hK K D6 B6 o7 g7 B7 D3
    refine wpAnyH_ready (rs := [7]) (by kernel_rfl) (by simp) ?_
    refine AllReadyH.cons rfl (fun K hK => ?_) AllReadyH.nil
    go_simp
    have q8 := implKeys_any a1 b7 c1 c7 ks (xs ++ ys) w7 D7.out.1.dr.keys D7.out.2 (by omega) (by simp; omega)
    rw [List.length_append] at q8
    refine q8.mono ?_
    rintro r w8 ⟨⟨v8, H8, rfl, hR8, o8⟩, b8⟩
    obtain rfl : H8 = H := hR8.one HR.out HM.out
    obtain ⟨a8, c8, rfl, i8⟩ := o8.row
    have D8 : Hid (Dw w a1 ks a2 xs a3 ys w1.heap.size m n k f (.slice a3 ys.length c3) w8 ∧ IRow w8 a8 (keysOf H8 61)) := ⟨D7.out.1.later b8, i8⟩
    have hkl := keysOf_len H8 61
    refine hK.out _ _ D8.out.1.mc.c4 (fun hS => ?_)
    clear hK K D7 q8 b8 i8 o8 hR8
    refine wpAnyH_ready (rs := [10]) (by kernel_rfl) (by simp) ?_
    refine AllReadyH.cons rfl (fun K hK => ?_) AllReadyH.nil
    go_simp
    refine (implKeys_any a1 a2 c1 c2 ks xs w8 D8.out.1.dr.keys D8.out.1.dr.seals (by omega) (by omega)).mono ?_
    rintro r w9 ⟨⟨v9, H9, rfl, hR9, o9⟩, b9⟩
    obtain rfl : H8 = H9 := HR.out.one hR9 (fun _ => Iff.rfl)
    obtain ⟨a9, c9, rfl, i9⟩ := o9.row
    have D9 : Hid (Dw w a1 ks a2 xs a3 ys w1.heap.size m n k f (.slice a3 ys.length c3) w9 ∧ IRow w9 a8 (keysOf H8 61) ∧ IRow w9 a9 (keysOf H8 61)) := ⟨D8.out.1.later b9, D8.out.2.later b9, i9⟩
    refine hK.out _ _ D9.out.1.mc.c4 (fun hS => ?_)
    clear hK K D8 b9 i9 o9 hR9
    refine wpAnyH_ready (rs := [11]) (by kernel_rfl) (by simp) ?_
    refine AllReadyH.cons rfl (fun K hK => ?_) AllReadyH.nil
    go_simp
    refine (lbInts_same a8 a9 c8 c9 (keysOf H8 61) w9 D9.out.2.1 D9.out.2.2 (by omega)).mono ?_
    rintro r w10 ⟨rfl, b10⟩
    have D10 : Hid (Dw w a1 ks a2 xs a3 ys w1.heap.size m n k f (.slice a3 ys.length c3) w10) := D9.out.1.later b10
    refine hK.out _ _ D10.out.mc.c4 (fun hS => ?_)
    clear hK K D9 b10
    refine take1 12 2 (.bool true) rfl rfl (by kernel_rfl) (by kernel_rfl) (by kernel_rfl) (by rfl) (fun _ _ _ h => h) hS (fun w' hS' => ?_) ?_
    · (go_simp) <;> (intro hx9; omega)
    simp only [Act.put, List.setIfInBounds_toArray, List.set_cons_zero, List.set_cons_succ]
    refine wpAnyH_done (by kernel_rfl) ?_ _
    clear hS
    go_wp2_with fail
    go_ret
    exact ⟨rfl, D10.out.dr.below⟩

end Go.Proofs.YtepnijocfilgoaaDoor
