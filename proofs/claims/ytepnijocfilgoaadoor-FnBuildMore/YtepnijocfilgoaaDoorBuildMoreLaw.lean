/-
  The law 'who has more can make no less', walked at every two lists of bytes: it returns true, and nothing that was in memory is turned.
-/
import Derived.Test.YtepnijocfilgoaaDoorDrawnWord
import Derived.Test.YtepnijocfilgoaaDoorKEvery
import Derived.Test.YtepnijocfilgoaaDoorKSkip
import Derived.Deep.DeepCutAuto
import Derived.Deep.CutBlock
namespace Go.Proofs.YtepnijocfilgoaaDoor
open Go.RowKit
attribute [local go_sem ↓] Go.wp_at_zero Go.wp_at_succ

theorem OwnS.grownI {w w' : World} {b1 b2 : Nat} {v1 v2 : Value} {zs : List Int} {xs : List Sl} (h : OwnS w b2 v2 xs) (hk : OwnI w b1 v1 zs) (hg : w.grownBy w' v1.ownBlock) : OwnS w' b2 v2 xs :=
  own_keep h fun g e => by
    obtain ⟨cur, hc⟩ := own_type h e
    refine hg.block g (Array.getElem?_eq_some_iff.1 hc).1 fun e' => ?_
    obtain ⟨cur', hc'⟩ := own_type hk e'.symm
    exact type_ne hc hc' sealNeInt rfl
theorem OwnI.grownS {w w' : World} {b1 b2 : Nat} {v1 v2 : Value} {zs : List Int} {xs : List Sl} (h : OwnI w b1 v1 zs) (hk : OwnS w b2 v2 xs) (hg : w.grownBy w' v2.ownBlock) : OwnI w' b1 v1 zs :=
  own_keep h fun g e => by
    obtain ⟨cur, hc⟩ := own_type h e
    refine hg.block g (Array.getElem?_eq_some_iff.1 hc).1 fun e' => ?_
    obtain ⟨cur', hc'⟩ := own_type hk e'.symm
    exact type_ne hc hc' sealNeInt.symm rfl
theorem getD_mono {ks ks' : List Int} {xs xs' : List Sl} {H H' : List Bool} (h : Right ks xs H) (h' : Right ks' xs' H') (hk : ∀ n ∈ ks, n ∈ ks') (hx : ∀ s ∈ xs, s ∈ xs') {n : Nat} (hn : n < 61) (hb : H.getD n false = true) : H'.getD n false = true :=
  (h'.iff n hn).2 (((h.iff n hn).1 hb).mono hk hx)
theorem build_mono {ks ks' : List Int} {xs xs' ys : List Sl} {H H' : List Bool} {m n k f : Int} (h : Right ks xs H) (h' : Right ks' xs' H') (hk : ∀ n ∈ ks, n ∈ ks') (hx : ∀ s ∈ xs, s ∈ xs') (hb : buildB H xs m n k f ys = true) : buildB H' xs' m n k f ys = true := by
  unfold buildB at hb ⊢
  rw [Bool.and_eq_true, List.all_eq_true] at hb ⊢
  refine ⟨hb.1, fun s hs => ?_⟩
  obtain ⟨k1, k2⟩ := Sl.key_of_ok ((msgB_ok hb.1).1 s hs)
  obtain ⟨i1, i2⟩ := s.inn_nonneg
  have hc := hb.2 s hs
  unfold canB at hc ⊢
  simp only [Bool.or_eq_true, Bool.and_eq_true, decide_eq_true_eq, inS_iff] at hc ⊢
  rcases hc with hc | ⟨hc1, hc2⟩
  · exact Or.inl (hx s hc)
  · exact Or.inr ⟨getD_mono h h' hk hx (by omega) hc1, hc2.imp id (getD_mono h h' hk hx (by omega))⟩
theorem build_every {ys : List Sl} {H : List Bool} {m n k f : Int} (h : Right (everyL 60) [] H) : buildB H [] m n k f ys = msgB m n k f ys := by
  unfold buildB
  cases hm : msgB m n k f ys
  · rfl
  · rw [Bool.true_and, List.all_eq_true]
    intro s hs
    obtain ⟨k1, k2⟩ := Sl.key_of_ok ((msgB_ok hm).1 s hs)
    have key : ∀ z : Int, 1 ≤ z → z ≤ 60 → H.getD z.toNat false = true := fun z h1 h2 => (h.iff z.toNat (by omega)).2 (by rw [Int.toNat_of_nonneg (by omega)]; exact .had (mem_everyL.2 ⟨h1, by omega⟩) h1 h2)
    unfold canB
    rw [key s.k k1 k2]
    rcases s.inn_cases with hi | hi
    · simp [hi]
    · rw [key s.inn (by omega) (by omega)]; simp
theorem build_own {ys : List Sl} {H : List Bool} {m n k f : Int} : buildB H ys m n k f ys = msgB m n k f ys := by
  unfold buildB
  cases hm : msgB m n k f ys
  · rfl
  · rw [Bool.true_and, List.all_eq_true]
    intro s hs
    unfold canB
    rw [inS_true hs]; rfl

set_option maxRecDepth 100000 in
set_option maxHeartbeats 1000000 in
theorem buildMore_long (a b : Option Addr) (len cap len2 cap2 : Nat) (w : World) (h : 1048576 < (len : Int) ∨ 1048576 < (len2 : Int)) :
    Calls Tryd.prog 7 #[.slice a len cap, .slice b len2 cap2] w fun r w' => r = .returned (.bool true) ∧ Below w.heap.size w w' := by
  by_cases h1 : 1048576 < (len : Int)
  · clear h
    go_enter Tryd.func7, Tryd.ntmps7
    go_wp2_with fail
    go_ret
    exact ⟨rfl, Below.refl _ _⟩
  · have h2 : 1048576 < (len2 : Int) := h.resolve_left h1
    clear h
    go_enter Tryd.func7, Tryd.ntmps7
    go_wp2_with fail
    go_ret
    exact ⟨rfl, Below.refl _ _⟩

set_option maxRecDepth 100000 in
set_option maxHeartbeats 8000000 in
theorem buildMore_short (a b : Option Addr) (len cap len2 cap2 : Nat) (w : World) (h : (len : Int) ≤ 1048576) (h' : (len2 : Int) ≤ 1048576) (hc : Code w a len cap) (hc2 : Code w b len2 cap2) (hf : Forms w) :
    Calls Tryd.prog 7 #[.slice a len cap, .slice b len2 cap2] w fun r w' => r = .returned (.bool true) ∧ Below w.heap.size w w' := by
  obtain ⟨i0, hi, hz0, hz1, hz2⟩ := info_parts infoInt
  go_enter Tryd.func7, Tryd.ntmps7
  go_wp2_with fail
  refine (drawBuild_any a len cap w hc).mono ?_
  rintro r w1 ⟨a1, c1, ks, a2, c2, xs, m, n, k, f, a3, c3, ys, rfl, d1, r1, hy⟩
  have f1 := d1.few1
  have f2 := d1.few2
  have E1 : Hid (Dw w a1 ks a2 xs a3 ys w1.heap.size m n k f (.slice a3 ys.length c3) (w1.alloc (.cells #[.int .i64 m, .int .i64 n, .int .i64 k, .int .i64 f, .slice a3 ys.length c3] 33))) := Dw.of d1 r1 hf
  have HC : Hid (Code (w1.alloc (.cells #[.int .i64 m, .int .i64 n, .int .i64 k, .int .i64 f, .slice a3 ys.length c3] 33)) b len2 cap2) := (hc2.below d1.below).below (Below.alloc_ _ _)
  obtain ⟨H, hR⟩ := right_any ks xs
  have HR : Hid (Right ks xs H) := hR
  clear d1 r1 hc hR hc2
  go_wp2_with fail
  refine (drawKeys_any b len2 cap2 _ HC.out).mono ?_
  rintro r w2 ⟨a4, c4, ks2, a5, c5, xs2, rfl, d2⟩
  have f3 := d2.few1
  have f4 := d2.few2
  have E2 : Hid (Dw w a1 ks a2 xs a3 ys w1.heap.size m n k f (.slice a3 ys.length c3) w2 ∧ IRow w2 a4 ks2 ∧ SRow w2 a5 xs2) := ⟨E1.out.later d2.below, d2.keys, d2.seals⟩
  clear E1 d2 HC
  obtain ⟨e0, e1, e2, e3, e4⟩ := E2.out.1.mc
  go_wp2_with fail
  refine (implBuild_any a1 a2 a3 c1 c2 c3 ks xs m n k f ys _ H HR.out E2.out.1.dr.keys E2.out.1.dr.seals E2.out.1.row (by omega) (by omega) (by omega) E2.out.1.fo).mono ?_
  rintro r w3 ⟨rfl, b3⟩
  have E3 : Hid (Dw w a1 ks a2 xs a3 ys w1.heap.size m n k f (.slice a3 ys.length c3) w3 ∧ IRow w3 a4 ks2 ∧ SRow w3 a5 xs2) := ⟨E2.out.1.later b3, E2.out.2.1.later b3, E2.out.2.2.later b3⟩
  clear E2 b3 e0 e1 e2 e3 e4
  obtain ⟨bb, hbb⟩ : ∃ bb, buildB H xs m n k f ys = bb := ⟨_, rfl⟩
  have HB : Hid (buildB H xs m n k f ys = bb) := hbb
  rw [hbb]
  clear hbb
  obtain ⟨e0, e1, e2, e3, e4⟩ := E3.out.1.mc
  go_wp2_with fail
  refine (specBuild_any a1 a2 a3 c1 c2 c3 ks xs m n k f ys _ H HR.out E3.out.1.dr.keys E3.out.1.dr.seals E3.out.1.row (by omega) (by omega) (by omega)).mono ?_
  rintro r w4 ⟨rfl, b4⟩
  have E4 : Hid (Dw w a1 ks a2 xs a3 ys w1.heap.size m n k f (.slice a3 ys.length c3) w4 ∧ IRow w4 a4 ks2 ∧ SRow w4 a5 xs2) := ⟨E3.out.1.later b4, E3.out.2.1.later b4, E3.out.2.2.later b4⟩
  clear E3 b4 e0 e1 e2 e3 e4
  rw [HB.out]
  have hbb : (bb != bb) = false := by cases bb <;> rfl
  have T0 : Hid (Ev w4 0 (.slice (some ⟨w4.heap.size, 0, none⟩) 0 0) (w4.alloc (.cells #[] 3))) := ⟨OwnI.zero w4 _ rfl (Nat.le_refl _), Below.alloc_ _ _⟩
  go_wp2_with fail
  go_loopw [11, 12] (fun v k wr => ∃ (m : Nat), m ≤ 60 ∧ k = .int .i64 ((m : Int) + 1) ∧ Hid (Ev w4 m v wr)) (fun _ k _ => 61 - (intOf k).toNat)
  case atStart => exact ⟨0, Nat.zero_le _, rfl, T0⟩
  case round =>
    obtain ⟨m', hm, rfl, C⟩ := hrel
    clear T0
    by_cases hlt : m' < 60
    · have hle : (m' : Int) + 1 ≤ 60 := by omega
      have hel := everyL_len m'
      have hsz := C.out.below.size
      go_wp2_with (first
        | (at_builtin; refine wpList_append_own_at _ rfl _ _ 22 rfl w4.heap.size 3 i0 (.int .i64 0) 1 8 Tryd.underlying22 hi hz0 hz1 hz2 rfl (by decide) _ _ _ rfl (World.ownsRow.alloc C.out.own _) ⟨wr.heap.size, 0, none⟩ 1 1 [.int .i64 ((m' : Int) + 1)] rfl rfl (cell_one_new _ _ _) (ints_one .i64 _) (by unfold maxLen; omega) (by omega) (by simp; omega) ?_; intro v' w6 hown' hgrow hnil hloc)
        | go_in)
      go_roundw
      case rel =>
        refine ⟨m' + 1, by omega, by first | rfl | (congr 1; omega) | (simp; omega), ?_, (C.out.below.alloc C.out.below.size _).grown hgrow (by simp; omega) (OwnI.lo C.out.own)⟩
        rw [everyL_succ]
        simpa [OwnI] using hown'
      case measure => simp [intOf]; omega
    · obtain rfl : m' = 60 := by omega
      have o5 := C.out.own
      obtain ⟨ab, cb, rfl, i5⟩ := o5.row
      have hel := everyL_len 60
      have E5 : Hid ((Dw w a1 ks a2 xs a3 ys w1.heap.size m n k f (.slice a3 ys.length c3) wr ∧ IRow wr a4 ks2 ∧ SRow wr a5 xs2) ∧ IRow wr ab (everyL 60)) := ⟨⟨E4.out.1.later C.out.below, E4.out.2.1.later C.out.below, E4.out.2.2.later C.out.below⟩, i5⟩
      clear o5 i5 C E4
      rw [hel, show ((60 : Nat) : Int) + 1 = 61 from rfl]
      go_upto_region 13 with fail
      go_cut [66] (fun v wc => v = .bool false ∧ Hid (Below wr.heap.size wr wc))
      case first =>
        have hbd : Below wr.heap.size wr wr.drew := (Below.refl _ _).drew
        cases bb
        · refine wp_region_held_drew (S := fun _ => True) (by kernel_rfl) trivial (fun hS => ?_)
          refine take1 0 51 (.bool false) rfl rfl (by kernel_rfl) (by kernel_rfl) (by kernel_rfl) (by rfl) (fun _ _ _ h => h) hS (fun w' hS' => ?_) ?_
          · (go_simp) <;> (intro hx9; omega)
          simp only [Act.put, List.setIfInBounds_toArray, List.set_cons_zero, List.set_cons_succ]
          refine take1 1 52 (.bool false) rfl rfl (by kernel_rfl) (by kernel_rfl) (by kernel_rfl) (by rfl) (fun _ _ _ h => h) hS (fun w' hS' => ?_) ?_
          · (go_simp) <;> (intro hx9; omega)
          simp only [Act.put, List.setIfInBounds_toArray, List.set_cons_zero, List.set_cons_succ]
          refine skip1 2 53 rfl rfl (by kernel_rfl) (by kernel_rfl) (by kernel_rfl) (by rfl) (fun _ _ _ h => h) hS ?_
          simp only [Act.put, List.setIfInBounds_toArray, List.set_cons_zero, List.set_cons_succ]
          refine skip1 3 54 rfl rfl (by kernel_rfl) (by kernel_rfl) (by kernel_rfl) (by rfl) (fun _ _ _ h => h) hS ?_
          simp only [Act.put, List.setIfInBounds_toArray, List.set_cons_zero, List.set_cons_succ]
          refine skip1 4 55 rfl rfl (by kernel_rfl) (by kernel_rfl) (by kernel_rfl) (by rfl) (fun _ _ _ h => h) hS ?_
          simp only [Act.put, List.setIfInBounds_toArray, List.set_cons_zero, List.set_cons_succ]
          refine skip1 5 56 rfl rfl (by kernel_rfl) (by kernel_rfl) (by kernel_rfl) (by rfl) (fun _ _ _ h => h) hS ?_
          simp only [Act.put, List.setIfInBounds_toArray, List.set_cons_zero, List.set_cons_succ]
          refine skip1 6 57 rfl rfl (by kernel_rfl) (by kernel_rfl) (by kernel_rfl) (by rfl) (fun _ _ _ h => h) hS ?_
          simp only [Act.put, List.setIfInBounds_toArray, List.set_cons_zero, List.set_cons_succ]
          refine skip1 7 58 rfl rfl (by kernel_rfl) (by kernel_rfl) (by kernel_rfl) (by rfl) (fun _ _ _ h => h) hS ?_
          simp only [Act.put, List.setIfInBounds_toArray, List.set_cons_zero, List.set_cons_succ]
          refine skip1 8 59 rfl rfl (by kernel_rfl) (by kernel_rfl) (by kernel_rfl) (by rfl) (fun _ _ _ h => h) hS ?_
          simp only [Act.put, List.setIfInBounds_toArray, List.set_cons_zero, List.set_cons_succ]
          refine skip1 9 60 rfl rfl (by kernel_rfl) (by kernel_rfl) (by kernel_rfl) (by rfl) (fun _ _ _ h => h) hS ?_
          simp only [Act.put, List.setIfInBounds_toArray, List.set_cons_zero, List.set_cons_succ]
          refine skip1 10 61 rfl rfl (by kernel_rfl) (by kernel_rfl) (by kernel_rfl) (by rfl) (fun _ _ _ h => h) hS ?_
          simp only [Act.put, List.setIfInBounds_toArray, List.set_cons_zero, List.set_cons_succ]
          refine skip1 11 62 rfl rfl (by kernel_rfl) (by kernel_rfl) (by kernel_rfl) (by rfl) (fun _ _ _ h => h) hS ?_
          simp only [Act.put, List.setIfInBounds_toArray, List.set_cons_zero, List.set_cons_succ]
          refine skip1 12 63 rfl rfl (by kernel_rfl) (by kernel_rfl) (by kernel_rfl) (by rfl) (fun _ _ _ h => h) hS ?_
          simp only [Act.put, List.setIfInBounds_toArray, List.set_cons_zero, List.set_cons_succ]
          refine skip1 13 64 rfl rfl (by kernel_rfl) (by kernel_rfl) (by kernel_rfl) (by rfl) (fun _ _ _ h => h) hS ?_
          simp only [Act.put, List.setIfInBounds_toArray, List.set_cons_zero, List.set_cons_succ]
          refine skip1 14 65 rfl rfl (by kernel_rfl) (by kernel_rfl) (by kernel_rfl) (by rfl) (fun _ _ _ h => h) hS ?_
          simp only [Act.put, List.setIfInBounds_toArray, List.set_cons_zero, List.set_cons_succ]
          refine take1 15 66 (.bool false) rfl rfl (by kernel_rfl) (by kernel_rfl) (by kernel_rfl) (by rfl) (fun _ _ _ h => h) hS (fun w' hS' => ?_) ?_
          · (go_simp) <;> (intro hx9; omega)
          simp only [Act.put, List.setIfInBounds_toArray, List.set_cons_zero, List.set_cons_succ]
          refine wpAnyH_done (by kernel_rfl) ?_ _
          clear hS
          go_wp2_with fail
          go_meet
          case rel => exact ⟨rfl, hbd⟩
        · refine wp_region_held_drew (S := fun w' => Mw w' w1.heap.size m n k f (.slice a3 ys.length c3)) (by kernel_rfl) (E5.out.1.1.later hbd).mc (fun hS => ?_)
          have E5' : Hid ((Dw w a1 ks a2 xs a3 ys w1.heap.size m n k f (.slice a3 ys.length c3) wr.drew ∧ IRow wr.drew a4 ks2 ∧ SRow wr.drew a5 xs2) ∧ IRow wr.drew ab (everyL 60)) := ⟨⟨E5.out.1.1.later hbd, E5.out.1.2.1.later hbd, E5.out.1.2.2.later hbd⟩, E5.out.2.later hbd⟩
          have HBD : Hid (Below wr.heap.size wr wr.drew) := hbd
          clear E5 hbd
          have E5 := E5'
          clear E5'
          generalize wr.drew = WD at E5 HBD hS ⊢
          obtain ⟨Z, hZ⟩ : ∃ Z, Z = WD.heap.size := ⟨_, rfl⟩
          have HZ : Hid (Z = WD.heap.size) := hZ
          clear hZ
          have F4 : Hid (Below WD.heap.size WD WD) := Below.refl _ _
          refine take1 0 51 (.bool true) rfl rfl (by kernel_rfl) (by kernel_rfl) (by kernel_rfl) (by rfl) (fun _ _ _ h => h) hS (fun w' hS' => ?_) ?_
          · (go_simp) <;> (intro hx9; omega)
          simp only [Act.put, List.setIfInBounds_toArray, List.set_cons_zero, List.set_cons_succ]
          refine take1 1 52 (.bool true) rfl rfl (by kernel_rfl) (by kernel_rfl) (by kernel_rfl) (by rfl) (fun _ _ _ h => h) hS (fun w' hS' => ?_) ?_
          · (go_simp) <;> (intro hx9; omega)
          simp only [Act.put, List.setIfInBounds_toArray, List.set_cons_zero, List.set_cons_succ]
          refine take1 3 54 (.slice a1 ks.length c1) rfl rfl (by kernel_rfl) (by kernel_rfl) (by kernel_rfl) (by rfl) (fun _ _ _ h => h) hS (fun w' hS' => ?_) ?_
          · (go_simp) <;> (intro hx9; omega)
          simp only [Act.put, List.setIfInBounds_toArray, List.set_cons_zero, List.set_cons_succ]
          refine take1 5 56 (.slice a4 ks2.length c4) rfl rfl (by kernel_rfl) (by kernel_rfl) (by kernel_rfl) (by rfl) (fun _ _ _ h => h) hS (fun w' hS' => ?_) ?_
          · (go_simp) <;> (intro hx9; omega)
          simp only [Act.put, List.setIfInBounds_toArray, List.set_cons_zero, List.set_cons_succ]
          refine take1 8 59 (.slice a2 xs.length c2) rfl rfl (by kernel_rfl) (by kernel_rfl) (by kernel_rfl) (by rfl) (fun _ _ _ h => h) hS (fun w' hS' => ?_) ?_
          · (go_simp) <;> (intro hx9; omega)
          simp only [Act.put, List.setIfInBounds_toArray, List.set_cons_zero, List.set_cons_succ]
          refine take1 10 61 (.slice a5 xs2.length c5) rfl rfl (by kernel_rfl) (by kernel_rfl) (by kernel_rfl) (by rfl) (fun _ _ _ h => h) hS (fun w' hS' => ?_) ?_
          · (go_simp) <;> (intro hx9; omega)
          simp only [Act.put, List.setIfInBounds_toArray, List.set_cons_zero, List.set_cons_succ]
          refine take1 12 63 (.agg #[.int .i64 m, .int .i64 n, .int .i64 k, .int .i64 f, .slice a3 ys.length c3]) rfl rfl (by kernel_rfl) (by kernel_rfl) (by kernel_rfl) (by rfl) (fun _ _ _ h => h) hS (fun w' hS' => ?_) ?_
          · obtain ⟨e0, e1, e2, e3, e4⟩ := hS'
            (go_simp) <;> (intro hx9; omega)
          simp only [Act.put, List.setIfInBounds_toArray, List.set_cons_zero, List.set_cons_succ]
          refine wpAnyH_ready (rs := [2, 7]) (by kernel_rfl) (by simp) ?_
          refine AllReadyH.cons rfl (fun K hK => ?_) (AllReadyH.cons rfl (fun K hK => ?_) AllReadyH.nil)
          · go_simp
            have F5 : Hid (Below WD.heap.size WD (WD.alloc (.cells #[] 3))) := F4.out.trans ((Below.alloc_ _ _).mono F4.out.size)
            have O5 : Hid (OwnI (WD.alloc (.cells #[] 3)) Z (.slice (some ⟨WD.heap.size, 0, none⟩) 0 0) []) := OwnI.zero WD _ rfl (by rw [HZ.out]; exact F4.out.size)
            obtain ⟨p, hp⟩ : ∃ p, p = WD.heap.size := ⟨_, rfl⟩
            rw [← hp] at O5 ⊢
            clear hp
            generalize (WD.alloc (.cells #[] 3)) = w5' at F5 O5 ⊢
            refine hK.out _ _ (E5.out.1.1.later F5.out).mc (fun hS => ?_)
            clear hK K
            refine wpAnyH_ready (rs := [4, 7]) (by kernel_rfl) (by simp) ?_
            refine AllReadyH.cons rfl (fun K hK => ?_) (AllReadyH.cons rfl (fun K hK => ?_) AllReadyH.nil)
            · rw [if_pos (by rfl)]
              refine wp_app_ints _ _ rfl Z _ [] rfl O5.out a1 ks c1 rfl (E5.out.1.1.later F5.out).dr.keys (by simp; omega) (by rw [HZ.out]; exact F5.out.size) ?_
              intro b4 c4' w6' o6 g6
              rw [List.nil_append] at o6 ⊢
              have F6 : Hid (Below WD.heap.size WD w6') := F5.out.grown g6 F5.out.size (by rw [← HZ.out]; exact O5.out.lo)
              have O6 : Hid (OwnI w6' Z (.slice b4 ks.length c4') ks) := o6
              clear o6 g6
              refine hK.out _ _ (E5.out.1.1.later F6.out).mc (fun hS => ?_)
              clear hK K
              refine wpAnyH_ready (rs := [6, 7]) (by kernel_rfl) (by simp) ?_
              refine AllReadyH.cons rfl (fun K hK => ?_) (AllReadyH.cons rfl (fun K hK => ?_) AllReadyH.nil)
              · rw [if_pos (by rfl)]
                refine wp_app_ints _ _ rfl Z _ ks rfl O6.out a4 ks2 c4 rfl (E5.out.1.2.1.later F6.out) (by omega) (by rw [HZ.out]; exact F6.out.size) ?_
                intro b6 c6 w7' o7 g7
                have F7 : Hid (Below WD.heap.size WD w7') := F6.out.grown g7 F6.out.size (by rw [← HZ.out]; exact O6.out.lo)
                have O7 : Hid (OwnI w7' Z (.slice b6 (ks ++ ks2).length c6) (ks ++ ks2)) := o7
                clear o7 g7
                refine hK.out _ _ (E5.out.1.1.later F7.out).mc (fun hS => ?_)
                clear hK K
                refine wpAnyH_ready (rs := [7]) (by kernel_rfl) (by simp) ?_
                refine AllReadyH.cons rfl (fun K hK => ?_) AllReadyH.nil
                go_simp
                have F8 : Hid (Below WD.heap.size WD (w7'.alloc (.cells #[] 45))) := F7.out.trans ((Below.alloc_ _ _).mono F7.out.size)
                have O8 : Hid (OwnI (w7'.alloc (.cells #[] 45)) Z (.slice b6 (ks ++ ks2).length c6) (ks ++ ks2)) := O7.out.later (Below.alloc_ _ _)
                have P8 : Hid (OwnS (w7'.alloc (.cells #[] 45)) Z (.slice (some ⟨w7'.heap.size, 0, none⟩) 0 0) []) := OwnS.zero w7' (by rw [HZ.out]; exact F7.out.size)
                obtain ⟨q, hq⟩ : ∃ q, q = w7'.heap.size := ⟨_, rfl⟩
                rw [← hq] at P8 ⊢
                clear hq
                generalize (w7'.alloc (.cells #[] 45)) = w8' at F8 O8 P8 ⊢
                refine hK.out _ _ (E5.out.1.1.later F8.out).mc (fun hS => ?_)
                clear hK K
                refine wpAnyH_ready (rs := [9]) (by kernel_rfl) (by simp) ?_
                refine AllReadyH.cons rfl (fun K hK => ?_) AllReadyH.nil
                rw [if_pos (by rfl)]
                refine wp_app_seals _ _ rfl Z _ [] rfl P8.out a2 xs c2 rfl (E5.out.1.1.later F8.out).dr.seals (by simp; omega) (by rw [HZ.out]; exact F8.out.size) ?_
                intro b9 c9 w9' o9 g9
                rw [List.nil_append] at o9 ⊢
                have F9 : Hid (Below WD.heap.size WD w9') := F8.out.grown g9 F8.out.size (by rw [← HZ.out]; exact P8.out.lo)
                have P9 : Hid (OwnS w9' Z (.slice b9 xs.length c9) xs) := o9
                have O9 : Hid (OwnI w9' Z (.slice b6 (ks ++ ks2).length c6) (ks ++ ks2)) := OwnI.grownS O8.out P8.out g9
                clear o9 g9
                refine hK.out _ _ (E5.out.1.1.later F9.out).mc (fun hS => ?_)
                clear hK K
                refine wpAnyH_ready (rs := [11]) (by kernel_rfl) (by simp) ?_
                refine AllReadyH.cons rfl (fun K hK => ?_) AllReadyH.nil
                rw [if_pos (by rfl)]
                refine wp_app_seals _ _ rfl Z _ xs rfl P9.out a5 xs2 c5 rfl (E5.out.1.2.2.later F9.out) (by omega) (by rw [HZ.out]; exact F9.out.size) ?_
                intro b11 c11 w10' o11 g11
                have F10 : Hid (Below WD.heap.size WD w10') := F9.out.grown g11 F9.out.size (by rw [← HZ.out]; exact P9.out.lo)
                have P10 : Hid (OwnS w10' Z (.slice b11 (xs ++ xs2).length c11) (xs ++ xs2)) := o11
                have O10 : Hid (OwnI w10' Z (.slice b6 (ks ++ ks2).length c6) (ks ++ ks2)) := OwnI.grownS O9.out P9.out g11
                clear o11 g11
                refine hK.out _ _ (E5.out.1.1.later F10.out).mc (fun hS => ?_)
                clear hK K
                refine wpAnyH_ready (rs := [13]) (by kernel_rfl) (by simp) ?_
                refine AllReadyH.cons rfl (fun K hK => ?_) AllReadyH.nil
                go_simp
                obtain ⟨H2, hR2⟩ := right_any (ks ++ ks2) (xs ++ xs2)
                have q13 := implBuild_any b6 b11 a3 c6 c11 c3 (ks ++ ks2) (xs ++ xs2) m n k f ys w10' H2 hR2 (OwnI.rowAt O10.out) (OwnS.rowAt P10.out) (E5.out.1.1.later F10.out).row (by simp; omega) (by simp; omega) (by omega) (E5.out.1.1.later F10.out).fo
                rw [List.length_append, List.length_append, build_mono HR.out hR2 (fun _ h => List.mem_append_left _ h) (fun _ h => List.mem_append_left _ h) HB.out] at q13
                refine q13.mono ?_
                rintro r w11' ⟨rfl, b13⟩
                have F11 : Hid (Below WD.heap.size WD w11') := F10.out.trans (b13.mono F10.out.size)
                clear q13 b13 hR2
                refine hK.out _ _ (E5.out.1.1.later F11.out).mc (fun hS => ?_)
                clear hK K
                refine take1 14 65 (.bool false) rfl rfl (by kernel_rfl) (by kernel_rfl) (by kernel_rfl) (by rfl) (fun _ _ _ h => h) hS (fun w' hS' => ?_) ?_
                · (go_simp) <;> (intro hx9; omega)
                simp only [Act.put, List.setIfInBounds_toArray, List.set_cons_zero, List.set_cons_succ]
                refine take1 15 66 (.bool false) rfl rfl (by kernel_rfl) (by kernel_rfl) (by kernel_rfl) (by rfl) (fun _ _ _ h => h) hS (fun w' hS' => ?_) ?_
                · (go_simp) <;> (intro hx9; omega)
                simp only [Act.put, List.setIfInBounds_toArray, List.set_cons_zero, List.set_cons_succ]
                refine wpAnyH_done (by kernel_rfl) ?_ _
                clear hS
                go_wp2_with fail
                go_meet
                case rel => exact ⟨rfl, HBD.out.trans (F11.out.mono HBD.out.size)⟩
              · go_simp
                have F7 : Hid (Below WD.heap.size WD (w6'.alloc (.cells #[] 45))) := F6.out.trans ((Below.alloc_ _ _).mono F6.out.size)
                have O7 : Hid (OwnI (w6'.alloc (.cells #[] 45)) Z (.slice b4 ks.length c4') ks) := O6.out.later (Below.alloc_ _ _)
                have P7 : Hid (OwnS (w6'.alloc (.cells #[] 45)) Z (.slice (some ⟨w6'.heap.size, 0, none⟩) 0 0) []) := OwnS.zero w6' (by rw [HZ.out]; exact F6.out.size)
                obtain ⟨q, hq⟩ : ∃ q, q = w6'.heap.size := ⟨_, rfl⟩
                rw [← hq] at P7 ⊢
                clear hq
                generalize (w6'.alloc (.cells #[] 45)) = w7' at F7 O7 P7 ⊢
                refine hK.out _ _ (E5.out.1.1.later F7.out).mc (fun hS => ?_)
                clear hK K
                refine wpAnyH_ready (rs := [6]) (by kernel_rfl) (by simp) ?_
                refine AllReadyH.cons rfl (fun K hK => ?_) AllReadyH.nil
                rw [if_pos (by rfl)]
                refine wp_app_ints _ _ rfl Z _ ks rfl O7.out a4 ks2 c4 rfl (E5.out.1.2.1.later F7.out) (by omega) (by rw [HZ.out]; exact F7.out.size) ?_
                intro b6 c6 w8' o8 g8
                have F8 : Hid (Below WD.heap.size WD w8') := F7.out.grown g8 F7.out.size (by rw [← HZ.out]; exact O7.out.lo)
                have O8 : Hid (OwnI w8' Z (.slice b6 (ks ++ ks2).length c6) (ks ++ ks2)) := o8
                have P8 : Hid (OwnS w8' Z (.slice (some ⟨q, 0, none⟩) 0 0) []) := OwnS.grownI P7.out O7.out g8
                clear o8 g8
                refine hK.out _ _ (E5.out.1.1.later F8.out).mc (fun hS => ?_)
                clear hK K
                refine wpAnyH_ready (rs := [9]) (by kernel_rfl) (by simp) ?_
                refine AllReadyH.cons rfl (fun K hK => ?_) AllReadyH.nil
                rw [if_pos (by rfl)]
                refine wp_app_seals _ _ rfl Z _ [] rfl P8.out a2 xs c2 rfl (E5.out.1.1.later F8.out).dr.seals (by simp; omega) (by rw [HZ.out]; exact F8.out.size) ?_
                intro b9 c9 w9' o9 g9
                rw [List.nil_append] at o9 ⊢
                have F9 : Hid (Below WD.heap.size WD w9') := F8.out.grown g9 F8.out.size (by rw [← HZ.out]; exact P8.out.lo)
                have P9 : Hid (OwnS w9' Z (.slice b9 xs.length c9) xs) := o9
                have O9 : Hid (OwnI w9' Z (.slice b6 (ks ++ ks2).length c6) (ks ++ ks2)) := OwnI.grownS O8.out P8.out g9
                clear o9 g9
                refine hK.out _ _ (E5.out.1.1.later F9.out).mc (fun hS => ?_)
                clear hK K
                refine wpAnyH_ready (rs := [11]) (by kernel_rfl) (by simp) ?_
                refine AllReadyH.cons rfl (fun K hK => ?_) AllReadyH.nil
                rw [if_pos (by rfl)]
                refine wp_app_seals _ _ rfl Z _ xs rfl P9.out a5 xs2 c5 rfl (E5.out.1.2.2.later F9.out) (by omega) (by rw [HZ.out]; exact F9.out.size) ?_
                intro b11 c11 w10' o11 g11
                have F10 : Hid (Below WD.heap.size WD w10') := F9.out.grown g11 F9.out.size (by rw [← HZ.out]; exact P9.out.lo)
                have P10 : Hid (OwnS w10' Z (.slice b11 (xs ++ xs2).length c11) (xs ++ xs2)) := o11
                have O10 : Hid (OwnI w10' Z (.slice b6 (ks ++ ks2).length c6) (ks ++ ks2)) := OwnI.grownS O9.out P9.out g11
                clear o11 g11
                refine hK.out _ _ (E5.out.1.1.later F10.out).mc (fun hS => ?_)
                clear hK K
                refine wpAnyH_ready (rs := [13]) (by kernel_rfl) (by simp) ?_
                refine AllReadyH.cons rfl (fun K hK => ?_) AllReadyH.nil
                go_simp
                obtain ⟨H2, hR2⟩ := right_any (ks ++ ks2) (xs ++ xs2)
                have q13 := implBuild_any b6 b11 a3 c6 c11 c3 (ks ++ ks2) (xs ++ xs2) m n k f ys w10' H2 hR2 (OwnI.rowAt O10.out) (OwnS.rowAt P10.out) (E5.out.1.1.later F10.out).row (by simp; omega) (by simp; omega) (by omega) (E5.out.1.1.later F10.out).fo
                rw [List.length_append, List.length_append, build_mono HR.out hR2 (fun _ h => List.mem_append_left _ h) (fun _ h => List.mem_append_left _ h) HB.out] at q13
                refine q13.mono ?_
                rintro r w11' ⟨rfl, b13⟩
                have F11 : Hid (Below WD.heap.size WD w11') := F10.out.trans (b13.mono F10.out.size)
                clear q13 b13 hR2
                refine hK.out _ _ (E5.out.1.1.later F11.out).mc (fun hS => ?_)
                clear hK K
                refine take1 14 65 (.bool false) rfl rfl (by kernel_rfl) (by kernel_rfl) (by kernel_rfl) (by rfl) (fun _ _ _ h => h) hS (fun w' hS' => ?_) ?_
                · (go_simp) <;> (intro hx9; omega)
                simp only [Act.put, List.setIfInBounds_toArray, List.set_cons_zero, List.set_cons_succ]
                refine take1 15 66 (.bool false) rfl rfl (by kernel_rfl) (by kernel_rfl) (by kernel_rfl) (by rfl) (fun _ _ _ h => h) hS (fun w' hS' => ?_) ?_
                · (go_simp) <;> (intro hx9; omega)
                simp only [Act.put, List.setIfInBounds_toArray, List.set_cons_zero, List.set_cons_succ]
                refine wpAnyH_done (by kernel_rfl) ?_ _
                clear hS
                go_wp2_with fail
                go_meet
                case rel => exact ⟨rfl, HBD.out.trans (F11.out.mono HBD.out.size)⟩
            · go_simp
              have F6 : Hid (Below WD.heap.size WD (w5'.alloc (.cells #[] 45))) := F5.out.trans ((Below.alloc_ _ _).mono F5.out.size)
              have O6 : Hid (OwnI (w5'.alloc (.cells #[] 45)) Z (.slice (some ⟨p, 0, none⟩) 0 0) []) := O5.out.later (Below.alloc_ _ _)
              have P6 : Hid (OwnS (w5'.alloc (.cells #[] 45)) Z (.slice (some ⟨w5'.heap.size, 0, none⟩) 0 0) []) := OwnS.zero w5' (by rw [HZ.out]; exact F5.out.size)
              obtain ⟨q, hq⟩ : ∃ q, q = w5'.heap.size := ⟨_, rfl⟩
              rw [← hq] at P6 ⊢
              clear hq
              generalize (w5'.alloc (.cells #[] 45)) = w6' at F6 O6 P6 ⊢
              refine hK.out _ _ (E5.out.1.1.later F6.out).mc (fun hS => ?_)
              clear hK K
              refine wpAnyH_ready (rs := [4]) (by kernel_rfl) (by simp) ?_
              refine AllReadyH.cons rfl (fun K hK => ?_) AllReadyH.nil
              rw [if_pos (by rfl)]
              refine wp_app_ints _ _ rfl Z _ [] rfl O6.out a1 ks c1 rfl (E5.out.1.1.later F6.out).dr.keys (by simp; omega) (by rw [HZ.out]; exact F6.out.size) ?_
              intro b4 c4' w7' o7 g7
              rw [List.nil_append] at o7 ⊢
              have F7 : Hid (Below WD.heap.size WD w7') := F6.out.grown g7 F6.out.size (by rw [← HZ.out]; exact O6.out.lo)
              have O7 : Hid (OwnI w7' Z (.slice b4 ks.length c4') ks) := o7
              have P7 : Hid (OwnS w7' Z (.slice (some ⟨q, 0, none⟩) 0 0) []) := OwnS.grownI P6.out O6.out g7
              clear o7 g7
              refine hK.out _ _ (E5.out.1.1.later F7.out).mc (fun hS => ?_)
              clear hK K
              refine wpAnyH_ready (rs := [6]) (by kernel_rfl) (by simp) ?_
              refine AllReadyH.cons rfl (fun K hK => ?_) AllReadyH.nil
              rw [if_pos (by rfl)]
              refine wp_app_ints _ _ rfl Z _ ks rfl O7.out a4 ks2 c4 rfl (E5.out.1.2.1.later F7.out) (by omega) (by rw [HZ.out]; exact F7.out.size) ?_
              intro b6 c6 w8' o8 g8
              have F8 : Hid (Below WD.heap.size WD w8') := F7.out.grown g8 F7.out.size (by rw [← HZ.out]; exact O7.out.lo)
              have O8 : Hid (OwnI w8' Z (.slice b6 (ks ++ ks2).length c6) (ks ++ ks2)) := o8
              have P8 : Hid (OwnS w8' Z (.slice (some ⟨q, 0, none⟩) 0 0) []) := OwnS.grownI P7.out O7.out g8
              clear o8 g8
              refine hK.out _ _ (E5.out.1.1.later F8.out).mc (fun hS => ?_)
              clear hK K
              refine wpAnyH_ready (rs := [9]) (by kernel_rfl) (by simp) ?_
              refine AllReadyH.cons rfl (fun K hK => ?_) AllReadyH.nil
              rw [if_pos (by rfl)]
              refine wp_app_seals _ _ rfl Z _ [] rfl P8.out a2 xs c2 rfl (E5.out.1.1.later F8.out).dr.seals (by simp; omega) (by rw [HZ.out]; exact F8.out.size) ?_
              intro b9 c9 w9' o9 g9
              rw [List.nil_append] at o9 ⊢
              have F9 : Hid (Below WD.heap.size WD w9') := F8.out.grown g9 F8.out.size (by rw [← HZ.out]; exact P8.out.lo)
              have P9 : Hid (OwnS w9' Z (.slice b9 xs.length c9) xs) := o9
              have O9 : Hid (OwnI w9' Z (.slice b6 (ks ++ ks2).length c6) (ks ++ ks2)) := OwnI.grownS O8.out P8.out g9
              clear o9 g9
              refine hK.out _ _ (E5.out.1.1.later F9.out).mc (fun hS => ?_)
              clear hK K
              refine wpAnyH_ready (rs := [11]) (by kernel_rfl) (by simp) ?_
              refine AllReadyH.cons rfl (fun K hK => ?_) AllReadyH.nil
              rw [if_pos (by rfl)]
              refine wp_app_seals _ _ rfl Z _ xs rfl P9.out a5 xs2 c5 rfl (E5.out.1.2.2.later F9.out) (by omega) (by rw [HZ.out]; exact F9.out.size) ?_
              intro b11 c11 w10' o11 g11
              have F10 : Hid (Below WD.heap.size WD w10') := F9.out.grown g11 F9.out.size (by rw [← HZ.out]; exact P9.out.lo)
              have P10 : Hid (OwnS w10' Z (.slice b11 (xs ++ xs2).length c11) (xs ++ xs2)) := o11
              have O10 : Hid (OwnI w10' Z (.slice b6 (ks ++ ks2).length c6) (ks ++ ks2)) := OwnI.grownS O9.out P9.out g11
              clear o11 g11
              refine hK.out _ _ (E5.out.1.1.later F10.out).mc (fun hS => ?_)
              clear hK K
              refine wpAnyH_ready (rs := [13]) (by kernel_rfl) (by simp) ?_
              refine AllReadyH.cons rfl (fun K hK => ?_) AllReadyH.nil
              go_simp
              obtain ⟨H2, hR2⟩ := right_any (ks ++ ks2) (xs ++ xs2)
              have q13 := implBuild_any b6 b11 a3 c6 c11 c3 (ks ++ ks2) (xs ++ xs2) m n k f ys w10' H2 hR2 (OwnI.rowAt O10.out) (OwnS.rowAt P10.out) (E5.out.1.1.later F10.out).row (by simp; omega) (by simp; omega) (by omega) (E5.out.1.1.later F10.out).fo
              rw [List.length_append, List.length_append, build_mono HR.out hR2 (fun _ h => List.mem_append_left _ h) (fun _ h => List.mem_append_left _ h) HB.out] at q13
              refine q13.mono ?_
              rintro r w11' ⟨rfl, b13⟩
              have F11 : Hid (Below WD.heap.size WD w11') := F10.out.trans (b13.mono F10.out.size)
              clear q13 b13 hR2
              refine hK.out _ _ (E5.out.1.1.later F11.out).mc (fun hS => ?_)
              clear hK K
              refine take1 14 65 (.bool false) rfl rfl (by kernel_rfl) (by kernel_rfl) (by kernel_rfl) (by rfl) (fun _ _ _ h => h) hS (fun w' hS' => ?_) ?_
              · (go_simp) <;> (intro hx9; omega)
              simp only [Act.put, List.setIfInBounds_toArray, List.set_cons_zero, List.set_cons_succ]
              refine take1 15 66 (.bool false) rfl rfl (by kernel_rfl) (by kernel_rfl) (by kernel_rfl) (by rfl) (fun _ _ _ h => h) hS (fun w' hS' => ?_) ?_
              · (go_simp) <;> (intro hx9; omega)
              simp only [Act.put, List.setIfInBounds_toArray, List.set_cons_zero, List.set_cons_succ]
              refine wpAnyH_done (by kernel_rfl) ?_ _
              clear hS
              go_wp2_with fail
              go_meet
              case rel => exact ⟨rfl, HBD.out.trans (F11.out.mono HBD.out.size)⟩
          · go_simp
            have F5 : Hid (Below WD.heap.size WD (WD.alloc (.cells #[] 45))) := F4.out.trans ((Below.alloc_ _ _).mono F4.out.size)
            have P5 : Hid (OwnS (WD.alloc (.cells #[] 45)) Z (.slice (some ⟨WD.heap.size, 0, none⟩) 0 0) []) := OwnS.zero WD (by rw [HZ.out]; exact F4.out.size)
            obtain ⟨q, hq⟩ : ∃ q, q = WD.heap.size := ⟨_, rfl⟩
            rw [← hq] at P5 ⊢
            clear hq
            generalize (WD.alloc (.cells #[] 45)) = w5' at F5 P5 ⊢
            refine hK.out _ _ (E5.out.1.1.later F5.out).mc (fun hS => ?_)
            clear hK K
            refine wpAnyH_ready (rs := [2]) (by kernel_rfl) (by simp) ?_
            refine AllReadyH.cons rfl (fun K hK => ?_) AllReadyH.nil
            go_simp
            have F6 : Hid (Below WD.heap.size WD (w5'.alloc (.cells #[] 3))) := F5.out.trans ((Below.alloc_ _ _).mono F5.out.size)
            have P6 : Hid (OwnS (w5'.alloc (.cells #[] 3)) Z (.slice (some ⟨q, 0, none⟩) 0 0) []) := OwnS.later P5.out (Below.alloc_ _ _)
            have O6 : Hid (OwnI (w5'.alloc (.cells #[] 3)) Z (.slice (some ⟨w5'.heap.size, 0, none⟩) 0 0) []) := OwnI.zero w5' _ rfl (by rw [HZ.out]; exact F5.out.size)
            obtain ⟨p, hp⟩ : ∃ p, p = w5'.heap.size := ⟨_, rfl⟩
            rw [← hp] at O6 ⊢
            clear hp
            generalize (w5'.alloc (.cells #[] 3)) = w6' at F6 P6 O6 ⊢
            refine hK.out _ _ (E5.out.1.1.later F6.out).mc (fun hS => ?_)
            clear hK K
            refine wpAnyH_ready (rs := [4]) (by kernel_rfl) (by simp) ?_
            refine AllReadyH.cons rfl (fun K hK => ?_) AllReadyH.nil
            rw [if_pos (by rfl)]
            refine wp_app_ints _ _ rfl Z _ [] rfl O6.out a1 ks c1 rfl (E5.out.1.1.later F6.out).dr.keys (by simp; omega) (by rw [HZ.out]; exact F6.out.size) ?_
            intro b4 c4' w7' o7 g7
            rw [List.nil_append] at o7 ⊢
            have F7 : Hid (Below WD.heap.size WD w7') := F6.out.grown g7 F6.out.size (by rw [← HZ.out]; exact O6.out.lo)
            have O7 : Hid (OwnI w7' Z (.slice b4 ks.length c4') ks) := o7
            have P7 : Hid (OwnS w7' Z (.slice (some ⟨q, 0, none⟩) 0 0) []) := OwnS.grownI P6.out O6.out g7
            clear o7 g7
            refine hK.out _ _ (E5.out.1.1.later F7.out).mc (fun hS => ?_)
            clear hK K
            refine wpAnyH_ready (rs := [6]) (by kernel_rfl) (by simp) ?_
            refine AllReadyH.cons rfl (fun K hK => ?_) AllReadyH.nil
            rw [if_pos (by rfl)]
            refine wp_app_ints _ _ rfl Z _ ks rfl O7.out a4 ks2 c4 rfl (E5.out.1.2.1.later F7.out) (by omega) (by rw [HZ.out]; exact F7.out.size) ?_
            intro b6 c6 w8' o8 g8
            have F8 : Hid (Below WD.heap.size WD w8') := F7.out.grown g8 F7.out.size (by rw [← HZ.out]; exact O7.out.lo)
            have O8 : Hid (OwnI w8' Z (.slice b6 (ks ++ ks2).length c6) (ks ++ ks2)) := o8
            have P8 : Hid (OwnS w8' Z (.slice (some ⟨q, 0, none⟩) 0 0) []) := OwnS.grownI P7.out O7.out g8
            clear o8 g8
            refine hK.out _ _ (E5.out.1.1.later F8.out).mc (fun hS => ?_)
            clear hK K
            refine wpAnyH_ready (rs := [9]) (by kernel_rfl) (by simp) ?_
            refine AllReadyH.cons rfl (fun K hK => ?_) AllReadyH.nil
            rw [if_pos (by rfl)]
            refine wp_app_seals _ _ rfl Z _ [] rfl P8.out a2 xs c2 rfl (E5.out.1.1.later F8.out).dr.seals (by simp; omega) (by rw [HZ.out]; exact F8.out.size) ?_
            intro b9 c9 w9' o9 g9
            rw [List.nil_append] at o9 ⊢
            have F9 : Hid (Below WD.heap.size WD w9') := F8.out.grown g9 F8.out.size (by rw [← HZ.out]; exact P8.out.lo)
            have P9 : Hid (OwnS w9' Z (.slice b9 xs.length c9) xs) := o9
            have O9 : Hid (OwnI w9' Z (.slice b6 (ks ++ ks2).length c6) (ks ++ ks2)) := OwnI.grownS O8.out P8.out g9
            clear o9 g9
            refine hK.out _ _ (E5.out.1.1.later F9.out).mc (fun hS => ?_)
            clear hK K
            refine wpAnyH_ready (rs := [11]) (by kernel_rfl) (by simp) ?_
            refine AllReadyH.cons rfl (fun K hK => ?_) AllReadyH.nil
            rw [if_pos (by rfl)]
            refine wp_app_seals _ _ rfl Z _ xs rfl P9.out a5 xs2 c5 rfl (E5.out.1.2.2.later F9.out) (by omega) (by rw [HZ.out]; exact F9.out.size) ?_
            intro b11 c11 w10' o11 g11
            have F10 : Hid (Below WD.heap.size WD w10') := F9.out.grown g11 F9.out.size (by rw [← HZ.out]; exact P9.out.lo)
            have P10 : Hid (OwnS w10' Z (.slice b11 (xs ++ xs2).length c11) (xs ++ xs2)) := o11
            have O10 : Hid (OwnI w10' Z (.slice b6 (ks ++ ks2).length c6) (ks ++ ks2)) := OwnI.grownS O9.out P9.out g11
            clear o11 g11
            refine hK.out _ _ (E5.out.1.1.later F10.out).mc (fun hS => ?_)
            clear hK K
            refine wpAnyH_ready (rs := [13]) (by kernel_rfl) (by simp) ?_
            refine AllReadyH.cons rfl (fun K hK => ?_) AllReadyH.nil
            go_simp
            obtain ⟨H2, hR2⟩ := right_any (ks ++ ks2) (xs ++ xs2)
            have q13 := implBuild_any b6 b11 a3 c6 c11 c3 (ks ++ ks2) (xs ++ xs2) m n k f ys w10' H2 hR2 (OwnI.rowAt O10.out) (OwnS.rowAt P10.out) (E5.out.1.1.later F10.out).row (by simp; omega) (by simp; omega) (by omega) (E5.out.1.1.later F10.out).fo
            rw [List.length_append, List.length_append, build_mono HR.out hR2 (fun _ h => List.mem_append_left _ h) (fun _ h => List.mem_append_left _ h) HB.out] at q13
            refine q13.mono ?_
            rintro r w11' ⟨rfl, b13⟩
            have F11 : Hid (Below WD.heap.size WD w11') := F10.out.trans (b13.mono F10.out.size)
            clear q13 b13 hR2
            refine hK.out _ _ (E5.out.1.1.later F11.out).mc (fun hS => ?_)
            clear hK K
            refine take1 14 65 (.bool false) rfl rfl (by kernel_rfl) (by kernel_rfl) (by kernel_rfl) (by rfl) (fun _ _ _ h => h) hS (fun w' hS' => ?_) ?_
            · (go_simp) <;> (intro hx9; omega)
            simp only [Act.put, List.setIfInBounds_toArray, List.set_cons_zero, List.set_cons_succ]
            refine take1 15 66 (.bool false) rfl rfl (by kernel_rfl) (by kernel_rfl) (by kernel_rfl) (by rfl) (fun _ _ _ h => h) hS (fun w' hS' => ?_) ?_
            · (go_simp) <;> (intro hx9; omega)
            simp only [Act.put, List.setIfInBounds_toArray, List.set_cons_zero, List.set_cons_succ]
            refine wpAnyH_done (by kernel_rfl) ?_ _
            clear hS
            go_wp2_with fail
            go_meet
            case rel => exact ⟨rfl, HBD.out.trans (F11.out.mono HBD.out.size)⟩
      case rest =>
        obtain ⟨rfl, HH⟩ := hcut
        have E6 : Hid (Dw w a1 ks a2 xs a3 ys w1.heap.size m n k f (.slice a3 ys.length c3) wc ∧ IRow wc ab (everyL 60)) := ⟨E5.out.1.1.later HH.out, E5.out.2.later HH.out⟩
        clear E5 HH
        go_wp2_with fail
        have hbd : Below wc.heap.size wc wc.drew := (Below.refl _ _).drew
        refine wp_region_held_drew (S := fun w' => Mw w' w1.heap.size m n k f (.slice a3 ys.length c3)) (by kernel_rfl) (E6.out.1.later hbd).mc (fun hS => ?_)
        have E7 : Hid (Dw w a1 ks a2 xs a3 ys w1.heap.size m n k f (.slice a3 ys.length c3) wc.drew ∧ IRow wc.drew ab (everyL 60)) := ⟨E6.out.1.later hbd, E6.out.2.later hbd⟩
        clear E6 hbd
        generalize wc.drew = WE at E7 hS ⊢
        have HM : Hid (∃ mb, mb = msgB m n k f ys) := ⟨_, rfl⟩
        obtain ⟨mb, hmb⟩ := HM.out
        have HMB : Hid (msgB m n k f ys = mb) := hmb.symm
        clear HM hmb
        refine take1 0 67 (.slice ab 60 cb) rfl rfl (by kernel_rfl) (by kernel_rfl) (by kernel_rfl) (by rfl) (fun _ _ _ h => h) hS (fun w' hS' => ?_) ?_
        · (go_simp) <;> (intro hx9; omega)
        simp only [Act.put, List.setIfInBounds_toArray, List.set_cons_zero, List.set_cons_succ]
        refine take1 1 68 (.agg #[.int .i64 m, .int .i64 n, .int .i64 k, .int .i64 f, .slice a3 ys.length c3]) rfl rfl (by kernel_rfl) (by kernel_rfl) (by kernel_rfl) (by rfl) (fun _ _ _ h => h) hS (fun w' hS' => ?_) ?_
        · obtain ⟨e0, e1, e2, e3, e4⟩ := hS'
          (go_simp) <;> (intro hx9; omega)
        simp only [Act.put, List.setIfInBounds_toArray, List.set_cons_zero, List.set_cons_succ]
        refine take1 3 70 (.agg #[.int .i64 m, .int .i64 n, .int .i64 k, .int .i64 f, .slice a3 ys.length c3]) rfl rfl (by kernel_rfl) (by kernel_rfl) (by kernel_rfl) (by rfl) (fun _ _ _ h => h) hS (fun w' hS' => ?_) ?_
        · obtain ⟨e0, e1, e2, e3, e4⟩ := hS'
          (go_simp) <;> (intro hx9; omega)
        simp only [Act.put, List.setIfInBounds_toArray, List.set_cons_zero, List.set_cons_succ]
        refine wpAnyH_ready (rs := [2]) (by kernel_rfl) (by simp) ?_
        refine AllReadyH.cons rfl (fun K hK => ?_) AllReadyH.nil
        go_simp
        obtain ⟨H2, hR2⟩ := right_any (everyL 60) []
        have q2 := implBuild_any ab none a3 cb 0 c3 (everyL 60) [] m n k f ys WE H2 hR2 E7.out.2 (Or.inl rfl) E7.out.1.row (by omega) (by simp) (by omega) E7.out.1.fo
        rw [hel, build_every hR2, HMB.out] at q2
        refine q2.mono ?_
        rintro r w7 ⟨rfl, b7⟩
        have E8 : Hid (Dw w a1 ks a2 xs a3 ys w1.heap.size m n k f (.slice a3 ys.length c3) w7) := E7.out.1.later b7
        clear q2 b7 hR2 E7
        refine hK.out _ _ E8.out.mc (fun hS => ?_)
        clear hK K
        refine wpAnyH_ready (rs := [4]) (by kernel_rfl) (by simp) ?_
        refine AllReadyH.cons rfl (fun K hK => ?_) AllReadyH.nil
        go_simp
        refine (implMsg_any m n k f a3 c3 ys _ E8.out.row (by omega) E8.out.fo).mono ?_
        rintro r w8 ⟨rfl, b8⟩
        rw [HMB.out]
        have E9 : Hid (Dw w a1 ks a2 xs a3 ys w1.heap.size m n k f (.slice a3 ys.length c3) w8) := E8.out.later b8
        clear b8 E8
        have hee : (mb == mb) = true := by cases mb <;> rfl
        refine hK.out _ _ E9.out.mc (fun hS => ?_)
        clear hK K
        refine take1 5 72 (.bool true) rfl rfl (by kernel_rfl) (by kernel_rfl) (by kernel_rfl) (by rfl) (fun _ _ _ h => h) hS (fun w' hS' => ?_) ?_
        · (go_simp) <;> (intro hx9; omega)
        simp only [Act.put, List.setIfInBounds_toArray, List.set_cons_zero, List.set_cons_succ]
        refine take1 6 73 (.bool true) rfl rfl (by kernel_rfl) (by kernel_rfl) (by kernel_rfl) (by rfl) (fun _ _ _ h => h) hS (fun w' hS' => ?_) ?_
        · (go_simp) <;> (intro hx9; omega)
        simp only [Act.put, List.setIfInBounds_toArray, List.set_cons_zero, List.set_cons_succ]
        refine take1 7 74 (.pointer (some ⟨w1.heap.size, 4, none⟩)) rfl rfl (by kernel_rfl) (by kernel_rfl) (by kernel_rfl) (by rfl) (fun _ _ _ h => h) hS (fun w' hS' => ?_) ?_
        · (go_simp) <;> (intro hx9; omega)
        simp only [Act.put, List.setIfInBounds_toArray, List.set_cons_zero, List.set_cons_succ]
        refine take1 8 75 (.slice a3 ys.length c3) rfl rfl (by kernel_rfl) (by kernel_rfl) (by kernel_rfl) (by rfl) (fun _ _ _ h => h) hS (fun w' hS' => ?_) ?_
        · obtain ⟨e0, e1, e2, e3, e4⟩ := hS'
          (go_simp) <;> (intro hx9; omega)
        simp only [Act.put, List.setIfInBounds_toArray, List.set_cons_zero, List.set_cons_succ]
        refine take1 9 76 (.agg #[.int .i64 m, .int .i64 n, .int .i64 k, .int .i64 f, .slice a3 ys.length c3]) rfl rfl (by kernel_rfl) (by kernel_rfl) (by kernel_rfl) (by rfl) (fun _ _ _ h => h) hS (fun w' hS' => ?_) ?_
        · obtain ⟨e0, e1, e2, e3, e4⟩ := hS'
          (go_simp) <;> (intro hx9; omega)
        simp only [Act.put, List.setIfInBounds_toArray, List.set_cons_zero, List.set_cons_succ]
        refine take1 11 78 (.agg #[.int .i64 m, .int .i64 n, .int .i64 k, .int .i64 f, .slice a3 ys.length c3]) rfl rfl (by kernel_rfl) (by kernel_rfl) (by kernel_rfl) (by rfl) (fun _ _ _ h => h) hS (fun w' hS' => ?_) ?_
        · obtain ⟨e0, e1, e2, e3, e4⟩ := hS'
          (go_simp) <;> (intro hx9; omega)
        simp only [Act.put, List.setIfInBounds_toArray, List.set_cons_zero, List.set_cons_succ]
        refine wpAnyH_ready (rs := [10]) (by kernel_rfl) (by simp) ?_
        refine AllReadyH.cons rfl (fun K hK => ?_) AllReadyH.nil
        go_simp
        obtain ⟨H3, hR3⟩ := right_any [] ys
        have q3 := implBuild_any none a3 a3 0 c3 c3 [] ys m n k f ys w8 H3 hR3 (Or.inl rfl) E9.out.row E9.out.row (by simp) (by omega) (by omega) E9.out.fo
        rw [build_own, HMB.out] at q3
        refine q3.mono ?_
        rintro r w9 ⟨rfl, b9⟩
        have E10 : Hid (Dw w a1 ks a2 xs a3 ys w1.heap.size m n k f (.slice a3 ys.length c3) w9) := E9.out.later b9
        clear q3 b9 hR3 E9
        refine hK.out _ _ E10.out.mc (fun hS => ?_)
        clear hK K
        refine wpAnyH_ready (rs := [12]) (by kernel_rfl) (by simp) ?_
        refine AllReadyH.cons rfl (fun K hK => ?_) AllReadyH.nil
        go_simp
        refine (implMsg_any m n k f a3 c3 ys _ E10.out.row (by omega) E10.out.fo).mono ?_
        rintro r w10 ⟨rfl, b10⟩
        rw [HMB.out]
        have E11 : Hid (Dw w a1 ks a2 xs a3 ys w1.heap.size m n k f (.slice a3 ys.length c3) w10) := E10.out.later b10
        clear b10 E10
        refine hK.out _ _ E11.out.mc (fun hS => ?_)
        clear hK K
        refine take1 13 80 (.bool true) rfl rfl (by kernel_rfl) (by kernel_rfl) (by kernel_rfl) (by rfl) (fun _ _ _ h => h) hS (fun w' hS' => ?_) ?_
        · (go_simp) <;> (intro hx9; omega)
        simp only [Act.put, List.setIfInBounds_toArray, List.set_cons_zero, List.set_cons_succ]
        refine take1 14 81 (.bool true) rfl rfl (by kernel_rfl) (by kernel_rfl) (by kernel_rfl) (by rfl) (fun _ _ _ h => h) hS (fun w' hS' => ?_) ?_
        · (go_simp) <;> (intro hx9; omega)
        simp only [Act.put, List.setIfInBounds_toArray, List.set_cons_zero, List.set_cons_succ]
        refine take1 15 4 (.bool true) rfl rfl (by kernel_rfl) (by kernel_rfl) (by kernel_rfl) (by rfl) (fun _ _ _ h => h) hS (fun w' hS' => ?_) ?_
        · (go_simp) <;> (intro hx9; omega)
        simp only [Act.put, List.setIfInBounds_toArray, List.set_cons_zero, List.set_cons_succ]
        refine wpAnyH_done (by kernel_rfl) ?_ _
        clear hS
        go_wp2_with fail
        go_ret
        exact ⟨rfl, E11.out.dr.below⟩

end Go.Proofs.YtepnijocfilgoaaDoor

