/-
  The program's ways of what is remembered: a ring that is filled, gone round once, and listed; nothing that was in memory is turned.
-/
import Derived.Test.YtghajmfjekfdpaaDoorKdcRing
import Derived.Test.YtghajmfjekfdpaaDoorSlIndex
import Derived.Test.YtghajmfjekfdpaaDoorSealOkd
import Derived.Test.YtghajmfjekfdpaaDoorKSkip
namespace Go.Proofs.YtghajmfjekfdpaaDoor
open Go.RowKit
attribute [local go_sem ↓] Go.wp_at_zero Go.wp_at_succ

theorem freshS (w : World) (s : Sl) : Below w.heap.size w (w.alloc (.cells #[.int .i64 s.k, .int .i64 s.t, .int .i64 s.a, .int .i64 s.b, .int .i64 s.c, .int .i64 s.d, .int .i64 s.e] 64)) ∧ SealAt (w.alloc (.cells #[.int .i64 s.k, .int .i64 s.t, .int .i64 s.a, .int .i64 s.b, .int .i64 s.c, .int .i64 s.d, .int .i64 s.e] 64)) w.heap.size 0 s ∧ w.heap.size < (w.alloc (.cells #[.int .i64 s.k, .int .i64 s.t, .int .i64 s.a, .int .i64 s.b, .int .i64 s.c, .int .i64 s.d, .int .i64 s.e] 64)).heap.size :=
  ⟨Below.alloc_ _ _, ⟨by go_simp, by go_simp, by go_simp, by go_simp, by go_simp, by go_simp, by go_simp⟩, by simp⟩
theorem SRow.take {w : World} {a : Option Addr} {xs : List Sl} {j : Nat} (h : SRow w a xs) : SRow w a (xs.take j) := by
  rcases h with h | ⟨b, off, ha, hl, h⟩
  · exact Or.inl (by rw [h]; simp)
  · refine Or.inr ⟨b, off, ha, hl, fun i s hs => h i s ?_⟩
    rw [List.getElem?_take] at hs
    split at hs
    · exact hs
    · cases hs

theorem isFresh_any (s : Sl) (now : Int) (w : World) (ht : 0 ≤ s.b ∧ s.b ≤ 101) (hn : 0 ≤ now ∧ now ≤ 100) :
    Calls Tryd.prog 79 #[.agg #[.int .i64 s.k, .int .i64 s.t, .int .i64 s.a, .int .i64 s.b, .int .i64 s.c, .int .i64 s.d, .int .i64 s.e], .int .i64 now] w fun r w' => r = .returned (.bool (freshB s.b now)) ∧ Below w.heap.size w w' := by
  have hw : IntKind.i64.wrap (now - s.b) = now - s.b := wrapM (by omega) (by omega)
  go_enter Tryd.func79, Tryd.ntmps79
  by_cases y : s.b ≤ now
  · go_wp2_with fail
    go_ret
    exact ⟨ret_bool (by simp [freshB, y]), Below.alloc_ _ _⟩
  · have y2 : freshB s.b now = false := by simp [freshB]; omega
    go_wp2_with fail
    go_ret
    exact ⟨ret_bool (by first | rfl | exact y2.symm), Below.alloc_ _ _⟩

set_option maxHeartbeats 1000000 in
theorem isAuth_any (s : Sl) (w : World) :
    Calls Tryd.prog 66 #[.agg #[.int .i64 s.k, .int .i64 s.t, .int .i64 s.a, .int .i64 s.b, .int .i64 s.c, .int .i64 s.d, .int .i64 s.e]] w fun r w' => r = .returned (.bool s.auth) ∧ Below w.heap.size w w' := by
  go_enter Tryd.func66, Tryd.ntmps66
  by_cases y : s.t = 3
  · go_wp2_with fail
    refine (implOk_any _ _ _ _ _ _ _ _).mono ?_
    rintro r w1 ⟨rfl, b1⟩
    go_wp2_with fail
    go_ret
    exact ⟨ret_bool (by simp [Sl.auth, Sl.ok, y]), (Below.alloc_ _ _).trans (b1.mono (by simp))⟩
  · go_wp2_with fail
    go_ret
    exact ⟨ret_bool (by simp [Sl.auth, y]), Below.alloc_ _ _⟩

set_option maxHeartbeats 4000000 in
set_option maxRecDepth 100000 in
theorem isCache_any (a : Option Addr) (cap : Nat) (xs : List Sl) (w : World) (h : SRow w a xs) (hc : xs.length ≤ cap) :
    Calls Tryd.prog 61 #[.slice a xs.length cap] w fun r w' => r = .returned (.bool (cacheB xs)) ∧ Below w.heap.size w w' := by
  go_enter Tryd.func61, Tryd.ntmps61
  by_cases hl : xs.length ≤ 20
  · go_wp2_with fail
    go_loopw [10] (fun i wr => ∃ (j : Nat), j ≤ xs.length ∧ i = .int .i64 j ∧ Hid (Below w.heap.size w wr ∧ goodB xs j = true)) (fun i _ => xs.length - (intOf i).toNat)
    case atStart => exact ⟨0, Nat.zero_le _, rfl, Below.refl _ _, rfl⟩
    case round =>
      obtain ⟨j, hj, rfl, C⟩ := hrel
      by_cases hlt : j < xs.length
      · obtain ⟨s, hs⟩ : ∃ s, xs[j]? = some s := ⟨xs[j], List.getElem?_eq_getElem hlt⟩
        have hrow := h.later C.out.1
        rcases id hrow with hz | ⟨b, off, rfl, hlb, hat⟩
        · simp [hz] at hlt
        obtain ⟨c0, c1, c2, c3, c4, c5, c6⟩ := hat j s hs
        have HS : Hid (xs[j]? = some s) := hs
        have HC : Hid (Below w.heap.size w wr ∧ goodB xs j = true) := C
        have HROW0 : Hid (SRow wr (some ⟨b, off, none⟩) xs) := hrow
        clear h hrow hat hs C
        go_wp2_with fail
        obtain ⟨F1, F2, F3⟩ := freshS wr s
        generalize (wr.alloc (.cells #[.int .i64 s.k, .int .i64 s.t, .int .i64 s.a, .int .i64 s.b, .int .i64 s.c, .int .i64 s.d, .int .i64 s.e] 64)) = W3 at F1 F2 F3 ⊢
        have HLT := F3
        have HAT : Hid (SealAt W3 wr.heap.size 0 s) := F2
        have HROW : Hid (SRow W3 (some ⟨b, off, none⟩) xs) := HROW0.out.later F1
        have HB3 : Hid (Below w.heap.size w W3) := HC.out.1.trans (F1.mono HC.out.1.size)
        clear F1 F2 F3 HROW0 c0 c1 c2 c3 c4 c5 c6
        refine wp_region_held_drew (S := fun w' => Below W3.heap.size W3 w') (by kernel_rfl) (Below.refl _ _).drew (fun hS => ?_)
        generalize W3.drew = W4 at hS ⊢
        cases hsa : s.auth
        ·

          refine take1 0 15 (Value.agg #[.int .i64 s.k, .int .i64 s.t, .int .i64 s.a, .int .i64 s.b, .int .i64 s.c, .int .i64 s.d, .int .i64 s.e]) rfl rfl (by kernel_rfl) (by kernel_rfl) (by kernel_rfl) (by rfl) (fun _ _ _ h => h) hS (fun w' hS' => ?_) ?_
          · obtain ⟨c0, c1, c2, c3, c4, c5, c6⟩ := HAT.out.later hS' HLT
            simp only [Nat.zero_add] at c1 c2 c3 c4 c5 c6
            (go_simp) <;> (intro hx9; omega)
          simp only [Act.put, List.setIfInBounds_toArray, List.set_cons_zero, List.set_cons_succ]
          refine wpAnyH_ready (rs := [1]) (by kernel_rfl) (by simp) ?_
          refine AllReadyH.cons rfl (fun K hK => ?_) AllReadyH.nil
          go_simp
          refine (isAuth_any s _).mono ?_
          rintro r w4 ⟨rfl, b4⟩
          rw [hsa]
          have S4 : Below W3.heap.size W3 w4 := hS.trans (b4.mono hS.size)
          refine hK.out _ _ S4 (fun hS => ?_)
          clear hK K b4 S4
          refine take1 2 17 (.bool true) rfl rfl (by kernel_rfl) (by kernel_rfl) (by kernel_rfl) (by rfl) (fun _ _ _ h => h) hS (fun w' hS' => ?_) ?_
          · (go_simp) <;> (intro hx9; omega)
          simp only [Act.put, List.setIfInBounds_toArray, List.set_cons_zero, List.set_cons_succ]
          refine take1 3 18 (.bool true) rfl rfl (by kernel_rfl) (by kernel_rfl) (by kernel_rfl) (by rfl) (fun _ _ _ h => h) hS (fun w' hS' => ?_) ?_
          · (go_simp) <;> (intro hx9; omega)
          simp only [Act.put, List.setIfInBounds_toArray, List.set_cons_zero, List.set_cons_succ]
          refine skip1 4 19 rfl rfl (by kernel_rfl) (by kernel_rfl) (by kernel_rfl) (by rfl) (fun _ _ _ h => h) hS ?_
          simp only [Act.put, List.setIfInBounds_toArray, List.set_cons_zero, List.set_cons_succ]
          refine skip1 5 20 rfl rfl (by kernel_rfl) (by kernel_rfl) (by kernel_rfl) (by rfl) (fun _ _ _ h => h) hS ?_
          simp only [Act.put, List.setIfInBounds_toArray, List.set_cons_zero, List.set_cons_succ]
          refine skip1 6 21 rfl rfl (by kernel_rfl) (by kernel_rfl) (by kernel_rfl) (by rfl) (fun _ _ _ h => h) hS ?_
          simp only [Act.put, List.setIfInBounds_toArray, List.set_cons_zero, List.set_cons_succ]
          refine skip1 7 22 rfl rfl (by kernel_rfl) (by kernel_rfl) (by kernel_rfl) (by rfl) (fun _ _ _ h => h) hS ?_
          simp only [Act.put, List.setIfInBounds_toArray, List.set_cons_zero, List.set_cons_succ]
          refine skip1 8 23 rfl rfl (by kernel_rfl) (by kernel_rfl) (by kernel_rfl) (by rfl) (fun _ _ _ h => h) hS ?_
          simp only [Act.put, List.setIfInBounds_toArray, List.set_cons_zero, List.set_cons_succ]
          refine take1 9 24 (.bool true) rfl rfl (by kernel_rfl) (by kernel_rfl) (by kernel_rfl) (by rfl) (fun _ _ _ h => h) hS (fun w' hS' => ?_) ?_
          · (go_simp) <;> (intro hx9; omega)
          simp only [Act.put, List.setIfInBounds_toArray, List.set_cons_zero, List.set_cons_succ]
          refine wpAnyH_done (by kernel_rfl) ?_ _
          have HE : Hid (Below w.heap.size w w4) := HB3.out.trans (hS.mono HB3.out.size)
          have hcb : cacheB xs = false := by
            have : goodB xs (j + 1) = false := by rw [goodB_succ HS.out, hsa]; simp
            simp [cacheB, goodB_false (n := xs.length) this (by omega)]
          clear hS HB3 HAT HROW
          go_wp2_with fail
          go_ret
          exact ⟨ret_bool hcb.symm, HE.out⟩
        · cases hsb : inS s (xs.take j)
          ·
            refine take1 0 15 (Value.agg #[.int .i64 s.k, .int .i64 s.t, .int .i64 s.a, .int .i64 s.b, .int .i64 s.c, .int .i64 s.d, .int .i64 s.e]) rfl rfl (by kernel_rfl) (by kernel_rfl) (by kernel_rfl) (by rfl) (fun _ _ _ h => h) hS (fun w' hS' => ?_) ?_
            · obtain ⟨c0, c1, c2, c3, c4, c5, c6⟩ := HAT.out.later hS' HLT
              simp only [Nat.zero_add] at c1 c2 c3 c4 c5 c6
              (go_simp) <;> (intro hx9; omega)
            simp only [Act.put, List.setIfInBounds_toArray, List.set_cons_zero, List.set_cons_succ]
            refine wpAnyH_ready (rs := [1]) (by kernel_rfl) (by simp) ?_
            refine AllReadyH.cons rfl (fun K hK => ?_) AllReadyH.nil
            go_simp
            refine (isAuth_any s _).mono ?_
            rintro r w4 ⟨rfl, b4⟩
            rw [hsa]
            have S4 : Below W3.heap.size W3 w4 := hS.trans (b4.mono hS.size)
            refine hK.out _ _ S4 (fun hS => ?_)
            clear hK K b4 S4
            refine take1 2 17 (.bool false) rfl rfl (by kernel_rfl) (by kernel_rfl) (by kernel_rfl) (by rfl) (fun _ _ _ h => h) hS (fun w' hS' => ?_) ?_
            · (go_simp) <;> (intro hx9; omega)
            simp only [Act.put, List.setIfInBounds_toArray, List.set_cons_zero, List.set_cons_succ]
            refine take1 3 18 (.bool false) rfl rfl (by kernel_rfl) (by kernel_rfl) (by kernel_rfl) (by rfl) (fun _ _ _ h => h) hS (fun w' hS' => ?_) ?_
            · (go_simp) <;> (intro hx9; omega)
            simp only [Act.put, List.setIfInBounds_toArray, List.set_cons_zero, List.set_cons_succ]
            refine take1 4 19 (.slice (some ⟨b, off, none⟩) xs.length cap) rfl rfl (by kernel_rfl) (by kernel_rfl) (by kernel_rfl) (by rfl) (fun _ _ _ h => h) hS (fun w' hS' => ?_) ?_
            · (go_simp) <;> (intro hx9; omega)
            simp only [Act.put, List.setIfInBounds_toArray, List.set_cons_zero, List.set_cons_succ]
            refine take1 5 20 (.int .i64 (j : Int)) rfl rfl (by kernel_rfl) (by kernel_rfl) (by kernel_rfl) (by rfl) (fun _ _ _ h => h) hS (fun w' hS' => ?_) ?_
            · (go_simp) <;> (intro hx9; omega)
            simp only [Act.put, List.setIfInBounds_toArray, List.set_cons_zero, List.set_cons_succ]
            refine take1 6 21 (.slice (some ⟨b, off, none⟩) j cap) rfl rfl (by kernel_rfl) (by kernel_rfl) (by kernel_rfl) (by rfl) (fun _ _ _ h => h) hS (fun w' hS' => ?_) ?_
            · (go_simp) <;> (intro hx9; omega)
            simp only [Act.put, List.setIfInBounds_toArray, List.set_cons_zero, List.set_cons_succ]
            refine take1 7 22 (Value.agg #[.int .i64 s.k, .int .i64 s.t, .int .i64 s.a, .int .i64 s.b, .int .i64 s.c, .int .i64 s.d, .int .i64 s.e]) rfl rfl (by kernel_rfl) (by kernel_rfl) (by kernel_rfl) (by rfl) (fun _ _ _ h => h) hS (fun w' hS' => ?_) ?_
            · obtain ⟨c0, c1, c2, c3, c4, c5, c6⟩ := HAT.out.later hS' HLT
              simp only [Nat.zero_add] at c1 c2 c3 c4 c5 c6
              (go_simp) <;> (intro hx9; omega)
            simp only [Act.put, List.setIfInBounds_toArray, List.set_cons_zero, List.set_cons_succ]
            refine wpAnyH_ready (rs := [8]) (by kernel_rfl) (by simp) ?_
            refine AllReadyH.cons rfl (fun K hK => ?_) AllReadyH.nil
            go_simp
            have hlj : (xs.take j).length = j := by simp; omega
            have hh := hasSeal_any (some ⟨b, off, none⟩) cap (xs.take j) s w4 (SRow.take (HROW.out.later hS)) (by simp; omega)
            rw [hlj] at hh
            refine hh.mono ?_
            clear hh hlj
            rintro r w5 ⟨rfl, b5⟩
            rw [hsb]
            have S5 : Below W3.heap.size W3 w5 := hS.trans (b5.mono hS.size)
            refine hK.out _ _ S5 (fun hS => ?_)
            clear hK K b5 S5
            refine take1 9 24 (.bool false) rfl rfl (by kernel_rfl) (by kernel_rfl) (by kernel_rfl) (by rfl) (fun _ _ _ h => h) hS (fun w' hS' => ?_) ?_
            · (go_simp) <;> (intro hx9; omega)
            simp only [Act.put, List.setIfInBounds_toArray, List.set_cons_zero, List.set_cons_succ]
            refine wpAnyH_done (by kernel_rfl) ?_ _
            have HE : Hid (Below w.heap.size w w5 ∧ goodB xs (j + 1) = true) := ⟨HB3.out.trans (hS.mono HB3.out.size), by rw [goodB_succ HS.out, HC.out.2, hsa, hsb]; rfl⟩
            clear hS HB3 HAT HROW
            go_wp2_with fail
            go_roundw
            case rel => exact ⟨j + 1, by omega, by go_num, HE⟩
            case measure => simp [intOf]; omega
          ·
            refine take1 0 15 (Value.agg #[.int .i64 s.k, .int .i64 s.t, .int .i64 s.a, .int .i64 s.b, .int .i64 s.c, .int .i64 s.d, .int .i64 s.e]) rfl rfl (by kernel_rfl) (by kernel_rfl) (by kernel_rfl) (by rfl) (fun _ _ _ h => h) hS (fun w' hS' => ?_) ?_
            · obtain ⟨c0, c1, c2, c3, c4, c5, c6⟩ := HAT.out.later hS' HLT
              simp only [Nat.zero_add] at c1 c2 c3 c4 c5 c6
              (go_simp) <;> (intro hx9; omega)
            simp only [Act.put, List.setIfInBounds_toArray, List.set_cons_zero, List.set_cons_succ]
            refine wpAnyH_ready (rs := [1]) (by kernel_rfl) (by simp) ?_
            refine AllReadyH.cons rfl (fun K hK => ?_) AllReadyH.nil
            go_simp
            refine (isAuth_any s _).mono ?_
            rintro r w4 ⟨rfl, b4⟩
            rw [hsa]
            have S4 : Below W3.heap.size W3 w4 := hS.trans (b4.mono hS.size)
            refine hK.out _ _ S4 (fun hS => ?_)
            clear hK K b4 S4
            refine take1 2 17 (.bool false) rfl rfl (by kernel_rfl) (by kernel_rfl) (by kernel_rfl) (by rfl) (fun _ _ _ h => h) hS (fun w' hS' => ?_) ?_
            · (go_simp) <;> (intro hx9; omega)
            simp only [Act.put, List.setIfInBounds_toArray, List.set_cons_zero, List.set_cons_succ]
            refine take1 3 18 (.bool false) rfl rfl (by kernel_rfl) (by kernel_rfl) (by kernel_rfl) (by rfl) (fun _ _ _ h => h) hS (fun w' hS' => ?_) ?_
            · (go_simp) <;> (intro hx9; omega)
            simp only [Act.put, List.setIfInBounds_toArray, List.set_cons_zero, List.set_cons_succ]
            refine take1 4 19 (.slice (some ⟨b, off, none⟩) xs.length cap) rfl rfl (by kernel_rfl) (by kernel_rfl) (by kernel_rfl) (by rfl) (fun _ _ _ h => h) hS (fun w' hS' => ?_) ?_
            · (go_simp) <;> (intro hx9; omega)
            simp only [Act.put, List.setIfInBounds_toArray, List.set_cons_zero, List.set_cons_succ]
            refine take1 5 20 (.int .i64 (j : Int)) rfl rfl (by kernel_rfl) (by kernel_rfl) (by kernel_rfl) (by rfl) (fun _ _ _ h => h) hS (fun w' hS' => ?_) ?_
            · (go_simp) <;> (intro hx9; omega)
            simp only [Act.put, List.setIfInBounds_toArray, List.set_cons_zero, List.set_cons_succ]
            refine take1 6 21 (.slice (some ⟨b, off, none⟩) j cap) rfl rfl (by kernel_rfl) (by kernel_rfl) (by kernel_rfl) (by rfl) (fun _ _ _ h => h) hS (fun w' hS' => ?_) ?_
            · (go_simp) <;> (intro hx9; omega)
            simp only [Act.put, List.setIfInBounds_toArray, List.set_cons_zero, List.set_cons_succ]
            refine take1 7 22 (Value.agg #[.int .i64 s.k, .int .i64 s.t, .int .i64 s.a, .int .i64 s.b, .int .i64 s.c, .int .i64 s.d, .int .i64 s.e]) rfl rfl (by kernel_rfl) (by kernel_rfl) (by kernel_rfl) (by rfl) (fun _ _ _ h => h) hS (fun w' hS' => ?_) ?_
            · obtain ⟨c0, c1, c2, c3, c4, c5, c6⟩ := HAT.out.later hS' HLT
              simp only [Nat.zero_add] at c1 c2 c3 c4 c5 c6
              (go_simp) <;> (intro hx9; omega)
            simp only [Act.put, List.setIfInBounds_toArray, List.set_cons_zero, List.set_cons_succ]
            refine wpAnyH_ready (rs := [8]) (by kernel_rfl) (by simp) ?_
            refine AllReadyH.cons rfl (fun K hK => ?_) AllReadyH.nil
            go_simp
            have hlj : (xs.take j).length = j := by simp; omega
            have hh := hasSeal_any (some ⟨b, off, none⟩) cap (xs.take j) s w4 (SRow.take (HROW.out.later hS)) (by simp; omega)
            rw [hlj] at hh
            refine hh.mono ?_
            clear hh hlj
            rintro r w5 ⟨rfl, b5⟩
            rw [hsb]
            have S5 : Below W3.heap.size W3 w5 := hS.trans (b5.mono hS.size)
            refine hK.out _ _ S5 (fun hS => ?_)
            clear hK K b5 S5
            refine take1 9 24 (.bool true) rfl rfl (by kernel_rfl) (by kernel_rfl) (by kernel_rfl) (by rfl) (fun _ _ _ h => h) hS (fun w' hS' => ?_) ?_
            · (go_simp) <;> (intro hx9; omega)
            simp only [Act.put, List.setIfInBounds_toArray, List.set_cons_zero, List.set_cons_succ]
            refine wpAnyH_done (by kernel_rfl) ?_ _
            have HE : Hid (Below w.heap.size w w5) := HB3.out.trans (hS.mono HB3.out.size)
            have hcb : cacheB xs = false := by
              have : goodB xs (j + 1) = false := by rw [goodB_succ HS.out, hsb]; simp
              simp [cacheB, goodB_false (n := xs.length) this (by omega)]
            clear hS HB3 HAT HROW
            go_wp2_with fail
            go_ret
            exact ⟨ret_bool hcb.symm, HE.out⟩
      · obtain rfl : j = xs.length := by omega
        have hcb : cacheB xs = true := by simp [cacheB, C.out.2, hl]
        have HE : Hid (Below w.heap.size w wr) := C.out.1
        clear C
        go_wp2_with fail
        go_ret
        exact ⟨ret_bool hcb.symm, HE.out⟩
  · have hcb : cacheB xs = false := by simp [cacheB, hl]
    have hl2 : (20 : Int) < xs.length := by omega
    go_wp2_with fail
    go_ret
    exact ⟨ret_bool hcb.symm, Below.refl _ _⟩

end Go.Proofs.YtghajmfjekfdpaaDoor
