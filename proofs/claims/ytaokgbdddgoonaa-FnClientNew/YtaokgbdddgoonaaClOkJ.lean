/-
  The program's looks at what a user waits for, and whom he called: as the plain mathematics says; nothing that was in memory is turned.
-/
import Derived.Test.YtaokgbdddgoonaaClOkMath
import Derived.Test.YtaokgbdddgoonaaCaIndex
import Derived.Test.YtaokgbdddgoonaaKSkip
import Derived.Test.YtaokgbdddgoonaaPurseJ
import Derived.Test.YtaokgbdddgoonaaClientTo
namespace Go.Proofs.Ytaokgbdddgoonaa
open Go.RowKit
attribute [local go_sem ↓] Go.wp_at_zero Go.wp_at_succ

set_option maxHeartbeats 2000000 in
set_option maxRecDepth 100000 in
theorem areWants_any (a : Option Addr) (cap : Nat) (xs : List Wn) (num : Int) (w : World) (h : NRow celW w a xs) (hx : xs.length ≤ 9223372036854775807) :
    Calls Try.prog 31 #[.slice a xs.length cap, .int .i64 num] w fun r w' => r = .returned (.bool (okWs num 0 xs)) ∧ Below w.heap.size w w' := by
  go_enter Try.func31, Try.ntmps31
  go_wp2_with fail
  go_loopw [5, 10] (fun l i wr => ∃ (j : Nat) (last : Int), j ≤ xs.length ∧ i = .int .i64 j ∧ l = .int .i64 last ∧ Hid (Below w.heap.size w wr ∧ okWs num 0 xs = okWs num last (xs.drop j))) (fun _ i _ => xs.length - (intOf i).toNat)
  case atStart => exact ⟨0, 0, Nat.zero_le _, rfl, rfl, Below.refl _ _, by rw [List.drop_zero]⟩
  case round =>
    obtain ⟨j, last, hj, rfl, rfl, C⟩ := hrel
    by_cases hlt : j < xs.length
    · obtain ⟨x, hs⟩ : ∃ x, xs[j]? = some x := ⟨xs[j], List.getElem?_eq_getElem hlt⟩
      rcases h with h | ⟨b, off, rfl, hl, h⟩
      · simp [h] at hlt
      obtain ⟨c0, c1⟩ := celW.at ((h j x hs).later C.out.1 hl)
      simp only [show celW.n = 2 from rfl] at c0 c1
      have E : Hid (okWs num 0 xs = (inB x.s 4 6 && decide (last < x.n) && decide (x.n ≤ num) && okWs num x.n (xs.drop (j + 1)))) := by have e := C.out.2; rw [drop_at hs] at e; exact e
      have B : Hid (Below w.heap.size w (wr.alloc (.cells #[.int .i64 x.s, .int .i64 x.n] 54))) := C.out.1.alloc C.out.1.size _
      clear h C hs
      go_wp2_with fail
      clear c0 c1
      refine (isPeer_any _ _).mono ?_
      rintro r w2 ⟨rfl, rfl⟩
      cases t0 : inB x.s 4 6
      · have E3 : Hid (okWs num 0 xs = false) := Hid.mk' (by rw [E.out]; simp [t0])
        clear E
        go_wp2_with fail
        go_ret
        exact ⟨ret_bool E3.out.symm, B.out⟩
      · skip
        by_cases h1 : last < x.n
        · skip
          by_cases h2 : x.n ≤ num
          · skip
            have E2 : Hid (okWs num 0 xs = okWs num x.n (xs.drop (j + 1))) := Hid.mk' (by rw [E.out]; simp [t0, h1, h2])
            clear E
            go_wp2_with fail
            go_roundw
            case rel => exact ⟨j + 1, x.n, by omega, by go_num, rfl, B.out, E2.out⟩
            case measure => simp [intOf]; omega
          · have E3 : Hid (okWs num 0 xs = false) := Hid.mk' (by rw [E.out]; simp [t0, h1, h2])
            clear E
            go_wp2_with fail
            go_ret
            exact ⟨ret_bool E3.out.symm, B.out⟩
        · have E3 : Hid (okWs num 0 xs = false) := Hid.mk' (by rw [E.out]; simp [t0, h1])
          clear E
          go_wp2_with fail
          go_ret
          exact ⟨ret_bool E3.out.symm, B.out⟩
    · obtain rfl : j = xs.length := by omega
      have E : Hid (okWs num 0 xs = true) := by have e := C.out.2; rw [List.drop_length] at e; exact e
      clear h
      go_wp2_with fail
      go_ret
      exact ⟨ret_bool E.out.symm, C.out.1⟩

set_option maxHeartbeats 2000000 in
set_option maxRecDepth 100000 in
theorem areSent_any (a : Option Addr) (cap : Nat) (xs : List Ca) (num : Int) (w : World) (h : NRow celC w a xs) (hx : xs.length ≤ 9223372036854775807) :
    Calls Try.prog 33 #[.slice a xs.length cap, .int .i64 num] w fun r w' => r = .returned (.bool (okSs num 0 xs)) ∧ Below w.heap.size w w' := by
  go_enter Try.func33, Try.ntmps33
  go_wp2_with fail
  go_loopw [5, 10] (fun l i wr => ∃ (j : Nat) (last : Int), j ≤ xs.length ∧ i = .int .i64 j ∧ l = .int .i64 last ∧ Hid (Below w.heap.size w wr ∧ okSs num 0 xs = okSs num last (xs.drop j))) (fun _ i _ => xs.length - (intOf i).toNat)
  case atStart => exact ⟨0, 0, Nat.zero_le _, rfl, rfl, Below.refl _ _, by rw [List.drop_zero]⟩
  case round =>
    obtain ⟨j, last, hj, rfl, rfl, C⟩ := hrel
    by_cases hlt : j < xs.length
    · obtain ⟨x, hs⟩ : ∃ x, xs[j]? = some x := ⟨xs[j], List.getElem?_eq_getElem hlt⟩
      rcases h with h | ⟨b, off, rfl, hl, h⟩
      · simp [h] at hlt
      obtain ⟨c0, c1, c2, c3⟩ := celC.at ((h j x hs).later C.out.1 hl)
      simp only [show celC.n = 4 from rfl] at c0 c1 c2 c3
      have E : Hid (okSs num 0 xs = (inB x.p 4 5 && inB x.k 10 60 && inB x.t 0 100 && decide (last < x.n) && decide (x.n ≤ num) && okSs num x.n (xs.drop (j + 1)))) := by have e := C.out.2; rw [drop_at hs] at e; exact e
      have B : Hid (Below w.heap.size w (wr.alloc (.cells #[.int .i64 x.p, .int .i64 x.k, .int .i64 x.t, .int .i64 x.n] 64))) := C.out.1.alloc C.out.1.size _
      clear h C hs
      go_wp2_with fail
      clear c0 c1 c2 c3
      refine (isServ_any _ _).mono ?_
      rintro r w2 ⟨rfl, rfl⟩
      cases t0 : inB x.p 4 5
      · have E3 : Hid (okSs num 0 xs = false) := Hid.mk' (by rw [E.out]; simp [t0])
        clear E
        go_wp2_with fail
        go_ret
        exact ⟨ret_bool E3.out.symm, B.out⟩
      · skip
        go_wp2_with fail
        refine (isMadeKey_any _ _).mono ?_
        rintro r w3 ⟨rfl, rfl⟩
        cases t1 : inB x.k 10 60
        · have E3 : Hid (okSs num 0 xs = false) := Hid.mk' (by rw [E.out]; simp [t0, t1])
          clear E
          go_wp2_with fail
          go_ret
          exact ⟨ret_bool E3.out.symm, B.out⟩
        · skip
          go_wp2_with fail
          refine (isTime_any _ _).mono ?_
          rintro r w4 ⟨rfl, rfl⟩
          cases t2 : inB x.t 0 100
          · have E3 : Hid (okSs num 0 xs = false) := Hid.mk' (by rw [E.out]; simp [t0, t1, t2])
            clear E
            go_wp2_with fail
            go_ret
            exact ⟨ret_bool E3.out.symm, B.out⟩
          · skip
            by_cases h1 : last < x.n
            · skip
              by_cases h2 : x.n ≤ num
              · skip
                have E2 : Hid (okSs num 0 xs = okSs num x.n (xs.drop (j + 1))) := Hid.mk' (by rw [E.out]; simp [t0, t1, t2, h1, h2])
                clear E
                go_wp2_with fail
                go_roundw
                case rel => exact ⟨j + 1, x.n, by omega, by go_num, rfl, B.out, E2.out⟩
                case measure => simp [intOf]; omega
              · have E3 : Hid (okSs num 0 xs = false) := Hid.mk' (by rw [E.out]; simp [t0, t1, t2, h1, h2])
                clear E
                go_wp2_with fail
                go_ret
                exact ⟨ret_bool E3.out.symm, B.out⟩
            · have E3 : Hid (okSs num 0 xs = false) := Hid.mk' (by rw [E.out]; simp [t0, t1, t2, h1])
              clear E
              go_wp2_with fail
              go_ret
              exact ⟨ret_bool E3.out.symm, B.out⟩
    · obtain rfl : j = xs.length := by omega
      have E : Hid (okSs num 0 xs = true) := by have e := C.out.2; rw [List.drop_length] at e; exact e
      clear h
      go_wp2_with fail
      go_ret
      exact ⟨ret_bool E.out.symm, C.out.1⟩

end Go.Proofs.Ytaokgbdddgoonaa

namespace Go.Proofs.Ytaokgbdddgoonaa
open Go.RowKit
attribute [local go_sem ↓] Go.wp_at_zero Go.wp_at_succ

theorem NRow.take {X : Type} {C : Cel X} {w : World} {a : Option Addr} {xs : List X} (h : NRow C w a xs) (j : Nat) : NRow C w a (xs.take j) := by
  rcases h with h | ⟨b, off, ha, hl, h⟩
  · exact Or.inl (by rw [h]; simp)
  · exact Or.inr ⟨b, off, ha, hl, fun i s hs => h i s (by rw [List.getElem?_take] at hs; split at hs <;> simp_all)⟩

set_option maxHeartbeats 4000000 in
set_option maxRecDepth 100000 in
theorem areMet_any (a : Option Addr) (cap : Nat) (xs : List Ca) (a2 : Option Addr) (c2 : Nat) (ss : List Ca) (w : World) (h : NRow celC w a xs) (h2 : NRow celC w a2 ss) (hc : xs.length ≤ cap) (hx : xs.length ≤ 2000000) (hx2 : ss.length ≤ 2000000) :
    Calls Try.prog 34 #[.slice a xs.length cap, .slice a2 ss.length c2] w fun r w' => r = .returned (.bool (okMs ss [] xs)) ∧ Below w.heap.size w w' := by
  have HR : Hid (NRow celC w a2 ss) := h2
  clear h2
  go_enter Try.func34, Try.ntmps34
  go_wp2_with fail
  go_loopw [9] (fun i wr => ∃ (j : Nat), j ≤ xs.length ∧ i = .int .i64 j ∧ Hid (Below w.heap.size w wr ∧ okMs ss [] xs = okMs ss (xs.take j) (xs.drop j))) (fun i _ => xs.length - (intOf i).toNat)
  case atStart => exact ⟨0, Nat.zero_le _, rfl, Below.refl _ _, by rw [List.drop_zero, List.take_zero]⟩
  case round =>
    obtain ⟨j, hj, rfl, C⟩ := hrel
    by_cases hlt : j < xs.length
    · obtain ⟨x, hs⟩ : ∃ x, xs[j]? = some x := ⟨xs[j], List.getElem?_eq_getElem hlt⟩
      have HT : Hid (NRow celC wr a (xs.take j)) := (h.take j).later C.out.1
      rcases h with h | ⟨b, off, rfl, hl, h⟩
      · simp [h] at hlt
      obtain ⟨c0, c1, c2', c3⟩ := celC.at ((h j x hs).later C.out.1 hl)
      simp only [show celC.n = 4 from rfl] at c0 c1 c2' c3
      have E : Hid (okMs ss [] xs = (inC x ss && !inC x (xs.take j) && okMs ss (xs.take (j + 1)) (xs.drop (j + 1)))) := by have e := C.out.2; rw [drop_at hs] at e; rw [take_at hs]; exact e
      have CA : Hid (NumsAt (wr.alloc (.cells #[.int .i64 x.p, .int .i64 x.k, .int .i64 x.t, .int .i64 x.n] 64)) wr.heap.size 0 (celC.cs x) ∧ wr.heap.size < (wr.alloc (.cells #[.int .i64 x.p, .int .i64 x.k, .int .i64 x.t, .int .i64 x.n] 64)).heap.size ∧ Below w.heap.size w (wr.alloc (.cells #[.int .i64 x.p, .int .i64 x.k, .int .i64 x.t, .int .i64 x.n] 64)) ∧ NRow celC (wr.alloc (.cells #[.int .i64 x.p, .int .i64 x.k, .int .i64 x.t, .int .i64 x.n] 64)) a2 ss ∧ NRow celC (wr.alloc (.cells #[.int .i64 x.p, .int .i64 x.k, .int .i64 x.t, .int .i64 x.n] 64)) (some ⟨b, off, none⟩) (xs.take j)) := ⟨numsAt_new wr 64 (celC.cs x), by simp, C.out.1.alloc C.out.1.size _, (HR.out.later C.out.1).later (Below.alloc_ _ _), HT.out.later (Below.alloc_ _ _)⟩
      have HC2 : Hid (∀ u : World, NRow celC u (some ⟨b, off, none⟩) (xs.take j) → Calls Try.prog 45 #[.slice (some ⟨b, off, none⟩) j cap, Value.agg #[.int .i64 x.p, .int .i64 x.k, .int .i64 x.t, .int .i64 x.n]] u fun r w' => r = .returned (.bool (inC x (xs.take j))) ∧ Below u.heap.size u w') := by
        intro u hu
        have e := hasC_any (some ⟨b, off, none⟩) cap (xs.take j) x u hu (by simp; omega)
        rw [show (xs.take j).length = j from by simp; omega] at e
        exact e
      clear h C hs HT
      go_wp2_with fail
      clear c0 c1 c2' c3
      generalize wr.alloc (.cells #[.int .i64 x.p, .int .i64 x.k, .int .i64 x.t, .int .i64 x.n] 64) = W at CA ⊢
      obtain ⟨p, hp⟩ : ∃ p, p = wr.heap.size := ⟨_, rfl⟩
      rw [← hp] at CA ⊢
      clear hp
      refine wp_region_held_drew (S := fun w' => Below W.heap.size W w') (by kernel_rfl) (Below.refl _ _).drew (fun hS => ?_)
      generalize W.drew = W1 at hS ⊢
      cases HI : inC x ss
      · have E3 : Hid (okMs ss [] xs = false) := Hid.mk' (by rw [E.out]; simp [HI])
        clear E
        refine take1 0 14 (Value.slice a2 ss.length c2) rfl rfl (by kernel_rfl) (by kernel_rfl) (by kernel_rfl) (by rfl) (fun _ _ _ h => h) hS (fun w' hS' => ?_) ?_
        · (go_simp) <;> (intro hx9; omega)
        simp only [Act.put, List.setIfInBounds_toArray, List.set_cons_zero, List.set_cons_succ]
        refine take1 1 15 (Value.agg #[.int .i64 x.p, .int .i64 x.k, .int .i64 x.t, .int .i64 x.n]) rfl rfl (by kernel_rfl) (by kernel_rfl) (by kernel_rfl) (by rfl) (fun _ _ _ h => h) hS (fun w' hS' => ?_) ?_
        · obtain ⟨c0, c1, c2, c3⟩ := celC.at (CA.out.1.later hS' CA.out.2.1)
          simp only [Nat.zero_add] at c1 c2 c3
          (go_simp) <;> (intro hx9; omega)
        simp only [Act.put, List.setIfInBounds_toArray, List.set_cons_zero, List.set_cons_succ]
        refine wpAnyH_ready (rs := [2]) (by kernel_rfl) (by simp) ?_
        refine AllReadyH.cons rfl (fun K hK => ?_) AllReadyH.nil
        go_simp
        refine (hasC_any a2 c2 ss x _ (CA.out.2.2.2.1.later hS) hx2).mono ?_
        rintro r u1 ⟨rfl, b9⟩
        have S9 : Below W.heap.size W u1 := hS.trans (b9.mono hS.size)
        clear b9
        refine hK.out _ _ S9 (fun hS => ?_)
        clear hK K S9
        simp only [HI]
        refine take1 3 17 (.bool true) rfl rfl (by kernel_rfl) (by kernel_rfl) (by kernel_rfl) (by rfl) (fun _ _ _ h => h) hS (fun w' hS' => ?_) ?_
        · (go_simp) <;> (intro hx9; omega)
        simp only [Act.put, List.setIfInBounds_toArray, List.set_cons_zero, List.set_cons_succ]
        refine take1 4 18 (.bool true) rfl rfl (by kernel_rfl) (by kernel_rfl) (by kernel_rfl) (by rfl) (fun _ _ _ h => h) hS (fun w' hS' => ?_) ?_
        · (go_simp) <;> (intro hx9; omega)
        simp only [Act.put, List.setIfInBounds_toArray, List.set_cons_zero, List.set_cons_succ]
        refine skip1 5 19 rfl rfl (by kernel_rfl) (by kernel_rfl) (by kernel_rfl) (by rfl) (fun _ _ _ h => h) hS ?_
        simp only [Act.put, List.setIfInBounds_toArray, List.set_cons_zero, List.set_cons_succ]
        refine skip1 6 20 rfl rfl (by kernel_rfl) (by kernel_rfl) (by kernel_rfl) (by rfl) (fun _ _ _ h => h) hS ?_
        simp only [Act.put, List.setIfInBounds_toArray, List.set_cons_zero, List.set_cons_succ]
        refine skip1 7 21 rfl rfl (by kernel_rfl) (by kernel_rfl) (by kernel_rfl) (by rfl) (fun _ _ _ h => h) hS ?_
        simp only [Act.put, List.setIfInBounds_toArray, List.set_cons_zero, List.set_cons_succ]
        refine skip1 8 22 rfl rfl (by kernel_rfl) (by kernel_rfl) (by kernel_rfl) (by rfl) (fun _ _ _ h => h) hS ?_
        simp only [Act.put, List.setIfInBounds_toArray, List.set_cons_zero, List.set_cons_succ]
        refine skip1 9 23 rfl rfl (by kernel_rfl) (by kernel_rfl) (by kernel_rfl) (by rfl) (fun _ _ _ h => h) hS ?_
        simp only [Act.put, List.setIfInBounds_toArray, List.set_cons_zero, List.set_cons_succ]
        refine take1 10 24 (.bool true) rfl rfl (by kernel_rfl) (by kernel_rfl) (by kernel_rfl) (by rfl) (fun _ _ _ h => h) hS (fun w' hS' => ?_) ?_
        · (go_simp) <;> (intro hx9; omega)
        simp only [Act.put, List.setIfInBounds_toArray, List.set_cons_zero, List.set_cons_succ]
        refine wpAnyH_done (by kernel_rfl) ?_ _
        have B : Hid (Below w.heap.size w u1) := CA.out.2.2.1.trans (hS.mono CA.out.2.2.1.size)
        clear hS CA HC2 HI
        go_wp2_with fail
        go_ret
        exact ⟨ret_bool E3.out.symm, B.out⟩
      · cases HI2 : inC x (xs.take j)
        · have E3 : Hid (okMs ss [] xs = okMs ss (xs.take (j + 1)) (xs.drop (j + 1))) := Hid.mk' (by rw [E.out]; simp [HI, HI2])
          clear E
          refine take1 0 14 (Value.slice a2 ss.length c2) rfl rfl (by kernel_rfl) (by kernel_rfl) (by kernel_rfl) (by rfl) (fun _ _ _ h => h) hS (fun w' hS' => ?_) ?_
          · (go_simp) <;> (intro hx9; omega)
          simp only [Act.put, List.setIfInBounds_toArray, List.set_cons_zero, List.set_cons_succ]
          refine take1 1 15 (Value.agg #[.int .i64 x.p, .int .i64 x.k, .int .i64 x.t, .int .i64 x.n]) rfl rfl (by kernel_rfl) (by kernel_rfl) (by kernel_rfl) (by rfl) (fun _ _ _ h => h) hS (fun w' hS' => ?_) ?_
          · obtain ⟨c0, c1, c2, c3⟩ := celC.at (CA.out.1.later hS' CA.out.2.1)
            simp only [Nat.zero_add] at c1 c2 c3
            (go_simp) <;> (intro hx9; omega)
          simp only [Act.put, List.setIfInBounds_toArray, List.set_cons_zero, List.set_cons_succ]
          refine wpAnyH_ready (rs := [2]) (by kernel_rfl) (by simp) ?_
          refine AllReadyH.cons rfl (fun K hK => ?_) AllReadyH.nil
          go_simp
          refine (hasC_any a2 c2 ss x _ (CA.out.2.2.2.1.later hS) hx2).mono ?_
          rintro r u1 ⟨rfl, b9⟩
          have S9 : Below W.heap.size W u1 := hS.trans (b9.mono hS.size)
          clear b9
          refine hK.out _ _ S9 (fun hS => ?_)
          clear hK K S9
          simp only [HI]
          refine take1 3 17 (.bool false) rfl rfl (by kernel_rfl) (by kernel_rfl) (by kernel_rfl) (by rfl) (fun _ _ _ h => h) hS (fun w' hS' => ?_) ?_
          · (go_simp) <;> (intro hx9; omega)
          simp only [Act.put, List.setIfInBounds_toArray, List.set_cons_zero, List.set_cons_succ]
          refine take1 4 18 (.bool false) rfl rfl (by kernel_rfl) (by kernel_rfl) (by kernel_rfl) (by rfl) (fun _ _ _ h => h) hS (fun w' hS' => ?_) ?_
          · (go_simp) <;> (intro hx9; omega)
          simp only [Act.put, List.setIfInBounds_toArray, List.set_cons_zero, List.set_cons_succ]
          refine take1 5 19 (Value.slice (some ⟨b, off, none⟩) xs.length cap) rfl rfl (by kernel_rfl) (by kernel_rfl) (by kernel_rfl) (by rfl) (fun _ _ _ h => h) hS (fun w' hS' => ?_) ?_
          · (go_simp) <;> (intro hx9; omega)
          simp only [Act.put, List.setIfInBounds_toArray, List.set_cons_zero, List.set_cons_succ]
          refine take1 6 20 (Value.int .i64 j) rfl rfl (by kernel_rfl) (by kernel_rfl) (by kernel_rfl) (by rfl) (fun _ _ _ h => h) hS (fun w' hS' => ?_) ?_
          · (go_simp) <;> (intro hx9; omega)
          simp only [Act.put, List.setIfInBounds_toArray, List.set_cons_zero, List.set_cons_succ]
          refine take1 7 21 (Value.slice (some ⟨b, off, none⟩) j cap) rfl rfl (by kernel_rfl) (by kernel_rfl) (by kernel_rfl) (by rfl) (fun _ _ _ h => h) hS (fun w' hS' => ?_) ?_
          · (go_simp) <;> (intro hx9; omega)
          simp only [Act.put, List.setIfInBounds_toArray, List.set_cons_zero, List.set_cons_succ]
          refine take1 8 22 (Value.agg #[.int .i64 x.p, .int .i64 x.k, .int .i64 x.t, .int .i64 x.n]) rfl rfl (by kernel_rfl) (by kernel_rfl) (by kernel_rfl) (by rfl) (fun _ _ _ h => h) hS (fun w' hS' => ?_) ?_
          · obtain ⟨c0, c1, c2, c3⟩ := celC.at (CA.out.1.later hS' CA.out.2.1)
            simp only [Nat.zero_add] at c1 c2 c3
            (go_simp) <;> (intro hx9; omega)
          simp only [Act.put, List.setIfInBounds_toArray, List.set_cons_zero, List.set_cons_succ]
          refine wpAnyH_ready (rs := [9]) (by kernel_rfl) (by simp) ?_
          refine AllReadyH.cons rfl (fun K hK => ?_) AllReadyH.nil
          go_simp
          refine (HC2.out u1 (CA.out.2.2.2.2.later hS)).mono ?_
          rintro r u2 ⟨rfl, b9⟩
          have S9 : Below W.heap.size W u2 := hS.trans (b9.mono hS.size)
          clear b9
          refine hK.out _ _ S9 (fun hS => ?_)
          clear hK K S9
          simp only [HI2]
          refine take1 10 24 (.bool false) rfl rfl (by kernel_rfl) (by kernel_rfl) (by kernel_rfl) (by rfl) (fun _ _ _ h => h) hS (fun w' hS' => ?_) ?_
          · (go_simp) <;> (intro hx9; omega)
          simp only [Act.put, List.setIfInBounds_toArray, List.set_cons_zero, List.set_cons_succ]
          refine wpAnyH_done (by kernel_rfl) ?_ _
          have B : Hid (Below w.heap.size w u2) := CA.out.2.2.1.trans (hS.mono CA.out.2.2.1.size)
          clear hS CA HC2 HI HI2
          go_wp2_with fail
          go_roundw
          case rel => exact ⟨j + 1, by omega, by go_num, B.out, E3.out⟩
          case measure => simp [intOf]; omega
        · have E3 : Hid (okMs ss [] xs = false) := Hid.mk' (by rw [E.out]; simp [HI, HI2])
          clear E
          refine take1 0 14 (Value.slice a2 ss.length c2) rfl rfl (by kernel_rfl) (by kernel_rfl) (by kernel_rfl) (by rfl) (fun _ _ _ h => h) hS (fun w' hS' => ?_) ?_
          · (go_simp) <;> (intro hx9; omega)
          simp only [Act.put, List.setIfInBounds_toArray, List.set_cons_zero, List.set_cons_succ]
          refine take1 1 15 (Value.agg #[.int .i64 x.p, .int .i64 x.k, .int .i64 x.t, .int .i64 x.n]) rfl rfl (by kernel_rfl) (by kernel_rfl) (by kernel_rfl) (by rfl) (fun _ _ _ h => h) hS (fun w' hS' => ?_) ?_
          · obtain ⟨c0, c1, c2, c3⟩ := celC.at (CA.out.1.later hS' CA.out.2.1)
            simp only [Nat.zero_add] at c1 c2 c3
            (go_simp) <;> (intro hx9; omega)
          simp only [Act.put, List.setIfInBounds_toArray, List.set_cons_zero, List.set_cons_succ]
          refine wpAnyH_ready (rs := [2]) (by kernel_rfl) (by simp) ?_
          refine AllReadyH.cons rfl (fun K hK => ?_) AllReadyH.nil
          go_simp
          refine (hasC_any a2 c2 ss x _ (CA.out.2.2.2.1.later hS) hx2).mono ?_
          rintro r u1 ⟨rfl, b9⟩
          have S9 : Below W.heap.size W u1 := hS.trans (b9.mono hS.size)
          clear b9
          refine hK.out _ _ S9 (fun hS => ?_)
          clear hK K S9
          simp only [HI]
          refine take1 3 17 (.bool false) rfl rfl (by kernel_rfl) (by kernel_rfl) (by kernel_rfl) (by rfl) (fun _ _ _ h => h) hS (fun w' hS' => ?_) ?_
          · (go_simp) <;> (intro hx9; omega)
          simp only [Act.put, List.setIfInBounds_toArray, List.set_cons_zero, List.set_cons_succ]
          refine take1 4 18 (.bool false) rfl rfl (by kernel_rfl) (by kernel_rfl) (by kernel_rfl) (by rfl) (fun _ _ _ h => h) hS (fun w' hS' => ?_) ?_
          · (go_simp) <;> (intro hx9; omega)
          simp only [Act.put, List.setIfInBounds_toArray, List.set_cons_zero, List.set_cons_succ]
          refine take1 5 19 (Value.slice (some ⟨b, off, none⟩) xs.length cap) rfl rfl (by kernel_rfl) (by kernel_rfl) (by kernel_rfl) (by rfl) (fun _ _ _ h => h) hS (fun w' hS' => ?_) ?_
          · (go_simp) <;> (intro hx9; omega)
          simp only [Act.put, List.setIfInBounds_toArray, List.set_cons_zero, List.set_cons_succ]
          refine take1 6 20 (Value.int .i64 j) rfl rfl (by kernel_rfl) (by kernel_rfl) (by kernel_rfl) (by rfl) (fun _ _ _ h => h) hS (fun w' hS' => ?_) ?_
          · (go_simp) <;> (intro hx9; omega)
          simp only [Act.put, List.setIfInBounds_toArray, List.set_cons_zero, List.set_cons_succ]
          refine take1 7 21 (Value.slice (some ⟨b, off, none⟩) j cap) rfl rfl (by kernel_rfl) (by kernel_rfl) (by kernel_rfl) (by rfl) (fun _ _ _ h => h) hS (fun w' hS' => ?_) ?_
          · (go_simp) <;> (intro hx9; omega)
          simp only [Act.put, List.setIfInBounds_toArray, List.set_cons_zero, List.set_cons_succ]
          refine take1 8 22 (Value.agg #[.int .i64 x.p, .int .i64 x.k, .int .i64 x.t, .int .i64 x.n]) rfl rfl (by kernel_rfl) (by kernel_rfl) (by kernel_rfl) (by rfl) (fun _ _ _ h => h) hS (fun w' hS' => ?_) ?_
          · obtain ⟨c0, c1, c2, c3⟩ := celC.at (CA.out.1.later hS' CA.out.2.1)
            simp only [Nat.zero_add] at c1 c2 c3
            (go_simp) <;> (intro hx9; omega)
          simp only [Act.put, List.setIfInBounds_toArray, List.set_cons_zero, List.set_cons_succ]
          refine wpAnyH_ready (rs := [9]) (by kernel_rfl) (by simp) ?_
          refine AllReadyH.cons rfl (fun K hK => ?_) AllReadyH.nil
          go_simp
          refine (HC2.out u1 (CA.out.2.2.2.2.later hS)).mono ?_
          rintro r u2 ⟨rfl, b9⟩
          have S9 : Below W.heap.size W u2 := hS.trans (b9.mono hS.size)
          clear b9
          refine hK.out _ _ S9 (fun hS => ?_)
          clear hK K S9
          simp only [HI2]
          refine take1 10 24 (.bool true) rfl rfl (by kernel_rfl) (by kernel_rfl) (by kernel_rfl) (by rfl) (fun _ _ _ h => h) hS (fun w' hS' => ?_) ?_
          · (go_simp) <;> (intro hx9; omega)
          simp only [Act.put, List.setIfInBounds_toArray, List.set_cons_zero, List.set_cons_succ]
          refine wpAnyH_done (by kernel_rfl) ?_ _
          have B : Hid (Below w.heap.size w u2) := CA.out.2.2.1.trans (hS.mono CA.out.2.2.1.size)
          clear hS CA HC2 HI HI2
          go_wp2_with fail
          go_ret
          exact ⟨ret_bool E3.out.symm, B.out⟩
    · obtain rfl : j = xs.length := by omega
      have E : Hid (okMs ss [] xs = true) := by have e := C.out.2; rw [List.drop_length] at e; exact e
      clear h
      go_wp2_with fail
      go_ret
      exact ⟨ret_bool E.out.symm, C.out.1⟩

end Go.Proofs.Ytaokgbdddgoonaa

namespace Go.Proofs.Ytaokgbdddgoonaa
open Go.RowKit Go.Maps
attribute [local go_sem ↓] Go.wp_at_zero Go.wp_at_succ

theorem purse_order (m : Nat) (av : Option Addr) (l c : Nat) (w : World) : (Instr.field 78 (.agg #[.map (some m), .slice av l c]) 1).run Try.prog w = .ok (.slice av l c) w := by kernel_rfl
theorem peer_of {x : Int} (h : inB x 4 6 = true) : 4 ≤ x ∧ x ≤ 6 := by simp [inB] at h; exact h

set_option maxHeartbeats 8000000 in
set_option maxRecDepth 100000 in
theorem areCreds_any (a : Option Addr) (cap : Nat) (xs : List Cd) (w : World) (h : NRow celD w a xs) (hx : xs.length ≤ 1048576) :
    Calls Try.prog 32 #[.slice a xs.length cap] w fun r w' => r = .returned (.bool (xs.all okCd && dupB [] xs)) ∧ Below w.heap.size w w' := by
  have HR : Hid (NRow celD w a xs) := h
  go_enter Try.func32, Try.ntmps32
  go_wp2_with fail
  go_loopw [7] (fun i wr => ∃ (j : Nat), j ≤ xs.length ∧ i = .int .i64 j ∧ Hid (Below w.heap.size w wr ∧ (xs.all okCd && dupB [] xs) = ((xs.drop j).all okCd && dupB [] xs) ∧ ∀ y ∈ xs.take j, 4 ≤ y.s ∧ y.s ≤ 6)) (fun i _ => xs.length - (intOf i).toNat)
  case atStart => exact ⟨0, Nat.zero_le _, rfl, Below.refl _ _, by rw [List.drop_zero], by simp⟩
  case round =>
    obtain ⟨j, hj, rfl, C⟩ := hrel
    by_cases hlt : j < xs.length
    · obtain ⟨x, hs⟩ : ∃ x, xs[j]? = some x := ⟨xs[j], List.getElem?_eq_getElem hlt⟩
      rcases h with h | ⟨b, off, rfl, hl, h⟩
      · simp [h] at hlt
      obtain ⟨d0, d1, d2, d3, d4, d5, d6, d7, d8, d9⟩ := celD.at ((h j x hs).later C.out.1 hl)
      simp only [show celD.n = 10 from rfl] at d0 d1 d2 d3 d4 d5 d6 d7 d8 d9
      have E : Hid ((xs.all okCd && dupB [] xs) = (okCd x && (xs.drop (j + 1)).all okCd && dupB [] xs)) := by have e := C.out.2.1; rw [drop_at hs] at e; exact e
      have HT : Hid ((∀ y ∈ xs.take j, 4 ≤ y.s ∧ y.s ≤ 6) ∧ xs.take (j + 1) = xs.take j ++ [x]) := ⟨C.out.2.2, take_at hs⟩
      have B : Hid (Below w.heap.size w (wr.alloc (.cells #[.int .i64 x.s, .int .i64 x.k, .int .i64 x.u, .int .i64 x.x.k, .int .i64 x.x.t, .int .i64 x.x.a, .int .i64 x.x.b, .int .i64 x.x.c, .int .i64 x.x.d, .int .i64 x.x.e] 58)) ∧ NumsAt (wr.alloc (.cells #[.int .i64 x.s, .int .i64 x.k, .int .i64 x.u, .int .i64 x.x.k, .int .i64 x.x.t, .int .i64 x.x.a, .int .i64 x.x.b, .int .i64 x.x.c, .int .i64 x.x.d, .int .i64 x.x.e] 58)) wr.heap.size 0 (celD.cs x) ∧ wr.heap.size < (wr.alloc (.cells #[.int .i64 x.s, .int .i64 x.k, .int .i64 x.u, .int .i64 x.x.k, .int .i64 x.x.t, .int .i64 x.x.a, .int .i64 x.x.b, .int .i64 x.x.c, .int .i64 x.x.d, .int .i64 x.x.e] 58)).heap.size) := ⟨C.out.1.alloc C.out.1.size _, numsAt_new wr 58 (celD.cs x), by simp⟩
      clear h C hs
      go_wp2_with fail
      clear d0 d1 d2 d3 d4 d5 d6 d7 d8 d9
      generalize wr.alloc (.cells #[.int .i64 x.s, .int .i64 x.k, .int .i64 x.u, .int .i64 x.x.k, .int .i64 x.x.t, .int .i64 x.x.a, .int .i64 x.x.b, .int .i64 x.x.c, .int .i64 x.x.d, .int .i64 x.x.e] 58) = W at B ⊢
      obtain ⟨p, hp⟩ : ∃ p, p = wr.heap.size := ⟨_, rfl⟩
      rw [← hp] at B ⊢
      clear hp
      obtain ⟨d0, d1, d2, d3, d4, d5, d6, d7, d8, d9⟩ := celD.at B.out.2.1
      simp only [Nat.zero_add] at d1 d2 d3 d4 d5 d6 d7 d8 d9
      refine (isPeer_any _ _).mono ?_
      rintro r w2 ⟨rfl, rfl⟩
      cases t0 : inB x.s 4 6
      · have E3 : Hid ((xs.all okCd && dupB [] xs) = false) := Hid.mk' (by rw [E.out]; simp [okCd, Sl.ok, t0])
        clear E
        go_wp2_with fail
        go_ret
        exact ⟨ret_bool E3.out.symm, B.out.1⟩
      go_wp2_with fail
      refine (isMadeKey_any _ _).mono ?_
      rintro r w2 ⟨rfl, rfl⟩
      cases t1 : inB x.k 10 60
      · have E3 : Hid ((xs.all okCd && dupB [] xs) = false) := Hid.mk' (by rw [E.out]; simp [okCd, Sl.ok, t1])
        clear E
        go_wp2_with fail
        go_ret
        exact ⟨ret_bool E3.out.symm, B.out.1⟩
      go_wp2_with fail
      refine (isTime_any _ _).mono ?_
      rintro r w2 ⟨rfl, rfl⟩
      cases t2 : inB x.u 0 100
      · have E3 : Hid ((xs.all okCd && dupB [] xs) = false) := Hid.mk' (by rw [E.out]; simp [okCd, Sl.ok, t2])
        clear E
        go_wp2_with fail
        go_ret
        exact ⟨ret_bool E3.out.symm, B.out.1⟩
      go_wp2_with fail
      clear d0 d1 d2 d3 d4 d5 d6 d7 d8 d9
      refine (implOk_any x.x.k x.x.t x.x.a x.x.b x.x.c x.x.d x.x.e _).mono ?_
      rintro r w4 ⟨rfl, b9⟩
      have B4 : Hid (Below w.heap.size w w4 ∧ True) := ⟨B.out.1.trans (b9.mono B.out.1.size), trivial⟩
      clear B b9
      cases t3 : okB x.x.k x.x.t x.x.a x.x.b x.x.c x.x.d x.x.e
      · have E3 : Hid ((xs.all okCd && dupB [] xs) = false) := Hid.mk' (by rw [E.out]; simp [okCd, Sl.ok, t3])
        clear E
        go_wp2_with fail
        go_ret
        exact ⟨ret_bool E3.out.symm, B4.out.1⟩
      have E9 : Hid ((xs.all okCd && dupB [] xs) = ((xs.drop (j + 1)).all okCd && dupB [] xs) ∧ ∀ y ∈ xs.take (j + 1), 4 ≤ y.s ∧ y.s ≤ 6) := Hid.mk' (by
        refine ⟨by rw [E.out]; simp [okCd, Sl.ok, t0, t1, t2, t3], fun y hy => ?_⟩
        rw [HT.out.2] at hy
        rcases List.mem_append.1 hy with hy | hy
        · exact HT.out.1 y hy
        · rw [List.mem_singleton.1 hy]; exact peer_of t0)
      clear E HT t0 t1 t2 t3
      go_wp2_with fail
      go_roundw
      case rel => exact ⟨j + 1, by omega, by go_num, B4.out.1, E9.out⟩
      case measure => simp [intOf]; omega
    · obtain rfl : j = xs.length := by omega
      have E : Hid ((xs.all okCd && dupB [] xs) = dupB [] xs ∧ (∀ y ∈ xs, 4 ≤ y.s ∧ y.s ≤ 6) ∧ Below w.heap.size w wr) := by
        obtain ⟨e0, e1, e2⟩ := C.out
        rw [List.drop_length] at e1
        rw [List.take_length] at e2
        exact ⟨e1, e2, e0⟩
      clear h C
      go_wp2_with fail
      refine (purseOf_any a cap xs _ (HR.out.later E.out.2.2) E.out.2.1 hx).mono ?_
      rintro r w2 ⟨m, vo, D, rfl, u2, b2, _⟩
      obtain ⟨av, cv, rfl, _⟩ := u2.own.rows
      have H9 : Hid ((xs.all okCd && dupB [] xs) = decide ((ordS [] xs).length = xs.length) ∧ Below w.heap.size w w2) := ⟨by rw [E.out.1, ← ordS_dup xs []]; simp, E.out.2.2.trans (b2.mono E.out.2.2.size)⟩
      clear E u2 b2
      have hfld := purse_order m av (ordS [] xs).length cv w2
      go_wp2_with fail
      go_ret
      refine ⟨ret_bool ?_, H9.out.2⟩
      rw [H9.out.1]
      refine decide_eq_decide.2 ?_
      omega

end Go.Proofs.Ytaokgbdddgoonaa

namespace Go.Proofs.Ytaokgbdddgoonaa
open Go.RowKit
attribute [local go_sem ↓] Go.wp_at_zero Go.wp_at_succ

set_option maxHeartbeats 4000000 in
set_option maxRecDepth 100000 in
theorem implClientOk_any (i n : Int) (a1 a2 a3 a4 : Option Addr) (c1 c2 c3 c4 : Nat) (ws : List Wn) (cs : List Cd) (ss ms : List Ca) (w : World) (h : CRows w a1 a2 a3 a4 ws cs ss ms) (hc4 : ms.length ≤ c4) (hx1 : ws.length ≤ 1048576) (hx2 : cs.length ≤ 1048576) (hx3 : ss.length ≤ 1048576) (hx4 : ms.length ≤ 1048576) :
    Calls Try.prog 16 #[.agg #[.int .i64 i, .int .i64 n, .slice a1 ws.length c1, .slice a2 cs.length c2, .slice a3 ss.length c3, .slice a4 ms.length c4]] w fun r w' => r = .returned (.bool (clientB i n ws cs ss ms)) ∧ Below w.heap.size w w' := by
  have HB : Hid (Below w.heap.size w (w.alloc (.cells #[.int .i64 i, .int .i64 n, .slice a1 ws.length c1, .slice a2 cs.length c2, .slice a3 ss.length c3, .slice a4 ms.length c4] 36)) ∧ CBlk (w.alloc (.cells #[.int .i64 i, .int .i64 n, .slice a1 ws.length c1, .slice a2 cs.length c2, .slice a3 ss.length c3, .slice a4 ms.length c4] 36)) w.heap.size i n (.slice a1 ws.length c1) (.slice a2 cs.length c2) (.slice a3 ss.length c3) (.slice a4 ms.length c4) ∧ CRows (w.alloc (.cells #[.int .i64 i, .int .i64 n, .slice a1 ws.length c1, .slice a2 cs.length c2, .slice a3 ss.length c3, .slice a4 ms.length c4] 36)) a1 a2 a3 a4 ws cs ss ms) := ⟨Below.alloc_ _ _, CBlk.new _ _ _ _ _ _ _, h.later (Below.alloc_ _ _)⟩
  clear h
  go_enter Try.func16, Try.ntmps16
  go_wp2_with fail
  generalize (w.alloc (.cells #[.int .i64 i, .int .i64 n, .slice a1 ws.length c1, .slice a2 cs.length c2, .slice a3 ss.length c3, .slice a4 ms.length c4] 36)) = W0 at HB ⊢
  refine (isUser_any _ _).mono ?_
  rintro r w0 ⟨rfl, rfl⟩
  cases u1 : inB i 1 3
  · have E9 : Hid (clientB i n ws cs ss ms = false) := Hid.mk' (by simp [clientB, u1])
    go_wp2_with fail
    go_ret
    exact ⟨ret_bool E9.out.symm, HB.out.1⟩
  obtain ⟨p0, p1, p2, p3, p4, p5⟩ := HB.out.2.1.cells
  by_cases v1 : 0 ≤ n
  · by_cases v2 : n ≤ 60
    · have KB : Hid (clientB i n ws cs ss ms = (okWs n 0 ws && (cs.all okCd && dupB [] cs) && okSs n 0 ss && okMs ss [] ms)) := Hid.mk' (by have hi : inB n 0 60 = true := (by simp [inB, v1, v2]); simp [clientB, u1, hi])
      clear u1
      go_wp2_with fail
      clear p0 p1 p2 p3 p4 p5
      refine (areWants_any a1 c1 ws n _ HB.out.2.2.w1 (by omega)).mono ?_
      rintro r w1 ⟨rfl, b9⟩
      have HB2 : Hid (Below w.heap.size w w1 ∧ CBlk w1 w.heap.size i n (.slice a1 ws.length c1) (.slice a2 cs.length c2) (.slice a3 ss.length c3) (.slice a4 ms.length c4) ∧ CRows w1 a1 a2 a3 a4 ws cs ss ms) := ⟨HB.out.1.trans (b9.mono HB.out.1.size), HB.out.2.1.later b9, HB.out.2.2.later b9⟩
      clear HB b9
      have HB := HB2
      clear HB2
      cases t0 : okWs n 0 ws
      · have E9 : Hid (clientB i n ws cs ss ms = false) := Hid.mk' (by rw [KB.out, t0]; simp)
        clear KB
        go_wp2_with fail
        go_ret
        exact ⟨ret_bool E9.out.symm, HB.out.1⟩
      have KB2 : Hid (clientB i n ws cs ss ms = ((cs.all okCd && dupB [] cs) && okSs n 0 ss && okMs ss [] ms)) := Hid.mk' (by rw [KB.out, t0]; simp)
      clear KB t0
      have KB := KB2
      clear KB2
      obtain ⟨p0, p1, p2, p3, p4, p5⟩ := HB.out.2.1.cells
      go_wp2_with fail
      clear p0 p1 p2 p3 p4 p5
      refine (areCreds_any a2 c2 cs _ HB.out.2.2.w2 (by omega)).mono ?_
      rintro r w2 ⟨rfl, b9⟩
      have HB2 : Hid (Below w.heap.size w w2 ∧ CBlk w2 w.heap.size i n (.slice a1 ws.length c1) (.slice a2 cs.length c2) (.slice a3 ss.length c3) (.slice a4 ms.length c4) ∧ CRows w2 a1 a2 a3 a4 ws cs ss ms) := ⟨HB.out.1.trans (b9.mono HB.out.1.size), HB.out.2.1.later b9, HB.out.2.2.later b9⟩
      clear HB b9
      have HB := HB2
      clear HB2
      cases t1 : (cs.all okCd && dupB [] cs)
      · have E9 : Hid (clientB i n ws cs ss ms = false) := Hid.mk' (by rw [KB.out, t1]; simp)
        clear KB
        go_wp2_with fail
        go_ret
        exact ⟨ret_bool E9.out.symm, HB.out.1⟩
      have KB2 : Hid (clientB i n ws cs ss ms = (okSs n 0 ss && okMs ss [] ms)) := Hid.mk' (by rw [KB.out, t1]; simp)
      clear KB t1
      have KB := KB2
      clear KB2
      obtain ⟨p0, p1, p2, p3, p4, p5⟩ := HB.out.2.1.cells
      go_wp2_with fail
      clear p0 p1 p2 p3 p4 p5
      refine (areSent_any a3 c3 ss n _ HB.out.2.2.w3 (by omega)).mono ?_
      rintro r w3 ⟨rfl, b9⟩
      have HB2 : Hid (Below w.heap.size w w3 ∧ CBlk w3 w.heap.size i n (.slice a1 ws.length c1) (.slice a2 cs.length c2) (.slice a3 ss.length c3) (.slice a4 ms.length c4) ∧ CRows w3 a1 a2 a3 a4 ws cs ss ms) := ⟨HB.out.1.trans (b9.mono HB.out.1.size), HB.out.2.1.later b9, HB.out.2.2.later b9⟩
      clear HB b9
      have HB := HB2
      clear HB2
      cases t2 : okSs n 0 ss
      · have E9 : Hid (clientB i n ws cs ss ms = false) := Hid.mk' (by rw [KB.out, t2]; simp)
        clear KB
        go_wp2_with fail
        go_ret
        exact ⟨ret_bool E9.out.symm, HB.out.1⟩
      have KB2 : Hid (clientB i n ws cs ss ms = (okMs ss [] ms)) := Hid.mk' (by rw [KB.out, t2]; simp)
      clear KB t2
      have KB := KB2
      clear KB2
      obtain ⟨p0, p1, p2, p3, p4, p5⟩ := HB.out.2.1.cells
      go_wp2_with fail
      clear p0 p1 p2 p3 p4 p5
      refine (areMet_any a4 c4 ms a3 c3 ss _ HB.out.2.2.w4 HB.out.2.2.w3 hc4 (by omega) (by omega)).mono ?_
      rintro r w4 ⟨rfl, b9⟩
      have HB2 : Hid (Below w.heap.size w w4 ∧ CBlk w4 w.heap.size i n (.slice a1 ws.length c1) (.slice a2 cs.length c2) (.slice a3 ss.length c3) (.slice a4 ms.length c4) ∧ CRows w4 a1 a2 a3 a4 ws cs ss ms) := ⟨HB.out.1.trans (b9.mono HB.out.1.size), HB.out.2.1.later b9, HB.out.2.2.later b9⟩
      clear HB b9
      have HB := HB2
      clear HB2
      cases t3 : okMs ss [] ms
      · have E9 : Hid (clientB i n ws cs ss ms = false) := Hid.mk' (by rw [KB.out, t3])
        clear KB
        go_wp2_with fail
        go_ret
        exact ⟨ret_bool E9.out.symm, HB.out.1⟩
      have E9 : Hid (clientB i n ws cs ss ms = true) := Hid.mk' (by rw [KB.out, t3])
      clear KB
      go_wp2_with fail
      go_ret
      exact ⟨ret_bool E9.out.symm, HB.out.1⟩
    · have E9 : Hid (clientB i n ws cs ss ms = false) := Hid.mk' (by simp [clientB, inB, v2])
      go_wp2_with fail
      go_ret
      exact ⟨ret_bool E9.out.symm, HB.out.1⟩
  · have E9 : Hid (clientB i n ws cs ss ms = false) := Hid.mk' (by simp [clientB, inB, v1])
    go_wp2_with fail
    go_ret
    exact ⟨ret_bool E9.out.symm, HB.out.1⟩

end Go.Proofs.Ytaokgbdddgoonaa
