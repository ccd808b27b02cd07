/-
  The program's look at who answered: each was called, once; nothing that was in memory is turned.
-/
import Derived.Test.YthhdddcgkoaieaaCaIndex
import Derived.Test.YthhdddcgkoaieaaKSkip
namespace Go.Proofs.Ythhdddcgkoaieaa
open Go.RowKit
attribute [local go_sem ↓] Go.wp_at_zero Go.wp_at_succ

theorem NRow.take {X : Type} {C : Cel X} {w : World} {a : Option Addr} {xs : List X} (h : NRow C w a xs) (j : Nat) : NRow C w a (xs.take j) := by
  rcases h with h | ⟨b, off, ha, hl, h⟩
  · exact Or.inl (by rw [h]; simp)
  · exact Or.inr ⟨b, off, ha, hl, fun i s hs => h i s (by rw [List.getElem?_take] at hs; split at hs <;> simp_all)⟩

set_option maxHeartbeats 4000000 in
set_option maxRecDepth 100000 in
theorem areMet_any (a : Option Addr) (cap : Nat) (xs : List Ca) (a2 : Option Addr) (c2 : Nat) (ss : List Ca) (w : World) (h : NRow celC w a xs) (h2 : NRow celC w a2 ss) (hc : xs.length ≤ cap) (hx : xs.length ≤ 2000000) (hx2 : ss.length ≤ 2000000) :
    Calls Try.prog 64 #[.slice a xs.length cap, .slice a2 ss.length c2] w fun r w' => r = .returned (.bool (okMs ss [] xs)) ∧ Below w.heap.size w w' := by
  have HR : Hid (NRow celC w a2 ss) := h2
  clear h2
  go_enter Try.func64, Try.ntmps64
  go_wp2_with fail
  go_loopw [9] (fun i wr => ∃ (j : Nat), j ≤ xs.length ∧ i = .int .i64 j ∧ Hid (Below w.heap.size w wr ∧ okMs ss [] xs = okMs ss (xs.take j) (xs.drop j))) (fun i _ => xs.length - (intOf i).toNat)
  case atStart => exact ⟨0, Nat.zero_le _, rfl, Below.refl _ _, by rw [List.drop_zero, List.take_zero]⟩
  case round =>
    obtain ⟨j, hj, rfl, C⟩ := hrel
    by_cases hlt : j < xs.length
    · obtain ⟨x, hs⟩ : ∃ x, xs[j]? = some x := ⟨xs[j], List.getElem?_eq_getElem hlt⟩
      have HT : Hid (NRow celC wr a (xs.take j)) := (h.take j).later C.out.1
      rcases h with h | ⟨b, off, rfl, hl, h⟩
      · simp [h] at hlt
      obtain ⟨c0, c1, c2', c3⟩ := celC.at ((h j x hs).later C.out.1 hl)
      simp only [show celC.n = 4 from rfl] at c0 c1 c2' c3
      have E : Hid (okMs ss [] xs = (inC x ss && !inC x (xs.take j) && okMs ss (xs.take (j + 1)) (xs.drop (j + 1)))) := by have e := C.out.2; rw [drop_at hs] at e; rw [take_at hs]; exact e
      have CA : Hid (NumsAt (wr.alloc (.cells #[.int .i64 x.p, .int .i64 x.k, .int .i64 x.t, .int .i64 x.n] 73)) wr.heap.size 0 (celC.cs x) ∧ wr.heap.size < (wr.alloc (.cells #[.int .i64 x.p, .int .i64 x.k, .int .i64 x.t, .int .i64 x.n] 73)).heap.size ∧ Below w.heap.size w (wr.alloc (.cells #[.int .i64 x.p, .int .i64 x.k, .int .i64 x.t, .int .i64 x.n] 73)) ∧ NRow celC (wr.alloc (.cells #[.int .i64 x.p, .int .i64 x.k, .int .i64 x.t, .int .i64 x.n] 73)) a2 ss ∧ NRow celC (wr.alloc (.cells #[.int .i64 x.p, .int .i64 x.k, .int .i64 x.t, .int .i64 x.n] 73)) (some ⟨b, off, none⟩) (xs.take j)) := ⟨numsAt_new wr 73 (celC.cs x), by simp, C.out.1.alloc C.out.1.size _, (HR.out.later C.out.1).later (Below.alloc_ _ _), HT.out.later (Below.alloc_ _ _)⟩
      have HC2 : Hid (∀ u : World, NRow celC u (some ⟨b, off, none⟩) (xs.take j) → Calls Try.prog 77 #[.slice (some ⟨b, off, none⟩) j cap, Value.agg #[.int .i64 x.p, .int .i64 x.k, .int .i64 x.t, .int .i64 x.n]] u fun r w' => r = .returned (.bool (inC x (xs.take j))) ∧ Below u.heap.size u w') := by
        intro u hu
        have e := hasC_any (some ⟨b, off, none⟩) cap (xs.take j) x u hu (by simp; omega)
        rw [show (xs.take j).length = j from by simp; omega] at e
        exact e
      clear h C hs HT
      go_wp2_with fail
      clear c0 c1 c2' c3
      generalize wr.alloc (.cells #[.int .i64 x.p, .int .i64 x.k, .int .i64 x.t, .int .i64 x.n] 73) = W at CA ⊢
      obtain ⟨p, hp⟩ : ∃ p, p = wr.heap.size := ⟨_, rfl⟩
      rw [← hp] at CA ⊢
      clear hp
      refine wp_region_held_drew (S := fun w' => Below W.heap.size W w') (by kernel_rfl) (Below.refl _ _).drew (fun hS => ?_)
      generalize W.drew = W1 at hS ⊢
      cases HI : inC x ss
      · have E3 : Hid (okMs ss [] xs = false) := Hid.mk' (by rw [E.out]; simp [HI])
        clear E
        refine take1 0 14 (Value.slice a2 ss.length c2) rfl rfl (by kernel_rfl) (by kernel_rfl) (by kernel_rfl) (by rfl) (fun _ _ _ h => h) hS (fun w' hS' => ?_) ?_
        · (go_simp) <;> (intro hx9; omega)
        simp only [Act.put, List.setIfInBounds_toArray, List.set_cons_zero, List.set_cons_succ]
        refine take1 1 15 (Value.agg #[.int .i64 x.p, .int .i64 x.k, .int .i64 x.t, .int .i64 x.n]) rfl rfl (by kernel_rfl) (by kernel_rfl) (by kernel_rfl) (by rfl) (fun _ _ _ h => h) hS (fun w' hS' => ?_) ?_
        · obtain ⟨c0, c1, c2, c3⟩ := celC.at (CA.out.1.later hS' CA.out.2.1)
          simp only [Nat.zero_add] at c1 c2 c3
          (go_simp) <;> (intro hx9; omega)
        simp only [Act.put, List.setIfInBounds_toArray, List.set_cons_zero, List.set_cons_succ]
        refine wpAnyH_ready (rs := [2]) (by kernel_rfl) (by simp) ?_
        refine AllReadyH.cons rfl (fun K hK => ?_) AllReadyH.nil
        go_simp
        refine (hasC_any a2 c2 ss x _ (CA.out.2.2.2.1.later hS) hx2).mono ?_
        rintro r u1 ⟨rfl, b9⟩
        have S9 : Below W.heap.size W u1 := hS.trans (b9.mono hS.size)
        clear b9
        refine hK.out _ _ S9 (fun hS => ?_)
        clear hK K S9
        simp only [HI]
        refine take1 3 17 (.bool true) rfl rfl (by kernel_rfl) (by kernel_rfl) (by kernel_rfl) (by rfl) (fun _ _ _ h => h) hS (fun w' hS' => ?_) ?_
        · (go_simp) <;> (intro hx9; omega)
        simp only [Act.put, List.setIfInBounds_toArray, List.set_cons_zero, List.set_cons_succ]
        refine take1 4 18 (.bool true) rfl rfl (by kernel_rfl) (by kernel_rfl) (by kernel_rfl) (by rfl) (fun _ _ _ h => h) hS (fun w' hS' => ?_) ?_
        · (go_simp) <;> (intro hx9; omega)
        simp only [Act.put, List.setIfInBounds_toArray, List.set_cons_zero, List.set_cons_succ]
        refine skip1 5 19 rfl rfl (by kernel_rfl) (by kernel_rfl) (by kernel_rfl) (by rfl) (fun _ _ _ h => h) hS ?_
        simp only [Act.put, List.setIfInBounds_toArray, List.set_cons_zero, List.set_cons_succ]
        refine skip1 6 20 rfl rfl (by kernel_rfl) (by kernel_rfl) (by kernel_rfl) (by rfl) (fun _ _ _ h => h) hS ?_
        simp only [Act.put, List.setIfInBounds_toArray, List.set_cons_zero, List.set_cons_succ]
        refine skip1 7 21 rfl rfl (by kernel_rfl) (by kernel_rfl) (by kernel_rfl) (by rfl) (fun _ _ _ h => h) hS ?_
        simp only [Act.put, List.setIfInBounds_toArray, List.set_cons_zero, List.set_cons_succ]
        refine skip1 8 22 rfl rfl (by kernel_rfl) (by kernel_rfl) (by kernel_rfl) (by rfl) (fun _ _ _ h => h) hS ?_
        simp only [Act.put, List.setIfInBounds_toArray, List.set_cons_zero, List.set_cons_succ]
        refine skip1 9 23 rfl rfl (by kernel_rfl) (by kernel_rfl) (by kernel_rfl) (by rfl) (fun _ _ _ h => h) hS ?_
        simp only [Act.put, List.setIfInBounds_toArray, List.set_cons_zero, List.set_cons_succ]
        refine take1 10 24 (.bool true) rfl rfl (by kernel_rfl) (by kernel_rfl) (by kernel_rfl) (by rfl) (fun _ _ _ h => h) hS (fun w' hS' => ?_) ?_
        · (go_simp) <;> (intro hx9; omega)
        simp only [Act.put, List.setIfInBounds_toArray, List.set_cons_zero, List.set_cons_succ]
        refine wpAnyH_done (by kernel_rfl) ?_ _
        have B : Hid (Below w.heap.size w u1) := CA.out.2.2.1.trans (hS.mono CA.out.2.2.1.size)
        clear hS CA HC2 HI
        go_wp2_with fail
        go_ret
        exact ⟨ret_bool E3.out.symm, B.out⟩
      · cases HI2 : inC x (xs.take j)
        · have E3 : Hid (okMs ss [] xs = okMs ss (xs.take (j + 1)) (xs.drop (j + 1))) := Hid.mk' (by rw [E.out]; simp [HI, HI2])
          clear E
          refine take1 0 14 (Value.slice a2 ss.length c2) rfl rfl (by kernel_rfl) (by kernel_rfl) (by kernel_rfl) (by rfl) (fun _ _ _ h => h) hS (fun w' hS' => ?_) ?_
          · (go_simp) <;> (intro hx9; omega)
          simp only [Act.put, List.setIfInBounds_toArray, List.set_cons_zero, List.set_cons_succ]
          refine take1 1 15 (Value.agg #[.int .i64 x.p, .int .i64 x.k, .int .i64 x.t, .int .i64 x.n]) rfl rfl (by kernel_rfl) (by kernel_rfl) (by kernel_rfl) (by rfl) (fun _ _ _ h => h) hS (fun w' hS' => ?_) ?_
          · obtain ⟨c0, c1, c2, c3⟩ := celC.at (CA.out.1.later hS' CA.out.2.1)
            simp only [Nat.zero_add] at c1 c2 c3
            (go_simp) <;> (intro hx9; omega)
          simp only [Act.put, List.setIfInBounds_toArray, List.set_cons_zero, List.set_cons_succ]
          refine wpAnyH_ready (rs := [2]) (by kernel_rfl) (by simp) ?_
          refine AllReadyH.cons rfl (fun K hK => ?_) AllReadyH.nil
          go_simp
          refine (hasC_any a2 c2 ss x _ (CA.out.2.2.2.1.later hS) hx2).mono ?_
          rintro r u1 ⟨rfl, b9⟩
          have S9 : Below W.heap.size W u1 := hS.trans (b9.mono hS.size)
          clear b9
          refine hK.out _ _ S9 (fun hS => ?_)
          clear hK K S9
          simp only [HI]
          refine take1 3 17 (.bool false) rfl rfl (by kernel_rfl) (by kernel_rfl) (by kernel_rfl) (by rfl) (fun _ _ _ h => h) hS (fun w' hS' => ?_) ?_
          · (go_simp) <;> (intro hx9; omega)
          simp only [Act.put, List.setIfInBounds_toArray, List.set_cons_zero, List.set_cons_succ]
          refine take1 4 18 (.bool false) rfl rfl (by kernel_rfl) (by kernel_rfl) (by kernel_rfl) (by rfl) (fun _ _ _ h => h) hS (fun w' hS' => ?_) ?_
          · (go_simp) <;> (intro hx9; omega)
          simp only [Act.put, List.setIfInBounds_toArray, List.set_cons_zero, List.set_cons_succ]
          refine take1 5 19 (Value.slice (some ⟨b, off, none⟩) xs.length cap) rfl rfl (by kernel_rfl) (by kernel_rfl) (by kernel_rfl) (by rfl) (fun _ _ _ h => h) hS (fun w' hS' => ?_) ?_
          · (go_simp) <;> (intro hx9; omega)
          simp only [Act.put, List.setIfInBounds_toArray, List.set_cons_zero, List.set_cons_succ]
          refine take1 6 20 (Value.int .i64 j) rfl rfl (by kernel_rfl) (by kernel_rfl) (by kernel_rfl) (by rfl) (fun _ _ _ h => h) hS (fun w' hS' => ?_) ?_
          · (go_simp) <;> (intro hx9; omega)
          simp only [Act.put, List.setIfInBounds_toArray, List.set_cons_zero, List.set_cons_succ]
          refine take1 7 21 (Value.slice (some ⟨b, off, none⟩) j cap) rfl rfl (by kernel_rfl) (by kernel_rfl) (by kernel_rfl) (by rfl) (fun _ _ _ h => h) hS (fun w' hS' => ?_) ?_
          · (go_simp) <;> (intro hx9; omega)
          simp only [Act.put, List.setIfInBounds_toArray, List.set_cons_zero, List.set_cons_succ]
          refine take1 8 22 (Value.agg #[.int .i64 x.p, .int .i64 x.k, .int .i64 x.t, .int .i64 x.n]) rfl rfl (by kernel_rfl) (by kernel_rfl) (by kernel_rfl) (by rfl) (fun _ _ _ h => h) hS (fun w' hS' => ?_) ?_
          · obtain ⟨c0, c1, c2, c3⟩ := celC.at (CA.out.1.later hS' CA.out.2.1)
            simp only [Nat.zero_add] at c1 c2 c3
            (go_simp) <;> (intro hx9; omega)
          simp only [Act.put, List.setIfInBounds_toArray, List.set_cons_zero, List.set_cons_succ]
          refine wpAnyH_ready (rs := [9]) (by kernel_rfl) (by simp) ?_
          refine AllReadyH.cons rfl (fun K hK => ?_) AllReadyH.nil
          go_simp
          refine (HC2.out u1 (CA.out.2.2.2.2.later hS)).mono ?_
          rintro r u2 ⟨rfl, b9⟩
          have S9 : Below W.heap.size W u2 := hS.trans (b9.mono hS.size)
          clear b9
          refine hK.out _ _ S9 (fun hS => ?_)
          clear hK K S9
          simp only [HI2]
          refine take1 10 24 (.bool false) rfl rfl (by kernel_rfl) (by kernel_rfl) (by kernel_rfl) (by rfl) (fun _ _ _ h => h) hS (fun w' hS' => ?_) ?_
          · (go_simp) <;> (intro hx9; omega)
          simp only [Act.put, List.setIfInBounds_toArray, List.set_cons_zero, List.set_cons_succ]
          refine wpAnyH_done (by kernel_rfl) ?_ _
          have B : Hid (Below w.heap.size w u2) := CA.out.2.2.1.trans (hS.mono CA.out.2.2.1.size)
          clear hS CA HC2 HI HI2
          go_wp2_with fail
          go_roundw
          case rel => exact ⟨j + 1, by omega, by go_num, B.out, E3.out⟩
          case measure => simp [intOf]; omega
        · have E3 : Hid (okMs ss [] xs = false) := Hid.mk' (by rw [E.out]; simp [HI, HI2])
          clear E
          refine take1 0 14 (Value.slice a2 ss.length c2) rfl rfl (by kernel_rfl) (by kernel_rfl) (by kernel_rfl) (by rfl) (fun _ _ _ h => h) hS (fun w' hS' => ?_) ?_
          · (go_simp) <;> (intro hx9; omega)
          simp only [Act.put, List.setIfInBounds_toArray, List.set_cons_zero, List.set_cons_succ]
          refine take1 1 15 (Value.agg #[.int .i64 x.p, .int .i64 x.k, .int .i64 x.t, .int .i64 x.n]) rfl rfl (by kernel_rfl) (by kernel_rfl) (by kernel_rfl) (by rfl) (fun _ _ _ h => h) hS (fun w' hS' => ?_) ?_
          · obtain ⟨c0, c1, c2, c3⟩ := celC.at (CA.out.1.later hS' CA.out.2.1)
            simp only [Nat.zero_add] at c1 c2 c3
            (go_simp) <;> (intro hx9; omega)
          simp only [Act.put, List.setIfInBounds_toArray, List.set_cons_zero, List.set_cons_succ]
          refine wpAnyH_ready (rs := [2]) (by kernel_rfl) (by simp) ?_
          refine AllReadyH.cons rfl (fun K hK => ?_) AllReadyH.nil
          go_simp
          refine (hasC_any a2 c2 ss x _ (CA.out.2.2.2.1.later hS) hx2).mono ?_
          rintro r u1 ⟨rfl, b9⟩
          have S9 : Below W.heap.size W u1 := hS.trans (b9.mono hS.size)
          clear b9
          refine hK.out _ _ S9 (fun hS => ?_)
          clear hK K S9
          simp only [HI]
          refine take1 3 17 (.bool false) rfl rfl (by kernel_rfl) (by kernel_rfl) (by kernel_rfl) (by rfl) (fun _ _ _ h => h) hS (fun w' hS' => ?_) ?_
          · (go_simp) <;> (intro hx9; omega)
          simp only [Act.put, List.setIfInBounds_toArray, List.set_cons_zero, List.set_cons_succ]
          refine take1 4 18 (.bool false) rfl rfl (by kernel_rfl) (by kernel_rfl) (by kernel_rfl) (by rfl) (fun _ _ _ h => h) hS (fun w' hS' => ?_) ?_
          · (go_simp) <;> (intro hx9; omega)
          simp only [Act.put, List.setIfInBounds_toArray, List.set_cons_zero, List.set_cons_succ]
          refine take1 5 19 (Value.slice (some ⟨b, off, none⟩) xs.length cap) rfl rfl (by kernel_rfl) (by kernel_rfl) (by kernel_rfl) (by rfl) (fun _ _ _ h => h) hS (fun w' hS' => ?_) ?_
          · (go_simp) <;> (intro hx9; omega)
          simp only [Act.put, List.setIfInBounds_toArray, List.set_cons_zero, List.set_cons_succ]
          refine take1 6 20 (Value.int .i64 j) rfl rfl (by kernel_rfl) (by kernel_rfl) (by kernel_rfl) (by rfl) (fun _ _ _ h => h) hS (fun w' hS' => ?_) ?_
          · (go_simp) <;> (intro hx9; omega)
          simp only [Act.put, List.setIfInBounds_toArray, List.set_cons_zero, List.set_cons_succ]
          refine take1 7 21 (Value.slice (some ⟨b, off, none⟩) j cap) rfl rfl (by kernel_rfl) (by kernel_rfl) (by kernel_rfl) (by rfl) (fun _ _ _ h => h) hS (fun w' hS' => ?_) ?_
          · (go_simp) <;> (intro hx9; omega)
          simp only [Act.put, List.setIfInBounds_toArray, List.set_cons_zero, List.set_cons_succ]
          refine take1 8 22 (Value.agg #[.int .i64 x.p, .int .i64 x.k, .int .i64 x.t, .int .i64 x.n]) rfl rfl (by kernel_rfl) (by kernel_rfl) (by kernel_rfl) (by rfl) (fun _ _ _ h => h) hS (fun w' hS' => ?_) ?_
          · obtain ⟨c0, c1, c2, c3⟩ := celC.at (CA.out.1.later hS' CA.out.2.1)
            simp only [Nat.zero_add] at c1 c2 c3
            (go_simp) <;> (intro hx9; omega)
          simp only [Act.put, List.setIfInBounds_toArray, List.set_cons_zero, List.set_cons_succ]
          refine wpAnyH_ready (rs := [9]) (by kernel_rfl) (by simp) ?_
          refine AllReadyH.cons rfl (fun K hK => ?_) AllReadyH.nil
          go_simp
          refine (HC2.out u1 (CA.out.2.2.2.2.later hS)).mono ?_
          rintro r u2 ⟨rfl, b9⟩
          have S9 : Below W.heap.size W u2 := hS.trans (b9.mono hS.size)
          clear b9
          refine hK.out _ _ S9 (fun hS => ?_)
          clear hK K S9
          simp only [HI2]
          refine take1 10 24 (.bool true) rfl rfl (by kernel_rfl) (by kernel_rfl) (by kernel_rfl) (by rfl) (fun _ _ _ h => h) hS (fun w' hS' => ?_) ?_
          · (go_simp) <;> (intro hx9; omega)
          simp only [Act.put, List.setIfInBounds_toArray, List.set_cons_zero, List.set_cons_succ]
          refine wpAnyH_done (by kernel_rfl) ?_ _
          have B : Hid (Below w.heap.size w u2) := CA.out.2.2.1.trans (hS.mono CA.out.2.2.1.size)
          clear hS CA HC2 HI HI2
          go_wp2_with fail
          go_ret
          exact ⟨ret_bool E3.out.symm, B.out⟩
    · obtain rfl : j = xs.length := by omega
      have E : Hid (okMs ss [] xs = true) := by have e := C.out.2; rw [List.drop_length] at e; exact e
      clear h
      go_wp2_with fail
      go_ret
      exact ⟨ret_bool E.out.symm, C.out.1⟩

end Go.Proofs.Ythhdddcgkoaieaa
