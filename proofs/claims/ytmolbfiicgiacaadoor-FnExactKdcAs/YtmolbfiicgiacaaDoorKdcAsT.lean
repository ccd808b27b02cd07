/-
  The specification's KdcAs: as the plain mathematics says; its answer is new memory.
-/
import Derived.Test.YtmolbfiicgiacaaDoorKdcAsS
import Derived.Test.YtmolbfiicgiacaaDoorKdcOkS
import Derived.Deep.DeepCutAuto
import Derived.Deep.CutBlock
namespace Go.Proofs.YtmolbfiicgiacaaDoor
open Go.RowKit
attribute [local go_sem ↓] Go.wp_at_zero Go.wp_at_succ

theorem MsgAt.eqs {w w' : World} {b : Nat} {m n k f : Int} {v : Value} (h : MsgAt w b m n k f v) (e : w'.heap[b]? = w.heap[b]?) : MsgAt w' b m n k f v := by
  have hc : ∀ i, w'.cell? ⟨b, i, none⟩ = w.cell? ⟨b, i, none⟩ := fun i => World.cell?_of_block (a := ⟨b, i, none⟩) e
  exact ⟨(hc _).trans h.c0, (hc _).trans h.c1, (hc _).trans h.c2, (hc _).trans h.c3, (hc _).trans h.c4⟩

set_option maxHeartbeats 8000000 in
set_option maxRecDepth 100000 in
theorem specKdcAs_any (n : Int) (a1 : Option Addr) (c1 : Nat) (xs : List Sl) (m cl sv nc : Int) (a : Option Addr) (cap : Nat) (ys : List Sl) (now : Int) (w : World) (h1 : SRow w a1 xs) (hc : xs.length ≤ c1) (hx : xs.length ≤ 1999999) (h : SRow w a ys) (hy : ys.length ≤ 2000000) :
    Calls Tryd.prog 7 #[.agg #[.int .i64 n, .slice a1 xs.length c1], .agg #[.int .i64 m, .int .i64 cl, .int .i64 sv, .int .i64 nc, .slice a ys.length cap], .int .i64 now] w fun r w' => (∃ a' c' a2 c2 B2, r = .returned (.tuple #[.agg #[.int .i64 (asN n xs m cl sv nc ys now), .slice a' (asX n xs now).length c'], .agg #[.int .i64 (ifN (asB n xs m cl sv nc ys now) 2), .int .i64 (ifN (asB n xs m cl sv nc ys now) cl), .int .i64 0, .int .i64 0, .slice a2 (asY n xs m cl sv nc ys now).length c2], .bool (asB n xs m cl sv nc ys now)]) ∧ OwnS w' w.heap.size (.slice a' (asX n xs now).length c') (asX n xs now) ∧ OwnS w' B2 (.slice a2 (asY n xs m cl sv nc ys now).length c2) (asY n xs m cl sv nc ys now) ∧ w.heap.size ≤ B2 ∧ (∀ k, (Value.slice a' (asX n xs now).length c').ownBlock = some k → k < B2)) ∧ Below w.heap.size w w' := by
  have H0 := Ks.new w n (.slice a1 xs.length c1) m cl sv nc (.slice a ys.length cap)
  obtain ⟨W0, hW0⟩ : ∃ W0, W0 = ((((w.alloc (.cells #[.int .i64 n, .slice a1 xs.length c1] 31)).alloc (.cells #[.int .i64 m, .int .i64 cl, .int .i64 sv, .int .i64 nc, .slice a ys.length cap] 33)).alloc (.cells #[.int .i64 0, .slice none 0 0] 31)).alloc (.cells #[.int .i64 0, .int .i64 0, .int .i64 0, .int .i64 0, .slice none 0 0] 33)) := ⟨_, rfl⟩
  rw [← hW0] at H0
  have HH : Hid (Ks w n (.slice a1 xs.length c1) m cl sv nc (.slice a ys.length cap) W0 ∧ SRow W0 a1 xs ∧ SRow W0 a ys) := ⟨H0, h1.later H0.below, h.later H0.below⟩
  clear H0 h1 h
  go_enter Tryd.func7, Tryd.ntmps7
  go_wp2_with fail
  rw [← hW0]
  clear hW0
  refine (specKdcOk_any n a1 c1 xs _ HH.out.2.1 hc (by omega)).mono ?_
  rintro r w1 ⟨rfl, b1⟩
  replace HH : Hid (Ks w n (.slice a1 xs.length c1) m cl sv nc (.slice a ys.length cap) w1 ∧ SRow w1 a1 xs ∧ SRow w1 a ys) := ⟨HH.out.1.later b1, HH.out.2.1.later b1, HH.out.2.2.later b1⟩
  clear b1
  cases hko : kdcB n xs
  ·
    have hoa : okA n xs now = false := by simp [okA, hko]
    have hab : asB n xs m cl sv nc ys now = false := by simp [asB, hoa]
    have E : Hid (asN n xs m cl sv nc ys now = 0 ∧ asX n xs now = [] ∧ asY n xs m cl sv nc ys now = [] ∧ asB n xs m cl sv nc ys now = false) := ⟨by simp [asN, hoa], by simp [asX, hoa], by simp [asY, hab], hab⟩
    clear hoa hab
    obtain ⟨⟨z0, z1, zf⟩, y0, y1, y2, y3, y4, yf⟩ := HH.out.1.cells
    have zl := HH.out.1.size
    go_wp2_with fail
    change bodyPost _ _ _ _ _ (ret7 w1 w.heap.size 0 (.slice none 0 0) 0 0 0 0 (.slice none 0 0))
    have KR := HH.out.1.ret 0 (.slice none 0 0) 0 0 0 0 (.slice none 0 0)
    have KB := ret7_below 0 (.slice none 0 0) 0 0 0 0 (.slice none 0 0) HH.out.1.below
    clear z0 z1 zf y0 y1 y2 y3 y4 yf
    generalize ret7 w1 w.heap.size 0 (.slice none 0 0) 0 0 0 0 (.slice none 0 0) = WZ at KR KB ⊢
    obtain ⟨⟨s0, s1⟩, t0, t1, t2, t3, t4⟩ := KR
    refine bodyPost_ret (v := .tuple #[.agg #[.int .i64 0, .slice none 0 0], .agg #[.int .i64 0, .int .i64 0, .int .i64 0, .int .i64 0, .slice none 0 0], .bool false]) (by simp [results, Tryd.results7, go_sem, s0, s1, t0, t1, t2, t3, t4]) rfl ⟨⟨none, 0, none, 0, w.heap.size, ?_, ?_, ?_, Nat.le_refl _, ?_⟩, KB⟩
    · rw [E.out.1, E.out.2.1, E.out.2.2.1, E.out.2.2.2]; rfl
    · rw [E.out.2.1]; exact OwnS.nil _ _
    · rw [E.out.2.2.1]; exact OwnS.nil _ _
    · intro k hk; rw [E.out.2.1] at hk; cases hk
  · go_wp2_with fail
    refine (l1Time_any now _).mono ?_
    rintro r w2 ⟨rfl, rfl⟩
    cases hti : inB now 0 100
    ·
      have hoa : okA n xs now = false := by simp [okA, hti]
      have hab : asB n xs m cl sv nc ys now = false := by simp [asB, hoa]
      have E : Hid (asN n xs m cl sv nc ys now = 0 ∧ asX n xs now = [] ∧ asY n xs m cl sv nc ys now = [] ∧ asB n xs m cl sv nc ys now = false) := ⟨by simp [asN, hoa], by simp [asX, hoa], by simp [asY, hab], hab⟩
      clear hoa hab
      obtain ⟨⟨z0, z1, zf⟩, y0, y1, y2, y3, y4, yf⟩ := HH.out.1.cells
      have zl := HH.out.1.size
      go_wp2_with fail
      change bodyPost _ _ _ _ _ (ret7 w2 w.heap.size 0 (.slice none 0 0) 0 0 0 0 (.slice none 0 0))
      have KR := HH.out.1.ret 0 (.slice none 0 0) 0 0 0 0 (.slice none 0 0)
      have KB := ret7_below 0 (.slice none 0 0) 0 0 0 0 (.slice none 0 0) HH.out.1.below
      clear z0 z1 zf y0 y1 y2 y3 y4 yf
      generalize ret7 w2 w.heap.size 0 (.slice none 0 0) 0 0 0 0 (.slice none 0 0) = WZ at KR KB ⊢
      obtain ⟨⟨s0, s1⟩, t0, t1, t2, t3, t4⟩ := KR
      refine bodyPost_ret (v := .tuple #[.agg #[.int .i64 0, .slice none 0 0], .agg #[.int .i64 0, .int .i64 0, .int .i64 0, .int .i64 0, .slice none 0 0], .bool false]) (by simp [results, Tryd.results7, go_sem, s0, s1, t0, t1, t2, t3, t4]) rfl ⟨⟨none, 0, none, 0, w.heap.size, ?_, ?_, ?_, Nat.le_refl _, ?_⟩, KB⟩
      · rw [E.out.1, E.out.2.1, E.out.2.2.1, E.out.2.2.2]; rfl
      · rw [E.out.2.1]; exact OwnS.nil _ _
      · rw [E.out.2.2.1]; exact OwnS.nil _ _
      · intro k hk; rw [E.out.2.1] at hk; cases hk
    · have hoa : okA n xs now = true := by simp [okA, hko, hti]
      have hn := inB_is.1 hti
      have hnn : 10 ≤ n := by
        have q2 := inB_is.1 (Bool.and_eq_true_iff.1 hko).1
        omega
      have E : Hid (asN n xs m cl sv nc ys now = upN (canB 1 n m cl sv nc ys) n ∧ asX n xs now = xs ∧ asY n xs m cl sv nc ys now = (ifL (canB 1 n m cl sv nc ys) [tick cl 6 n now (untilA now), part cl 6 n nc (untilA now)]) ∧ asB n xs m cl sv nc ys now = canB 1 n m cl sv nc ys) := ⟨by simp [asN, hoa, upN], by simp [asX, hoa], by simp [asY, asB, hoa, ifL], by simp [asB, hoa]⟩
      clear hoa
      have zl := HH.out.1.size
      go_wp2_with fail
      obtain ⟨W4, hW4⟩ : ∃ W4, W4 = w2 := ⟨_, rfl⟩
      rw [← hW4] at HH zl ⊢
      clear hW4
      refine wp_region_held_drew (S := fun w' => ∀ k, k < W4.heap.size → k ≠ w.heap.size + 2 → k ≠ w.heap.size + 3 → w'.heap[k]? = W4.heap[k]?) (by kernel_rfl) (fun _ _ _ _ => rfl) (fun hS => ?_)
      have hD : Below W4.heap.size W4 W4.drew := (Below.refl _ _).drew
      generalize W4.drew = W5 at hS hD ⊢
      refine take1 0 19 (Value.agg #[.int .i64 n, .slice a1 xs.length c1]) rfl rfl (by kernel_rfl) (by kernel_rfl) (by kernel_rfl) (by rfl) (fun _ _ _ h => h) hS (fun w' hS' => ?_) ?_
      · obtain ⟨p0, p1⟩ := KBlk.cells (HH.out.1.k.eqs (hS' w.heap.size (by omega) (by omega) (by omega)))
        (go_simp) <;> (intro hx9; omega)
      simp only [Act.put, List.setIfInBounds_toArray, List.set_cons_zero, List.set_cons_succ]
      refine take1 2 21 (Value.agg #[.int .i64 m, .int .i64 cl, .int .i64 sv, .int .i64 nc, .slice a ys.length cap]) rfl rfl (by kernel_rfl) (by kernel_rfl) (by kernel_rfl) (by rfl) (fun _ _ _ h => h) hS (fun w' hS' => ?_) ?_
      · have em := hS' (w.heap.size + 1) (by omega) (by omega) (by omega)
        obtain ⟨q0, q1, q2, q3, q4⟩ := HH.out.1.m.eqs em
        (go_simp) <;> (intro hx9; omega)
      simp only [Act.put, List.setIfInBounds_toArray, List.set_cons_zero, List.set_cons_succ]
      refine take1 3 22 (.int .i64 now) rfl rfl (by kernel_rfl) (by kernel_rfl) (by kernel_rfl) (by rfl) (fun _ _ _ h => h) hS (fun w' hS' => ?_) ?_
      · (go_simp) <;> (intro hx9; omega)
      simp only [Act.put, List.setIfInBounds_toArray, List.set_cons_zero, List.set_cons_succ]
      refine wpAnyH_ready (rs := [1]) (by kernel_rfl) (by simp) ?_
      refine AllReadyH.cons rfl (fun K hK => ?_) AllReadyH.nil
      go_simp
      refine (l11Copy_any n a1 c1 xs _ (HH.out.2.1.later hD) hx).mono ?_
      rintro r w3 ⟨⟨a', c', rfl, o3⟩, b3⟩
      have S3 : ∀ k, k < W4.heap.size → k ≠ w.heap.size + 2 → k ≠ w.heap.size + 3 → w3.heap[k]? = W4.heap[k]? := fun k h1 h2 h3 => (b3.block k (by have := hD.size; omega)).trans (hS k h1 h2 h3)
      have H3 : Hid (OwnS w3 W5.heap.size (.slice a' xs.length c') xs ∧ Below W4.heap.size W4 w3 ∧ W5.heap.size ≤ w3.heap.size ∧ W4.heap.size ≤ W5.heap.size) := ⟨o3, hD.trans (b3.mono hD.size), b3.size, hD.size⟩
      clear hD b3 o3
      refine hK.out _ _ S3 (fun hS => ?_)
      clear hK K S3
      refine wpAnyH_ready (rs := [4]) (by kernel_rfl) (by simp) ?_
      refine AllReadyH.cons rfl (fun K hK => ?_) AllReadyH.nil
      go_simp
      refine (l11As_any n a' c' xs m cl sv nc a cap ys now _ (HH.out.2.2.later H3.out.2.1) hy hn hnn).mono ?_
      rintro r w5 ⟨⟨a2, c2, rfl, o5⟩, b5⟩
      have S5 : ∀ k, k < W4.heap.size → k ≠ w.heap.size + 2 → k ≠ w.heap.size + 3 → w5.heap[k]? = W4.heap[k]? := fun k h1 h2 h3 => (b5.block k (by have := H3.out.2.1.size; omega)).trans (hS k h1 h2 h3)
      have H5 : Hid (OwnS w5 W5.heap.size (.slice a' xs.length c') xs ∧ OwnS w5 w3.heap.size (.slice a2 (ifL (canB 1 n m cl sv nc ys) [tick cl 6 n now (untilA now), part cl 6 n nc (untilA now)]).length c2) (ifL (canB 1 n m cl sv nc ys) [tick cl 6 n now (untilA now), part cl 6 n nc (untilA now)]) ∧ Ks w n (.slice a1 xs.length c1) m cl sv nc (.slice a ys.length cap) w5 ∧ W4.heap.size ≤ W5.heap.size ∧ W5.heap.size ≤ w3.heap.size ∧ (∀ k, (Value.slice a' xs.length c').ownBlock = some k → k < w3.heap.size)) := ⟨OwnS.later H3.out.1 b5, o5, HH.out.1.later (H3.out.2.1.trans (b5.mono H3.out.2.1.size)), H3.out.2.2.2, H3.out.2.2.1, fun k hk => (World.ownsRow.lt H3.out.1 k hk).2⟩
      clear H3 b5 o5
      refine hK.out _ _ S5 (fun hS => ?_)
      clear hK K S5
      refine take1 5 24 (Value.agg #[.int .i64 (upN (canB 1 n m cl sv nc ys) n), .slice a' xs.length c']) rfl rfl (by kernel_rfl) (by kernel_rfl) (by kernel_rfl) (by rfl) (fun _ _ _ h => h) hS (fun w' hS' => ?_) ?_
      · (go_simp) <;> (intro hx9; omega)
      simp only [Act.put, List.setIfInBounds_toArray, List.set_cons_zero, List.set_cons_succ]
      refine take1 6 25 (Value.agg #[.int .i64 (ifN (canB 1 n m cl sv nc ys) 2), .int .i64 (ifN (canB 1 n m cl sv nc ys) cl), .int .i64 0, .int .i64 0, .slice a2 (ifL (canB 1 n m cl sv nc ys) [tick cl 6 n now (untilA now), part cl 6 n nc (untilA now)]).length c2]) rfl rfl (by kernel_rfl) (by kernel_rfl) (by kernel_rfl) (by rfl) (fun _ _ _ h => h) hS (fun w' hS' => ?_) ?_
      · (go_simp) <;> (intro hx9; omega)
      simp only [Act.put, List.setIfInBounds_toArray, List.set_cons_zero, List.set_cons_succ]
      refine take1 7 26 (.bool (canB 1 n m cl sv nc ys)) rfl rfl (by kernel_rfl) (by kernel_rfl) (by kernel_rfl) (by rfl) (fun _ _ _ h => h) hS (fun w' hS' => ?_) ?_
      · (go_simp) <;> (intro hx9; omega)
      simp only [Act.put, List.setIfInBounds_toArray, List.set_cons_zero, List.set_cons_succ]
      refine wpAnyH_ready (rs := [8]) (by kernel_rfl) (by simp) ?_
      refine AllReadyH.cons rfl (fun K hK => ?_) AllReadyH.nil
      obtain ⟨⟨z0, z1, zf⟩, _⟩ := H5.out.2.2.1.cells
      have S9 : ∀ k, k < W4.heap.size → k ≠ w.heap.size + 2 → k ≠ w.heap.size + 3 → ((w5.setCell ⟨w.heap.size + 1 + 1, 0, none⟩ (.int .i64 (upN (canB 1 n m cl sv nc ys) n))).setCell ⟨w.heap.size + 1 + 1, 1, none⟩ (.slice a' xs.length c')).heap[k]? = W4.heap[k]? := fun k h1 h2 h3 => by
        have q : ¬ w.heap.size + 1 + 1 = k := fun e => h2 e.symm
        rw [← hS k h1 h2 h3]
        simp [World.setCell, Array.getElem?_modify, q]
      have HSS : Hid (∀ k, k < W4.heap.size → k ≠ w.heap.size + 2 → k ≠ w.heap.size + 3 → w5.heap[k]? = W4.heap[k]?) := hS
      clear hS
      go_simp
      refine hK.out _ _ S9 (fun hS => ?_)
      clear hK K
      refine wpAnyH_ready (rs := [9]) (by kernel_rfl) (by simp) ?_
      refine AllReadyH.cons rfl (fun K hK => ?_) AllReadyH.nil
      obtain ⟨⟨z0, z1, zf⟩, y0, y1, y2, y3, y4, yf⟩ := H5.out.2.2.1.cells
      have S8 : ∀ k, k < W4.heap.size → k ≠ w.heap.size + 2 → k ≠ w.heap.size + 3 → (ret7 w5 w.heap.size (upN (canB 1 n m cl sv nc ys) n) (.slice a' xs.length c') (ifN (canB 1 n m cl sv nc ys) 2) (ifN (canB 1 n m cl sv nc ys) cl) 0 0 (.slice a2 (ifL (canB 1 n m cl sv nc ys) [tick cl 6 n now (untilA now), part cl 6 n nc (untilA now)]).length c2)).heap[k]? = W4.heap[k]? := fun k h1 h2 h3 => (ret7_other _ _ _ _ _ _ _ _ _ _ h2 h3).trans (HSS.out k h1 h2 h3)
      clear hS S9
      go_simp
      change K _ (ret7 w5 w.heap.size (upN (canB 1 n m cl sv nc ys) n) (.slice a' xs.length c') (ifN (canB 1 n m cl sv nc ys) 2) (ifN (canB 1 n m cl sv nc ys) cl) 0 0 (.slice a2 (ifL (canB 1 n m cl sv nc ys) [tick cl 6 n now (untilA now), part cl 6 n nc (untilA now)]).length c2))
      have KR := H5.out.2.2.1.ret (upN (canB 1 n m cl sv nc ys) n) (.slice a' xs.length c') (ifN (canB 1 n m cl sv nc ys) 2) (ifN (canB 1 n m cl sv nc ys) cl) 0 0 (.slice a2 (ifL (canB 1 n m cl sv nc ys) [tick cl 6 n now (untilA now), part cl 6 n nc (untilA now)]).length c2)
      have KB := ret7_below (upN (canB 1 n m cl sv nc ys) n) (.slice a' xs.length c') (ifN (canB 1 n m cl sv nc ys) 2) (ifN (canB 1 n m cl sv nc ys) cl) 0 0 (.slice a2 (ifL (canB 1 n m cl sv nc ys) [tick cl 6 n now (untilA now), part cl 6 n nc (untilA now)]).length c2) H5.out.2.2.1.below
      have KO : OwnS (ret7 w5 w.heap.size (upN (canB 1 n m cl sv nc ys) n) (.slice a' xs.length c') (ifN (canB 1 n m cl sv nc ys) 2) (ifN (canB 1 n m cl sv nc ys) cl) 0 0 (.slice a2 (ifL (canB 1 n m cl sv nc ys) [tick cl 6 n now (untilA now), part cl 6 n nc (untilA now)]).length c2)) W5.heap.size (.slice a' xs.length c') xs := own_keep H5.out.1 fun k hk => ret7_other _ _ _ _ _ _ _ _ _ _ (by have := (World.ownsRow.lt H5.out.1 k hk).1; have := H5.out.2.2.2; omega) (by have := (World.ownsRow.lt H5.out.1 k hk).1; have := H5.out.2.2.2; omega)
      have KW : OwnS (ret7 w5 w.heap.size (upN (canB 1 n m cl sv nc ys) n) (.slice a' xs.length c') (ifN (canB 1 n m cl sv nc ys) 2) (ifN (canB 1 n m cl sv nc ys) cl) 0 0 (.slice a2 (ifL (canB 1 n m cl sv nc ys) [tick cl 6 n now (untilA now), part cl 6 n nc (untilA now)]).length c2)) w3.heap.size (.slice a2 (ifL (canB 1 n m cl sv nc ys) [tick cl 6 n now (untilA now), part cl 6 n nc (untilA now)]).length c2) (ifL (canB 1 n m cl sv nc ys) [tick cl 6 n now (untilA now), part cl 6 n nc (untilA now)]) := own_keep H5.out.2.1 fun k hk => ret7_other _ _ _ _ _ _ _ _ _ _ (by have := (World.ownsRow.lt H5.out.2.1 k hk).1; have := H5.out.2.2.2; omega) (by have := (World.ownsRow.lt H5.out.2.1 k hk).1; have := H5.out.2.2.2; omega)
      have HL : Hid (W4.heap.size ≤ W5.heap.size ∧ W5.heap.size ≤ w3.heap.size ∧ (∀ k, (Value.slice a' xs.length c').ownBlock = some k → k < w3.heap.size)) := H5.out.2.2.2
      clear z0 z1 zf y0 y1 y2 y3 y4 yf HSS H5
      generalize ret7 w5 w.heap.size (upN (canB 1 n m cl sv nc ys) n) (.slice a' xs.length c') (ifN (canB 1 n m cl sv nc ys) 2) (ifN (canB 1 n m cl sv nc ys) cl) 0 0 (.slice a2 (ifL (canB 1 n m cl sv nc ys) [tick cl 6 n now (untilA now), part cl 6 n nc (untilA now)]).length c2) = WZ at S8 KR KB KO KW ⊢
      refine hK.out _ _ S8 (fun hS => ?_)
      clear hK K S8
      refine take1 10 8 (.bool (canB 1 n m cl sv nc ys)) rfl rfl (by kernel_rfl) (by kernel_rfl) (by kernel_rfl) (by rfl) (fun _ _ _ h => h) hS (fun w' hS' => ?_) ?_
      · (go_simp) <;> (intro hx9; omega)
      simp only [Act.put, List.setIfInBounds_toArray, List.set_cons_zero, List.set_cons_succ]
      refine wpAnyH_done (by kernel_rfl) ?_ _
      clear hS
      have HK2 : Hid (Below w.heap.size w WZ ∧ OwnS WZ W5.heap.size (.slice a' xs.length c') xs ∧ OwnS WZ w3.heap.size (.slice a2 (ifL (canB 1 n m cl sv nc ys) [tick cl 6 n now (untilA now), part cl 6 n nc (untilA now)]).length c2) (ifL (canB 1 n m cl sv nc ys) [tick cl 6 n now (untilA now), part cl 6 n nc (untilA now)])) := ⟨KB, KO, KW⟩
      obtain ⟨⟨s0, s1⟩, t0, t1, t2, t3, t4⟩ := KR
      clear KB KO KW
      go_wp2_with fail
      refine bodyPost_ret (v := .tuple #[.agg #[.int .i64 (upN (canB 1 n m cl sv nc ys) n), .slice a' xs.length c'], .agg #[.int .i64 (ifN (canB 1 n m cl sv nc ys) 2), .int .i64 (ifN (canB 1 n m cl sv nc ys) cl), .int .i64 0, .int .i64 0, .slice a2 (ifL (canB 1 n m cl sv nc ys) [tick cl 6 n now (untilA now), part cl 6 n nc (untilA now)]).length c2], .bool (canB 1 n m cl sv nc ys)]) (by simp [results, Tryd.results7, go_sem, s0, s1, t0, t1, t2, t3, t4]) rfl ⟨⟨a', c', a2, c2, w3.heap.size, ?_, ?_, ?_, ?_, ?_⟩, HK2.out.1⟩
      · rw [E.out.1, E.out.2.1, E.out.2.2.1, E.out.2.2.2]
      · rw [E.out.2.1]; exact HK2.out.2.1.less (by have := HL.out; omega)
      · rw [E.out.2.2.1]; exact HK2.out.2.2
      · have := HL.out; omega
      · intro k hk; rw [E.out.2.1] at hk; exact HL.out.2.2 k hk

end Go.Proofs.YtmolbfiicgiacaaDoor
