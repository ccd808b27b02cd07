/-
  The program's KdcAs: as the plain mathematics says; its answer is new memory.
-/
import Derived.Test.YtmolbfiicgiacaaDoorKdcAsI
import Derived.Deep.DeepCutAuto
import Derived.Deep.CutBlock
namespace Go.Proofs.YtmolbfiicgiacaaDoor
open Go.RowKit
attribute [local go_sem ↓] Go.wp_at_zero Go.wp_at_succ

set_option maxHeartbeats 8000000 in
set_option maxRecDepth 100000 in
theorem implKdcAs_any (n : Int) (a1 : Option Addr) (c1 : Nat) (xs : List Sl) (m cl sv nc : Int) (a : Option Addr) (cap : Nat) (ys : List Sl) (now : Int) (w : World) (h1 : SRow w a1 xs) (hc : xs.length ≤ c1) (hx : xs.length ≤ 1999999) (h : SRow w a ys) (hy : ys.length ≤ 2000000) (hf : Forms w) :
    Calls Tryd.prog 10 #[.agg #[.int .i64 n, .slice a1 xs.length c1], .agg #[.int .i64 m, .int .i64 cl, .int .i64 sv, .int .i64 nc, .slice a ys.length cap], .int .i64 now] w fun r w' => (∃ a' c' a2 c2 B2, r = .returned (.tuple #[.agg #[.int .i64 (asN n xs m cl sv nc ys now), .slice a' (asX n xs now).length c'], .agg #[.int .i64 (ifN (asB n xs m cl sv nc ys now) 2), .int .i64 (ifN (asB n xs m cl sv nc ys now) cl), .int .i64 0, .int .i64 0, .slice a2 (asY n xs m cl sv nc ys now).length c2], .bool (asB n xs m cl sv nc ys now)]) ∧ OwnS w' w.heap.size (.slice a' (asX n xs now).length c') (asX n xs now) ∧ OwnS w' B2 (.slice a2 (asY n xs m cl sv nc ys now).length c2) (asY n xs m cl sv nc ys now) ∧ w.heap.size ≤ B2 ∧ (∀ k, (Value.slice a' (asX n xs now).length c').ownBlock = some k → k < B2)) ∧ Below w.heap.size w w' := by
  have H0 := Ks.new w n (.slice a1 xs.length c1) m cl sv nc (.slice a ys.length cap)
  obtain ⟨W0, hW0⟩ : ∃ W0, W0 = ((((w.alloc (.cells #[.int .i64 n, .slice a1 xs.length c1] 31)).alloc (.cells #[.int .i64 m, .int .i64 cl, .int .i64 sv, .int .i64 nc, .slice a ys.length cap] 33)).alloc (.cells #[.int .i64 0, .slice none 0 0] 31)).alloc (.cells #[.int .i64 0, .int .i64 0, .int .i64 0, .int .i64 0, .slice none 0 0] 33)) := ⟨_, rfl⟩
  rw [← hW0] at H0
  have HH : Hid (Ks w n (.slice a1 xs.length c1) m cl sv nc (.slice a ys.length cap) W0 ∧ SRow W0 a1 xs ∧ SRow W0 a ys ∧ Forms W0) := ⟨H0, h1.later H0.below, h.later H0.below, hf.later H0.below⟩
  clear H0 h1 h hf
  go_enter Tryd.func10, Tryd.ntmps10
  go_wp2_with fail
  rw [← hW0]
  clear hW0
  refine (implKdcOk_any n a1 c1 xs _ HH.out.2.1 hc).mono ?_
  rintro r w1 ⟨rfl, b1⟩
  replace HH : Hid (Ks w n (.slice a1 xs.length c1) m cl sv nc (.slice a ys.length cap) w1 ∧ SRow w1 a1 xs ∧ SRow w1 a ys ∧ Forms w1) := ⟨HH.out.1.later b1, HH.out.2.1.later b1, HH.out.2.2.1.later b1, HH.out.2.2.2.later b1⟩
  clear b1
  cases hko : kdcB n xs
  ·
    have hoa : okA n xs now = false := by simp [okA, hko]
    have hab : asB n xs m cl sv nc ys now = false := by simp [asB, hoa]
    have E : Hid (asN n xs m cl sv nc ys now = 0 ∧ asX n xs now = [] ∧ asY n xs m cl sv nc ys now = [] ∧ asB n xs m cl sv nc ys now = false) := ⟨by simp [asN, hoa], by simp [asX, hoa], by simp [asY, hab], hab⟩
    clear hoa hab
    obtain ⟨⟨z0, z1, zf⟩, y0, y1, y2, y3, y4, yf⟩ := HH.out.1.cells
    have zl := HH.out.1.size
    go_wp2_with fail
    change bodyPost _ _ _ _ _ (ret7 w1 w.heap.size 0 (.slice none 0 0) 0 0 0 0 (.slice none 0 0))
    have KR := HH.out.1.ret 0 (.slice none 0 0) 0 0 0 0 (.slice none 0 0)
    have KB := ret7_below 0 (.slice none 0 0) 0 0 0 0 (.slice none 0 0) HH.out.1.below
    clear z0 z1 zf y0 y1 y2 y3 y4 yf
    generalize ret7 w1 w.heap.size 0 (.slice none 0 0) 0 0 0 0 (.slice none 0 0) = WZ at KR KB ⊢
    obtain ⟨⟨s0, s1⟩, t0, t1, t2, t3, t4⟩ := KR
    refine bodyPost_ret (v := .tuple #[.agg #[.int .i64 0, .slice none 0 0], .agg #[.int .i64 0, .int .i64 0, .int .i64 0, .int .i64 0, .slice none 0 0], .bool false]) (by simp [results, Tryd.results10, go_sem, s0, s1, t0, t1, t2, t3, t4]) rfl ⟨⟨none, 0, none, 0, w.heap.size, ?_, ?_, ?_, Nat.le_refl _, ?_⟩, KB⟩
    · rw [E.out.1, E.out.2.1, E.out.2.2.1, E.out.2.2.2]; rfl
    · rw [E.out.2.1]; exact OwnS.nil _ _
    · rw [E.out.2.2.1]; exact OwnS.nil _ _
    · intro k hk; rw [E.out.2.1] at hk; cases hk
  · go_wp2_with fail
    refine (isTime_any now _).mono ?_
    rintro r w2 ⟨rfl, rfl⟩
    cases hti : inB now 0 100
    ·
      have hoa : okA n xs now = false := by simp [okA, hti]
      have hab : asB n xs m cl sv nc ys now = false := by simp [asB, hoa]
      have E : Hid (asN n xs m cl sv nc ys now = 0 ∧ asX n xs now = [] ∧ asY n xs m cl sv nc ys now = [] ∧ asB n xs m cl sv nc ys now = false) := ⟨by simp [asN, hoa], by simp [asX, hoa], by simp [asY, hab], hab⟩
      clear hoa hab
      obtain ⟨⟨z0, z1, zf⟩, y0, y1, y2, y3, y4, yf⟩ := HH.out.1.cells
      have zl := HH.out.1.size
      go_wp2_with fail
      change bodyPost _ _ _ _ _ (ret7 w2 w.heap.size 0 (.slice none 0 0) 0 0 0 0 (.slice none 0 0))
      have KR := HH.out.1.ret 0 (.slice none 0 0) 0 0 0 0 (.slice none 0 0)
      have KB := ret7_below 0 (.slice none 0 0) 0 0 0 0 (.slice none 0 0) HH.out.1.below
      clear z0 z1 zf y0 y1 y2 y3 y4 yf
      generalize ret7 w2 w.heap.size 0 (.slice none 0 0) 0 0 0 0 (.slice none 0 0) = WZ at KR KB ⊢
      obtain ⟨⟨s0, s1⟩, t0, t1, t2, t3, t4⟩ := KR
      refine bodyPost_ret (v := .tuple #[.agg #[.int .i64 0, .slice none 0 0], .agg #[.int .i64 0, .int .i64 0, .int .i64 0, .int .i64 0, .slice none 0 0], .bool false]) (by simp [results, Tryd.results10, go_sem, s0, s1, t0, t1, t2, t3, t4]) rfl ⟨⟨none, 0, none, 0, w.heap.size, ?_, ?_, ?_, Nat.le_refl _, ?_⟩, KB⟩
      · rw [E.out.1, E.out.2.1, E.out.2.2.1, E.out.2.2.2]; rfl
      · rw [E.out.2.1]; exact OwnS.nil _ _
      · rw [E.out.2.2.1]; exact OwnS.nil _ _
      · intro k hk; rw [E.out.2.1] at hk; cases hk
    · have hoa : okA n xs now = true := by simp [okA, hko, hti]
      have hn := inB_is.1 hti
      have HOA : Hid (okA n xs now = true) := hoa
      clear hoa
      obtain ⟨p0, p1⟩ := HH.out.1.k.cells
      have zl := HH.out.1.size
      go_wp2_with fail
      refine (copyKdc_any n a1 c1 xs _ HH.out.2.1 hx).mono ?_
      rintro r w3 ⟨⟨a', c', rfl, o3⟩, b3⟩
      have L3 : w.heap.size + 4 ≤ w3.heap.size := by have := b3.size; omega
      have O3 : Hid (OwnS w3 (w.heap.size + 4) (.slice a' xs.length c') xs) := o3.less zl
      have lo : ∀ k, (Value.slice a' xs.length c').ownBlock = some k → w.heap.size + 4 ≤ k ∧ k < w3.heap.size := fun k hk => World.ownsRow.lt O3.out k hk
      have LO : Hid (∀ k, (Value.slice a' xs.length c').ownBlock = some k → w.heap.size + 4 ≤ k ∧ k < w3.heap.size) := lo
      have A3 : Hid (KBlk (w3.alloc (.cells #[.int .i64 n, .slice a' xs.length c'] 31)) w3.heap.size n (.slice a' xs.length c') ∧ OwnS (w3.alloc (.cells #[.int .i64 n, .slice a' xs.length c'] 31)) (w.heap.size + 4) (.slice a' xs.length c') xs ∧ Ks w n (.slice a1 xs.length c1) m cl sv nc (.slice a ys.length cap) (w3.alloc (.cells #[.int .i64 n, .slice a' xs.length c'] 31)) ∧ SRow (w3.alloc (.cells #[.int .i64 n, .slice a' xs.length c'] 31)) a ys ∧ Forms (w3.alloc (.cells #[.int .i64 n, .slice a' xs.length c'] 31))) := by
        have bb := b3.trans ((Below.alloc_ w3 (.cells #[.int .i64 n, .slice a' xs.length c'] 31)).mono b3.size)
        exact ⟨KBlk.new _ _ _, OwnS.later O3.out (Below.alloc_ _ _), HH.out.1.later bb, HH.out.2.2.1.later bb, HH.out.2.2.2.later bb⟩
      have KK := HH.out.1.later b3
      clear p0 p1
      obtain ⟨p0, p1⟩ := KK.k.cells
      obtain ⟨q0, q1, q2, q3, q4⟩ := KK.m
      clear KK HH O3 o3 b3 lo
      have l1 : w.heap.size < w3.heap.size := by omega
      have l2 : w.heap.size + 1 < w3.heap.size := by omega
      go_wp2_with fail
      refine (canAnswer_any n a1 c1 xs m cl sv nc a cap ys 1 _ A3.out.2.2.2.1 hy A3.out.2.2.2.2).mono ?_
      rintro r w4 ⟨rfl, b4⟩
      have HH : Hid (KBlk w4 w3.heap.size n (.slice a' xs.length c') ∧ OwnS w4 (w.heap.size + 4) (.slice a' xs.length c') xs ∧ Ks w n (.slice a1 xs.length c1) m cl sv nc (.slice a ys.length cap) w4) := ⟨A3.out.1.later b4, A3.out.2.1.later b4, A3.out.2.2.1.later b4⟩
      have L4 : w3.heap.size < w4.heap.size := HH.out.1.lt
      clear A3 b4 p0 p1 q0 q1 q2 q3 q4
      cases hcan : canB 1 n m cl sv nc ys
      · have hab : asB n xs m cl sv nc ys now = false := by simp [asB, hcan]
        have E : Hid (asN n xs m cl sv nc ys now = n ∧ asX n xs now = xs ∧ asY n xs m cl sv nc ys now = [] ∧ asB n xs m cl sv nc ys now = false) := ⟨by simp [asN, HOA.out, hcan], by simp [asX, HOA.out], by simp [asY, hab], hab⟩
        clear hab
        obtain ⟨⟨z0, z1, zf⟩, y0, y1, y2, y3, y4, yf⟩ := HH.out.2.2.cells
        obtain ⟨p0, p1⟩ := HH.out.1.cells
        go_wp2_with fail
        change bodyPost _ _ _ _ _ (ret7 w4 w.heap.size n (.slice a' xs.length c') 0 0 0 0 (.slice none 0 0))
        have KR := HH.out.2.2.ret n (.slice a' xs.length c') 0 0 0 0 (.slice none 0 0)
        have KB := ret7_below n (.slice a' xs.length c') 0 0 0 0 (.slice none 0 0) HH.out.2.2.below
        have KO : OwnS (ret7 w4 w.heap.size n (.slice a' xs.length c') 0 0 0 0 (.slice none 0 0)) (w.heap.size + 4) (.slice a' xs.length c') xs := own_keep HH.out.2.1 fun k hk => ret7_other _ _ _ _ _ _ _ _ _ _ (by have := LO.out k hk; omega) (by have := LO.out k hk; omega)
        clear z0 z1 zf y0 y1 y2 y3 y4 yf p0 p1
        generalize ret7 w4 w.heap.size n (.slice a' xs.length c') 0 0 0 0 (.slice none 0 0) = WZ at KR KB KO ⊢
        obtain ⟨⟨s0, s1⟩, t0, t1, t2, t3, t4⟩ := KR
        refine bodyPost_ret (v := .tuple #[.agg #[.int .i64 n, .slice a' xs.length c'], .agg #[.int .i64 0, .int .i64 0, .int .i64 0, .int .i64 0, .slice none 0 0], .bool false]) (by simp [results, Tryd.results10, go_sem, s0, s1, t0, t1, t2, t3, t4]) rfl ⟨⟨a', c', none, 0, w3.heap.size, ?_, ?_, ?_, by omega, ?_⟩, KB⟩
        · rw [E.out.1, E.out.2.1, E.out.2.2.1, E.out.2.2.2]; rfl
        · rw [E.out.2.1]; exact KO.less (by omega)
        · rw [E.out.2.2.1]; exact OwnS.nil _ _
        · intro k hk; rw [E.out.2.1] at hk; exact (LO.out k hk).2
      · have hab : asB n xs m cl sv nc ys now = true := by simp [asB, HOA.out, hcan]
        have E : Hid (asN n xs m cl sv nc ys now = n + 1 ∧ asX n xs now = xs ∧ asY n xs m cl sv nc ys now = [tick cl 6 n now (untilA now), part cl 6 n nc (untilA now)] ∧ asB n xs m cl sv nc ys now = true) := ⟨by simp [asN, HOA.out, hcan], by simp [asX, HOA.out], by simp [asY, hab], hab⟩
        have hnn : 10 ≤ n ∧ n ≤ 60 := by
          have q1 := (Bool.and_eq_true_iff.1 hko).1
          have q2 := inB_is.1 q1
          simp only [canB, Bool.and_eq_true, decide_eq_true_eq] at hcan
          omega
        clear hab
        go_upto_region 6 with fail
        go_cut [10] (fun v wc => ∃ gb, v = .pointer (some ⟨gb, 0, none⟩) ∧ Hid (w3.heap.size < gb ∧ wc.heap[gb]? = some (.cells #[.int .i64 cl, .int .i64 6, .int .i64 n, .int .i64 now, .int .i64 (untilA now), .int .i64 cl, .int .i64 nc] 50 (0, 0)) ∧ KBlk wc w3.heap.size n (.slice a' xs.length c') ∧ OwnS wc (w.heap.size + 4) (.slice a' xs.length c') xs ∧ Ks w n (.slice a1 xs.length c1) m cl sv nc (.slice a ys.length cap) wc))
        case first =>
          obtain ⟨p0, p1⟩ := HH.out.2.2.k.cells
          obtain ⟨q0, q1, q2, q3, q4⟩ := HH.out.2.2.m
          have hw12 : IntKind.i64.wrap (now + 12) = now + 12 := wrapM (by omega) (by omega)
          have key : ∀ t, t = untilA now → (w4.alloc (.cells #[.int .i64 cl, .int .i64 6, .int .i64 n, .int .i64 now, .int .i64 t, .int .i64 cl, .int .i64 nc] 50)).heap[w4.heap.size]? = some (.cells #[.int .i64 cl, .int .i64 6, .int .i64 n, .int .i64 now, .int .i64 (untilA now), .int .i64 cl, .int .i64 nc] 50 (0, 0)) := by
            rintro t rfl
            exact heap_alloc_new _ _
          have KEY : Hid (∀ t, t = untilA now → (w4.alloc (.cells #[.int .i64 cl, .int .i64 6, .int .i64 n, .int .i64 now, .int .i64 t, .int .i64 cl, .int .i64 nc] 50)).heap[w4.heap.size]? = some (.cells #[.int .i64 cl, .int .i64 6, .int .i64 n, .int .i64 now, .int .i64 (untilA now), .int .i64 cl, .int .i64 nc] 50 (0, 0))) := key
          clear key
          have l3 : w.heap.size < w4.heap.size := by omega
          have l4 : w.heap.size + 1 < w4.heap.size := by omega
          by_cases u1 : now + 12 < 100
          · have HU : Hid (now + 12 = untilA now) := by unfold untilA; rw [if_pos u1]; exact rfl
            go_wp2_with fail
            go_meet
            case rel => exact ⟨w4.heap.size, rfl, L4, KEY.out _ HU.out, HH.out.1.later (Below.alloc_ _ _), OwnS.later HH.out.2.1 (Below.alloc_ _ _), HH.out.2.2.later (Below.alloc_ _ _)⟩
          · have HU : Hid (100 = untilA now) := by unfold untilA; rw [if_neg u1]; exact rfl
            by_cases u2 : 100 < now + 12
            · go_wp2_with fail
              go_meet
              case rel => exact ⟨w4.heap.size, rfl, L4, KEY.out _ HU.out, HH.out.1.later (Below.alloc_ _ _), OwnS.later HH.out.2.1 (Below.alloc_ _ _), HH.out.2.2.later (Below.alloc_ _ _)⟩
            · have u3 : now + 12 = 100 := by omega
              go_wp2_with fail
              go_meet
              case rel => exact ⟨w4.heap.size, rfl, L4, KEY.out _ HU.out, HH.out.1.later (Below.alloc_ _ _), OwnS.later HH.out.2.1 (Below.alloc_ _ _), HH.out.2.2.later (Below.alloc_ _ _)⟩
        case rest =>
          clear HH L4
          obtain ⟨gb, rfl, HC⟩ := hcut
          obtain ⟨p0, p1⟩ := HC.out.2.2.1.cells
          have pf : ∀ i, wc.frozen? ⟨w3.heap.size, i, none⟩ = false := fun i => by
            have := HC.out.2.2.1
            unfold KBlk at this
            simp [World.frozen?, this]
          have f0 := pf 0
          have hwn : IntKind.i64.wrap (n + 1) = n + 1 := wrapM (by omega) (by omega)
          have hg3 := HC.out.1
          have HC3 : Hid (w.heap.size + 4 ≤ w3.heap.size ∧ w3.heap.size < gb) := ⟨L3, hg3⟩
          have T1 : Hid ((KBlk (wc.setCell ⟨w3.heap.size, 0, none⟩ (.int .i64 (n + 1))) w3.heap.size (n + 1) (.slice a' xs.length c') ∧ (wc.setCell ⟨w3.heap.size, 0, none⟩ (.int .i64 (n + 1))).heap[gb]? = some (.cells #[.int .i64 cl, .int .i64 6, .int .i64 n, .int .i64 now, .int .i64 (untilA now), .int .i64 cl, .int .i64 nc] 50 (0, 0))) ∧ OwnS (wc.setCell ⟨w3.heap.size, 0, none⟩ (.int .i64 (n + 1))) (w.heap.size + 4) (.slice a' xs.length c') xs ∧ Ks w n (.slice a1 xs.length c1) m cl sv nc (.slice a ys.length cap) (wc.setCell ⟨w3.heap.size, 0, none⟩ (.int .i64 (n + 1)))) := by
            have k1 := HC.out.2.2.1
            have q2 : ¬ w3.heap.size = gb := by omega
            have hh : ∀ k, k ≠ w3.heap.size → (wc.setCell ⟨w3.heap.size, 0, none⟩ (.int .i64 (n + 1))).heap[k]? = wc.heap[k]? := fun k hk => by
              have : ¬ w3.heap.size = k := fun e => hk e.symm
              simp [World.setCell, Array.getElem?_modify, this]
            have kk := HC.out.2.2.2.2
            refine ⟨⟨?_, ?_⟩, own_keep HC.out.2.2.2.1 fun k hk => hh k (by have := LO.out k hk; omega), ?_⟩
            · unfold KBlk at k1 ⊢
              simp [World.setCell, Array.getElem?_modify, k1]
            · exact (hh gb (by omega)).trans HC.out.2.1
            · have km := kk.m
              have e1 : (wc.setCell ⟨w3.heap.size, 0, none⟩ (.int .i64 (n + 1))).heap[w.heap.size + 1]? = wc.heap[w.heap.size + 1]? := hh _ (by omega)
              have hc : ∀ i, (wc.setCell ⟨w3.heap.size, 0, none⟩ (.int .i64 (n + 1))).cell? ⟨w.heap.size + 1, i, none⟩ = wc.cell? ⟨w.heap.size + 1, i, none⟩ := fun i => World.cell?_of_block (a := ⟨w.heap.size + 1, i, none⟩) e1
              exact ⟨(hh _ (by omega)).trans kk.k, ⟨(hc _).trans km.c0, (hc _).trans km.c1, (hc _).trans km.c2, (hc _).trans km.c3, (hc _).trans km.c4⟩, (hh _ (by omega)).trans kk.r1, (hh _ (by omega)).trans kk.r2, kk.below.setCell (p := ⟨w3.heap.size, 0, none⟩) (by simp; omega) _, by simpa using kk.size⟩
          clear HC
          go_wp2_with fail
          generalize wc.setCell ⟨w3.heap.size, 0, none⟩ (.int .i64 (n + 1)) = W7 at T1 ⊢
          refine wp_region_held_drew (S := fun w' => KBlk w' w3.heap.size (n + 1) (.slice a' xs.length c') ∧ w'.heap[gb]? = some (.cells #[.int .i64 cl, .int .i64 6, .int .i64 n, .int .i64 now, .int .i64 (untilA now), .int .i64 cl, .int .i64 nc] 50 (0, 0))) (by kernel_rfl) ⟨T1.out.1.1.later (Below.refl _ _).drew, T1.out.1.2⟩ (fun hS => ?_)
          have HD : Hid (OwnS W7.drew (w.heap.size + 4) (.slice a' xs.length c') xs ∧ Ks w n (.slice a1 xs.length c1) m cl sv nc (.slice a ys.length cap) W7.drew) := ⟨OwnS.later T1.out.2.1 (Below.refl _ _).drew, T1.out.2.2.later (Below.refl _ _).drew⟩
          clear T1 p0 p1 pf f0
          generalize W7.drew = W8 at hS HD ⊢
          refine take1 0 46 (Value.agg #[.int .i64 (n + 1), .slice a' xs.length c']) rfl rfl (by kernel_rfl) (by kernel_rfl) (by kernel_rfl) (by rfl) (fun _ _ _ h => h) hS (fun w' hS' => ?_) ?_
          · obtain ⟨p0, p1⟩ := KBlk.cells hS'.1
            (go_simp) <;> (intro hx9; omega)
          simp only [Act.put, List.setIfInBounds_toArray, List.set_cons_zero, List.set_cons_succ]
          refine take1 1 47 (Value.agg #[.int .i64 cl, .int .i64 6, .int .i64 n, .int .i64 now, .int .i64 (untilA now), .int .i64 cl, .int .i64 nc]) rfl rfl (by kernel_rfl) (by kernel_rfl) (by kernel_rfl) (by rfl) (fun _ _ _ h => h) hS (fun w' hS' => ?_) ?_
          · obtain ⟨g0, g1, g2, g3, g4, g5, g6, _⟩ := cells7r hS'.2
            (go_simp) <;> (intro hx9; omega)
          simp only [Act.put, List.setIfInBounds_toArray, List.set_cons_zero, List.set_cons_succ]
          refine wpAnyH_ready (rs := [2]) (by kernel_rfl) (by simp) ?_
          refine AllReadyH.cons rfl (fun K hK => ?_) AllReadyH.nil
          go_simp
          refine (word_any cl 6 n now (untilA now) cl nc 2 _).mono ?_
          rintro r w6 ⟨⟨wg, rfl, o6⟩, b6⟩
          have S6 : KBlk w6 w3.heap.size (n + 1) (.slice a' xs.length c') ∧ w6.heap[gb]? = some (.cells #[.int .i64 cl, .int .i64 6, .int .i64 n, .int .i64 now, .int .i64 (untilA now), .int .i64 cl, .int .i64 nc] 50 (0, 0)) := ⟨hS.1.later b6, (b6.block _ (Array.getElem?_eq_some_iff.1 hS.2).1).trans hS.2⟩
          have H6 : Hid (OwnS w6 W8.heap.size (.slice (some ⟨wg, 0, none⟩) 2 2) [tick cl 6 n now (untilA now), part cl 6 n nc (untilA now)] ∧ OwnS w6 (w.heap.size + 4) (.slice a' xs.length c') xs ∧ Ks w n (.slice a1 xs.length c1) m cl sv nc (.slice a ys.length cap) w6 ∧ w3.heap.size < W8.heap.size) := ⟨o6, HD.out.1.later b6, HD.out.2.later b6, hS.1.lt⟩
          clear HD b6 o6
          refine hK.out _ _ S6 (fun hS => ?_)
          clear hK K S6
          refine wpAnyH_ready (rs := [3]) (by kernel_rfl) (by simp) ?_
          refine AllReadyH.cons rfl (fun K hK => ?_) AllReadyH.nil
          obtain ⟨⟨z0, z1, zf⟩, _⟩ := H6.out.2.2.1.cells
          have hlg := HC3.out
          have S7 : KBlk ((w6.setCell ⟨w.heap.size + 1 + 1, 0, none⟩ (.int .i64 (n + 1))).setCell ⟨w.heap.size + 1 + 1, 1, none⟩ (.slice a' xs.length c')) w3.heap.size (n + 1) (.slice a' xs.length c') ∧ ((w6.setCell ⟨w.heap.size + 1 + 1, 0, none⟩ (.int .i64 (n + 1))).setCell ⟨w.heap.size + 1 + 1, 1, none⟩ (.slice a' xs.length c')).heap[gb]? = some (.cells #[.int .i64 cl, .int .i64 6, .int .i64 n, .int .i64 now, .int .i64 (untilA now), .int .i64 cl, .int .i64 nc] 50 (0, 0)) := by
            have q1 : ¬ w.heap.size + 1 + 1 = w3.heap.size := by omega
            have q2 : ¬ w.heap.size + 1 + 1 = gb := by omega
            have k1 := hS.1
            unfold KBlk at k1 ⊢
            exact ⟨by simp [World.setCell, Array.getElem?_modify, q1, k1], by simp [World.setCell, Array.getElem?_modify, q2, hS.2]⟩
          have HSS : Hid (KBlk w6 w3.heap.size (n + 1) (.slice a' xs.length c') ∧ w6.heap[gb]? = some (.cells #[.int .i64 cl, .int .i64 6, .int .i64 n, .int .i64 now, .int .i64 (untilA now), .int .i64 cl, .int .i64 nc] 50 (0, 0))) := hS
          clear hS
          go_simp
          refine hK.out _ _ S7 (fun hS => ?_)
          clear hK K
          refine wpAnyH_ready (rs := [4]) (by kernel_rfl) (by simp) ?_
          refine AllReadyH.cons rfl (fun K hK => ?_) AllReadyH.nil
          obtain ⟨⟨z0, z1, zf⟩, y0, y1, y2, y3, y4, yf⟩ := H6.out.2.2.1.cells
          have hlg := HC3.out
          have S8 : KBlk (ret7 w6 w.heap.size (n + 1) (.slice a' xs.length c') 2 cl 0 0 (.slice (some ⟨wg, 0, none⟩) 2 2)) w3.heap.size (n + 1) (.slice a' xs.length c') ∧ (ret7 w6 w.heap.size (n + 1) (.slice a' xs.length c') 2 cl 0 0 (.slice (some ⟨wg, 0, none⟩) 2 2)).heap[gb]? = some (.cells #[.int .i64 cl, .int .i64 6, .int .i64 n, .int .i64 now, .int .i64 (untilA now), .int .i64 cl, .int .i64 nc] 50 (0, 0)) := by
            refine ⟨?_, (ret7_other _ _ _ _ _ _ _ _ _ _ (by omega) (by omega)).trans HSS.out.2⟩
            have := HSS.out.1
            unfold KBlk at this ⊢
            exact (ret7_other _ _ _ _ _ _ _ _ _ _ (by omega) (by omega)).trans this
          clear hS S7
          go_simp
          change K _ (ret7 w6 w.heap.size (n + 1) (.slice a' xs.length c') 2 cl 0 0 (.slice (some ⟨wg, 0, none⟩) 2 2))
          have KR := H6.out.2.2.1.ret (n + 1) (.slice a' xs.length c') 2 cl 0 0 (.slice (some ⟨wg, 0, none⟩) 2 2)
          have KB := ret7_below (n + 1) (.slice a' xs.length c') 2 cl 0 0 (.slice (some ⟨wg, 0, none⟩) 2 2) H6.out.2.2.1.below
          have KO : OwnS (ret7 w6 w.heap.size (n + 1) (.slice a' xs.length c') 2 cl 0 0 (.slice (some ⟨wg, 0, none⟩) 2 2)) (w.heap.size + 4) (.slice a' xs.length c') xs := own_keep H6.out.2.1 fun k hk => ret7_other _ _ _ _ _ _ _ _ _ _ (by have := LO.out k hk; omega) (by have := LO.out k hk; omega)
          have KW : OwnS (ret7 w6 w.heap.size (n + 1) (.slice a' xs.length c') 2 cl 0 0 (.slice (some ⟨wg, 0, none⟩) 2 2)) W8.heap.size (.slice (some ⟨wg, 0, none⟩) 2 2) [tick cl 6 n now (untilA now), part cl 6 n nc (untilA now)] := own_keep H6.out.1 fun k hk => ret7_other _ _ _ _ _ _ _ _ _ _ (by have := (World.ownsRow.lt H6.out.1 k hk).1; have := H6.out.2.2.2; omega) (by have := (World.ownsRow.lt H6.out.1 k hk).1; have := H6.out.2.2.2; omega)
          have HW8 : Hid (w3.heap.size < W8.heap.size) := H6.out.2.2.2
          clear z0 z1 zf y0 y1 y2 y3 y4 yf HSS H6
          generalize ret7 w6 w.heap.size (n + 1) (.slice a' xs.length c') 2 cl 0 0 (.slice (some ⟨wg, 0, none⟩) 2 2) = WZ at S8 KR KB KO KW ⊢
          refine hK.out _ _ S8 (fun hS => ?_)
          clear hK K S8
          refine take1 5 8 (Value.bool true) rfl rfl (by kernel_rfl) (by kernel_rfl) (by kernel_rfl) (by rfl) (fun _ _ _ h => h) hS (fun w' hS' => ?_) ?_
          · (go_simp) <;> (intro hx9; omega)
          simp only [Act.put, List.setIfInBounds_toArray, List.set_cons_zero, List.set_cons_succ]
          refine wpAnyH_done (by kernel_rfl) ?_ _
          clear hS
          have HK2 : Hid (Below w.heap.size w WZ ∧ OwnS WZ (w.heap.size + 4) (.slice a' xs.length c') xs ∧ OwnS WZ W8.heap.size (.slice (some ⟨wg, 0, none⟩) 2 2) [tick cl 6 n now (untilA now), part cl 6 n nc (untilA now)]) := ⟨KB, KO, KW⟩
          obtain ⟨⟨s0, s1⟩, t0, t1, t2, t3, t4⟩ := KR
          clear KB KO KW
          go_wp2_with fail
          refine bodyPost_ret (v := .tuple #[.agg #[.int .i64 (n + 1), .slice a' xs.length c'], .agg #[.int .i64 2, .int .i64 cl, .int .i64 0, .int .i64 0, .slice (some ⟨wg, 0, none⟩) 2 2], .bool true]) (by simp [results, Tryd.results10, go_sem, s0, s1, t0, t1, t2, t3, t4]) rfl ⟨⟨a', c', some ⟨wg, 0, none⟩, 2, W8.heap.size, ?_, ?_, ?_, ?_, ?_⟩, HK2.out.1⟩
          · rw [E.out.1, E.out.2.1, E.out.2.2.1, E.out.2.2.2]; rfl
          · rw [E.out.2.1]; exact HK2.out.2.1.less (by omega)
          · rw [E.out.2.2.1]; exact HK2.out.2.2
          · have := HW8.out; omega
          · intro k hk; rw [E.out.2.1] at hk; have := LO.out k hk; have := HW8.out; omega

end Go.Proofs.YtmolbfiicgiacaaDoor
