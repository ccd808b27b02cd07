/-
  The specification's KdcAs: as the plain mathematics says; its answer is new memory.
-/
import Derived.Test.YtmolbfiicgiacaaDoorKdcAsI
import Derived.Test.YtmolbfiicgiacaaDoorKdcOkS
import Derived.Deep.DeepCutAuto
import Derived.Deep.CutBlock
namespace Go.Proofs.YtmolbfiicgiacaaDoor
open Go.RowKit
attribute [local go_sem ↓] Go.wp_at_zero Go.wp_at_succ

/-- The first answer is written. -/
def ret2 (w : World) (b : Nat) (n : Int) (v : Value) : World := (w.setCell ⟨b + 1 + 1, 0, none⟩ (.int .i64 n)).setCell ⟨b + 1 + 1, 1, none⟩ v
/-- The second answer is written. -/
def ret5 (w : World) (b : Nat) (m c s f : Int) (u : Value) : World :=
  ((((w.setCell ⟨b + 1 + 1 + 1, 0, none⟩ (.int .i64 m)).setCell ⟨b + 1 + 1 + 1, 1, none⟩ (.int .i64 c)).setCell ⟨b + 1 + 1 + 1, 2, none⟩ (.int .i64 s)).setCell ⟨b + 1 + 1 + 1, 3, none⟩ (.int .i64 f)).setCell ⟨b + 1 + 1 + 1, 4, none⟩ u
theorem ret5_other (w : World) (b k : Nat) (m c s f : Int) (u : Value) (h2 : k ≠ b + 3) : (ret5 w b m c s f u).heap[k]? = w.heap[k]? := by
  have q2 : ¬ b + 1 + 1 + 1 = k := by omega
  simp [ret5, World.setCell, Array.getElem?_modify, q2]
theorem ret5_below {w w1 : World} (m c s f : Int) (u : Value) (h : Below w.heap.size w w1) : Below w.heap.size w (ret5 w1 w.heap.size m c s f u) :=
  ((((h.setCell (p := ⟨_, _, none⟩) (by simp; omega) _).setCell (p := ⟨_, _, none⟩) (by simp; omega) _).setCell (p := ⟨_, _, none⟩) (by simp; omega) _).setCell (p := ⟨_, _, none⟩) (by simp; omega) _).setCell (p := ⟨_, _, none⟩) (by simp; omega) _
theorem ret5_cells {w1 : World} {b : Nat} {n' : Int} {v' : Value} (h1 : KBlk w1 (b + 1 + 1) n' v') (h2 : w1.heap[b + 1 + 1 + 1]? = some (.cells #[.int .i64 0, .int .i64 0, .int .i64 0, .int .i64 0, .slice none 0 0] 33 (0, 0))) (m' c' s' f' : Int) (u' : Value) :
    ((ret5 w1 b m' c' s' f' u').cell? ⟨b + 1 + 1, 0, none⟩ = some (.int .i64 n') ∧ (ret5 w1 b m' c' s' f' u').cell? ⟨b + 1 + 1, 1, none⟩ = some v') ∧
    ((ret5 w1 b m' c' s' f' u').cell? ⟨b + 1 + 1 + 1, 0, none⟩ = some (.int .i64 m') ∧ (ret5 w1 b m' c' s' f' u').cell? ⟨b + 1 + 1 + 1, 1, none⟩ = some (.int .i64 c') ∧ (ret5 w1 b m' c' s' f' u').cell? ⟨b + 1 + 1 + 1, 2, none⟩ = some (.int .i64 s') ∧ (ret5 w1 b m' c' s' f' u').cell? ⟨b + 1 + 1 + 1, 3, none⟩ = some (.int .i64 f') ∧ (ret5 w1 b m' c' s' f' u').cell? ⟨b + 1 + 1 + 1, 4, none⟩ = some u') := by
  unfold KBlk at h1
  refine ⟨⟨?_, ?_⟩, ?_, ?_, ?_, ?_, ?_⟩
  all_goals simp [ret5, World.cell?, World.setCell, Array.getElem?_modify, h1, h2]
theorem Ks.ret2 {w w1 : World} {n m cl sv nc : Int} {v u : Value} (h : Ks w n v m cl sv nc u w1) (n' : Int) (v' : Value) :
    KBlk (ret2 w1 w.heap.size n' v') (w.heap.size + 1 + 1) n' v' ∧ (ret2 w1 w.heap.size n' v').heap[w.heap.size + 1 + 1 + 1]? = some (.cells #[.int .i64 0, .int .i64 0, .int .i64 0, .int .i64 0, .slice none 0 0] 33 (0, 0)) ∧ Below w.heap.size w (ret2 w1 w.heap.size n' v') := by
  have h1 : w1.heap[w.heap.size + 1 + 1]? = some (.cells #[.int .i64 0, .slice none 0 0] 31 (0, 0)) := h.r1
  have h2 : w1.heap[w.heap.size + 1 + 1 + 1]? = some (.cells #[.int .i64 0, .int .i64 0, .int .i64 0, .int .i64 0, .slice none 0 0] 33 (0, 0)) := h.r2
  refine ⟨?_, ?_, (h.below.setCell (p := ⟨_, _, none⟩) (by simp; omega) _).setCell (p := ⟨_, _, none⟩) (by simp; omega) _⟩
  · unfold KBlk
    simp [Go.Proofs.YtmolbfiicgiacaaDoor.ret2, World.setCell, Array.getElem?_modify, h1]
  · simp [Go.Proofs.YtmolbfiicgiacaaDoor.ret2, World.setCell, Array.getElem?_modify, h2]
theorem KBlk.eqs {w w' : World} {b : Nat} {n : Int} {v : Value} (h : KBlk w b n v) (e : w'.heap[b]? = w.heap[b]?) : KBlk w' b n v := e.trans h

set_option maxHeartbeats 8000000 in
set_option maxRecDepth 100000 in
theorem l11As_any (n : Int) (a1 : Option Addr) (c1 : Nat) (xs : List Sl) (m cl sv nc : Int) (a : Option Addr) (cap : Nat) (ys : List Sl) (now : Int) (w : World) (h : SRow w a ys) (hy : ys.length ≤ 2000000) (hn : 0 ≤ now ∧ now ≤ 100) (hnn : 10 ≤ n) :
    Calls Tryd.prog 22 #[.agg #[.int .i64 n, .slice a1 xs.length c1], .agg #[.int .i64 m, .int .i64 cl, .int .i64 sv, .int .i64 nc, .slice a ys.length cap], .int .i64 now] w fun r w' => (∃ a2 c2, r = .returned (.tuple #[.agg #[.int .i64 (upN (canB 1 n m cl sv nc ys) n), .slice a1 xs.length c1], .agg #[.int .i64 (ifN (canB 1 n m cl sv nc ys) 2), .int .i64 (ifN (canB 1 n m cl sv nc ys) cl), .int .i64 0, .int .i64 0, .slice a2 (ifL (canB 1 n m cl sv nc ys) [tick cl 6 n now (untilA now), part cl 6 n nc (untilA now)]).length c2], .bool (canB 1 n m cl sv nc ys)]) ∧ OwnS w' w.heap.size (.slice a2 (ifL (canB 1 n m cl sv nc ys) [tick cl 6 n now (untilA now), part cl 6 n nc (untilA now)]).length c2) (ifL (canB 1 n m cl sv nc ys) [tick cl 6 n now (untilA now), part cl 6 n nc (untilA now)])) ∧ Below w.heap.size w w' := by
  have H0 := Ks.new w n (.slice a1 xs.length c1) m cl sv nc (.slice a ys.length cap)
  obtain ⟨W0, hW0⟩ : ∃ W0, W0 = ((((w.alloc (.cells #[.int .i64 n, .slice a1 xs.length c1] 31)).alloc (.cells #[.int .i64 m, .int .i64 cl, .int .i64 sv, .int .i64 nc, .slice a ys.length cap] 33)).alloc (.cells #[.int .i64 0, .slice none 0 0] 31)).alloc (.cells #[.int .i64 0, .int .i64 0, .int .i64 0, .int .i64 0, .slice none 0 0] 33)) := ⟨_, rfl⟩
  rw [← hW0] at H0
  have HH : Hid (Ks w n (.slice a1 xs.length c1) m cl sv nc (.slice a ys.length cap) W0 ∧ SRow W0 a ys) := ⟨H0, h.later H0.below⟩
  clear H0 h
  go_enter Tryd.func22, Tryd.ntmps22
  go_upto_region 1 with fail
  rw [← hW0]
  clear hW0
  obtain ⟨q0, q1, q2, q3, q4⟩ := HH.out.1.m
  by_cases hm : m = 1
  · have HM : Hid (m = 1) := hm
    subst hm
    go_wp2_with fail
    clear q0 q1 q2 q3 q4
    refine (specMsg_any 1 cl sv nc a cap ys _ HH.out.2 hy).mono ?_
    rintro r w1 ⟨rfl, b1⟩
    replace HH : Hid (Ks w n (.slice a1 xs.length c1) 1 cl sv nc (.slice a ys.length cap) w1 ∧ True) := ⟨HH.out.1.later b1, trivial⟩
    clear b1
    cases hmb : msgB 1 cl sv nc ys
    · have hcan : canB 1 n 1 cl sv nc ys = false := by simp [canB, hmb]
      obtain ⟨⟨z0, z1, zf⟩, y0, y1, y2, y3, y4, yf⟩ := HH.out.1.cells
      obtain ⟨p0, p1⟩ := HH.out.1.k.cells
      have zl := HH.out.1.size
      have hcn : Hid (canB 1 n 1 cl sv nc ys = false) := hcan
      clear hcan
      go_wp2_with fail
      change bodyPost _ _ _ _ _ (ret7 w1 w.heap.size n (.slice a1 xs.length c1) 0 0 0 0 (.slice none 0 0))
      have KR := HH.out.1.ret n (.slice a1 xs.length c1) 0 0 0 0 (.slice none 0 0)
      have KB := ret7_below n (.slice a1 xs.length c1) 0 0 0 0 (.slice none 0 0) HH.out.1.below
      clear z0 z1 zf y0 y1 y2 y3 y4 yf p0 p1
      generalize ret7 w1 w.heap.size n (.slice a1 xs.length c1) 0 0 0 0 (.slice none 0 0) = WZ at KR KB ⊢
      obtain ⟨⟨s0, s1⟩, t0, t1, t2, t3, t4⟩ := KR
      refine bodyPost_ret (v := .tuple #[.agg #[.int .i64 n, .slice a1 xs.length c1], .agg #[.int .i64 0, .int .i64 0, .int .i64 0, .int .i64 0, .slice none 0 0], .bool false]) (by simp [results, Tryd.results22, go_sem, s0, s1, t0, t1, t2, t3, t4]) rfl ⟨⟨none, 0, ?_, ?_⟩, KB⟩
      · rw [hcn.out]; rfl
      · rw [hcn.out]; exact OwnS.nil _ _
    · by_cases h60 : n ≤ 60
      · have hcan : canB 1 n 1 cl sv nc ys = true := by simp [canB, hmb, h60]
        have HCN : Hid (canB 1 n 1 cl sv nc ys = true) := hcan
        clear hcan
        have hw12 : IntKind.i64.wrap (now + 12) = now + 12 := wrapM (by omega) (by omega)
        have hwn : IntKind.i64.wrap (n + 1) = n + 1 := wrapM (by omega) (by omega)
        obtain ⟨p0, p1⟩ := HH.out.1.k.cells
        go_upto_region 3 with fail
        go_cut [9] (fun v wc => v = .int .i64 (untilA now) ∧ wc = w1)
        case first =>
          by_cases u1 : now + 12 < 100
          · have HU : Hid (now + 12 = untilA now) := by unfold untilA; rw [if_pos u1]; exact rfl
            go_wp2_with fail
            go_meet
            case rel => exact ⟨congrArg (Value.int .i64) HU.out, rfl⟩
          · have HU : Hid (100 = untilA now) := by unfold untilA; rw [if_neg u1]; exact rfl
            by_cases u2 : 100 < now + 12
            · go_wp2_with fail
              go_meet
              case rel => exact ⟨congrArg (Value.int .i64) HU.out, rfl⟩
            · have u3 : now + 12 = 100 := by omega
              go_wp2_with fail
              go_meet
              case rel => exact ⟨congrArg (Value.int .i64) HU.out, rfl⟩
        case rest =>
          obtain ⟨rfl, rfl⟩ := hcut
          have zl := HH.out.1.size
          have l1 : w.heap.size < wc.heap.size := by omega
          have l2 : w.heap.size + 1 < wc.heap.size := by omega
          obtain ⟨q0, q1, q2, q3, q4⟩ := HH.out.1.m
          have f0 : wc.frozen? ⟨w.heap.size, 0, none⟩ = false := by
            have := HH.out.1.k
            unfold KBlk at this
            simp [World.frozen?, this]
          obtain ⟨tb, htb⟩ : ∃ tb, tb = wc.heap.size := ⟨_, rfl⟩
          have HQ0 : Hid (KBlk (((wc.setCell ⟨w.heap.size, 0, none⟩ (.int .i64 (n + 1))).alloc (.cells #[.int .i64 6, .int .i64 1, .int .i64 cl, .int .i64 6, .int .i64 n, .int .i64 now, .int .i64 (untilA now)] 56)).alloc (.cells #[.int .i64 cl, .int .i64 2, .int .i64 6, .int .i64 n, .int .i64 nc, .int .i64 (untilA now), .int .i64 0] 56)) w.heap.size (n + 1) (.slice a1 xs.length c1) ∧ (((wc.setCell ⟨w.heap.size, 0, none⟩ (.int .i64 (n + 1))).alloc (.cells #[.int .i64 6, .int .i64 1, .int .i64 cl, .int .i64 6, .int .i64 n, .int .i64 now, .int .i64 (untilA now)] 56)).alloc (.cells #[.int .i64 cl, .int .i64 2, .int .i64 6, .int .i64 n, .int .i64 nc, .int .i64 (untilA now), .int .i64 0] 56)).cell? ⟨w.heap.size + 1, 1, none⟩ = some (.int .i64 cl) ∧ (((wc.setCell ⟨w.heap.size, 0, none⟩ (.int .i64 (n + 1))).alloc (.cells #[.int .i64 6, .int .i64 1, .int .i64 cl, .int .i64 6, .int .i64 n, .int .i64 now, .int .i64 (untilA now)] 56)).alloc (.cells #[.int .i64 cl, .int .i64 2, .int .i64 6, .int .i64 n, .int .i64 nc, .int .i64 (untilA now), .int .i64 0] 56)).heap[tb]? = some (.cells #[.int .i64 6, .int .i64 1, .int .i64 cl, .int .i64 6, .int .i64 n, .int .i64 now, .int .i64 (untilA now)] 56 (0, 0)) ∧ (((wc.setCell ⟨w.heap.size, 0, none⟩ (.int .i64 (n + 1))).alloc (.cells #[.int .i64 6, .int .i64 1, .int .i64 cl, .int .i64 6, .int .i64 n, .int .i64 now, .int .i64 (untilA now)] 56)).alloc (.cells #[.int .i64 cl, .int .i64 2, .int .i64 6, .int .i64 n, .int .i64 nc, .int .i64 (untilA now), .int .i64 0] 56)).heap[tb + 1]? = some (.cells #[.int .i64 cl, .int .i64 2, .int .i64 6, .int .i64 n, .int .i64 nc, .int .i64 (untilA now), .int .i64 0] 56 (0, 0)) ∧ Ks w (n + 1) (.slice a1 xs.length c1) 1 cl sv nc (.slice a ys.length cap) (((wc.setCell ⟨w.heap.size, 0, none⟩ (.int .i64 (n + 1))).alloc (.cells #[.int .i64 6, .int .i64 1, .int .i64 cl, .int .i64 6, .int .i64 n, .int .i64 now, .int .i64 (untilA now)] 56)).alloc (.cells #[.int .i64 cl, .int .i64 2, .int .i64 6, .int .i64 n, .int .i64 nc, .int .i64 (untilA now), .int .i64 0] 56)) ∧ (((wc.setCell ⟨w.heap.size, 0, none⟩ (.int .i64 (n + 1))).alloc (.cells #[.int .i64 6, .int .i64 1, .int .i64 cl, .int .i64 6, .int .i64 n, .int .i64 now, .int .i64 (untilA now)] 56)).alloc (.cells #[.int .i64 cl, .int .i64 2, .int .i64 6, .int .i64 n, .int .i64 nc, .int .i64 (untilA now), .int .i64 0] 56)).heap.size = wc.heap.size + 2) := by
            have kk := HH.out.1
            have km := kk.m
            have hh : ∀ k, k ≠ w.heap.size → (wc.setCell ⟨w.heap.size, 0, none⟩ (.int .i64 (n + 1))).heap[k]? = wc.heap[k]? := fun k hk => by
              have : ¬ w.heap.size = k := fun e => hk e.symm
              simp [World.setCell, Array.getElem?_modify, this]
            have hc : ∀ i, (wc.setCell ⟨w.heap.size, 0, none⟩ (.int .i64 (n + 1))).cell? ⟨w.heap.size + 1, i, none⟩ = wc.cell? ⟨w.heap.size + 1, i, none⟩ := fun i => World.cell?_of_block (a := ⟨w.heap.size + 1, i, none⟩) (hh (w.heap.size + 1) (by omega))
            have k1 : KBlk (wc.setCell ⟨w.heap.size, 0, none⟩ (.int .i64 (n + 1))) w.heap.size (n + 1) (.slice a1 xs.length c1) := by
              have k0 := kk.k
              unfold KBlk at k0 ⊢
              simp [World.setCell, Array.getElem?_modify, k0]
            have ks : Ks w (n + 1) (.slice a1 xs.length c1) 1 cl sv nc (.slice a ys.length cap) (wc.setCell ⟨w.heap.size, 0, none⟩ (.int .i64 (n + 1))) := ⟨k1, ⟨(hc _).trans km.c0, (hc _).trans km.c1, (hc _).trans km.c2, (hc _).trans km.c3, (hc _).trans km.c4⟩, (hh _ (by omega)).trans kk.r1, (hh _ (by omega)).trans kk.r2, kk.below.setCell (p := ⟨w.heap.size, 0, none⟩) (by simp) _, by simpa using kk.size⟩
            have hsz : (wc.setCell ⟨w.heap.size, 0, none⟩ (.int .i64 (n + 1))).heap.size = wc.heap.size := by simp
            generalize wc.setCell ⟨w.heap.size, 0, none⟩ (.int .i64 (n + 1)) = WX at k1 ks hsz ⊢
            have bb : Below WX.heap.size WX ((WX.alloc (.cells #[.int .i64 6, .int .i64 1, .int .i64 cl, .int .i64 6, .int .i64 n, .int .i64 now, .int .i64 (untilA now)] 56)).alloc (.cells #[.int .i64 cl, .int .i64 2, .int .i64 6, .int .i64 n, .int .i64 nc, .int .i64 (untilA now), .int .i64 0] 56)) := (Below.alloc_ _ _).trans ((Below.alloc_ _ _).mono (by simp))
            refine ⟨k1.later bb, (ks.later bb).m.c1, ?_, ?_, ks.later bb, by simp [hsz]⟩
            · rw [htb, ← hsz, Below.heap_alloc _ _ _ (by simp), heap_alloc_new]
            · have := heap_alloc_new (WX.alloc (.cells #[.int .i64 6, .int .i64 1, .int .i64 cl, .int .i64 6, .int .i64 n, .int .i64 now, .int .i64 (untilA now)] 56)) (.cells #[.int .i64 cl, .int .i64 2, .int .i64 6, .int .i64 n, .int .i64 nc, .int .i64 (untilA now), .int .i64 0] 56)
              rw [htb, ← hsz]
              simpa using this
          have HTB : Hid (tb = wc.heap.size ∧ True) := ⟨htb, trivial⟩
          have ltb : w.heap.size + 4 ≤ tb := by omega
          clear htb
          go_wp2_with fail
          rw [← HTB.out.1]
          rw [← HTB.out.1] at HQ0
          generalize ((wc.setCell ⟨w.heap.size, 0, none⟩ (.int .i64 (n + 1))).alloc (.cells #[.int .i64 6, .int .i64 1, .int .i64 cl, .int .i64 6, .int .i64 n, .int .i64 now, .int .i64 (untilA now)] 56)).alloc (.cells #[.int .i64 cl, .int .i64 2, .int .i64 6, .int .i64 n, .int .i64 nc, .int .i64 (untilA now), .int .i64 0] 56) = W7 at HQ0 ⊢
          have hz7 : tb + 1 < W7.heap.size := by have := HQ0.out.2.2.2.2.2; have := HTB.out; omega
          have hz8 : tb < W7.heap.size := by omega
          have hz9 : w.heap.size + 4 ≤ W7.heap.size := by omega
          have HQ : Hid (KBlk W7 w.heap.size (n + 1) (.slice a1 xs.length c1) ∧ W7.cell? ⟨w.heap.size + 1, 1, none⟩ = some (.int .i64 cl) ∧ W7.heap[tb]? = some (.cells #[.int .i64 6, .int .i64 1, .int .i64 cl, .int .i64 6, .int .i64 n, .int .i64 now, .int .i64 (untilA now)] 56 (0, 0)) ∧ W7.heap[tb + 1]? = some (.cells #[.int .i64 cl, .int .i64 2, .int .i64 6, .int .i64 n, .int .i64 nc, .int .i64 (untilA now), .int .i64 0] 56 (0, 0))) := ⟨HQ0.out.1, HQ0.out.2.1, HQ0.out.2.2.1, HQ0.out.2.2.2.1⟩
          refine wp_region_held_drew (S := fun w' => ∀ k, k < W7.heap.size → k ≠ w.heap.size + 2 → k ≠ w.heap.size + 3 → w'.heap[k]? = W7.heap[k]?) (by kernel_rfl) (fun _ _ _ _ => rfl) (fun hS => ?_)
          have HD : Hid (Ks w (n + 1) (.slice a1 xs.length c1) 1 cl sv nc (.slice a ys.length cap) W7.drew) := HQ0.out.2.2.2.2.1.later (Below.refl _ _).drew
          have hzd : W7.drew.heap.size = W7.heap.size := rfl
          clear HQ0 q0 q1 q2 q3 q4 f0 p0 p1
          generalize W7.drew = W8 at hS HD hzd ⊢
          have hz10 : w.heap.size + 4 ≤ W8.heap.size := by omega
          have hz11 : W7.heap.size ≤ W8.heap.size := by omega
          clear hzd
          refine take1 0 49 (Value.agg #[.int .i64 (n + 1), .slice a1 xs.length c1]) rfl rfl (by kernel_rfl) (by kernel_rfl) (by kernel_rfl) (by rfl) (fun _ _ _ h => h) hS (fun w' hS' => ?_) ?_
          · obtain ⟨p0, p1⟩ := KBlk.cells (HQ.out.1.eqs (hS' _ (by omega) (by omega) (by omega)))
            (go_simp) <;> (intro hx9; omega)
          simp only [Act.put, List.setIfInBounds_toArray, List.set_cons_zero, List.set_cons_succ]
          refine take1 1 50 (Value.pointer (some ⟨w.heap.size + 1, 1, none⟩)) rfl rfl (by kernel_rfl) (by kernel_rfl) (by kernel_rfl) (by rfl) (fun _ _ _ h => h) hS (fun w' hS' => ?_) ?_
          · (go_simp) <;> (intro hx9; omega)
          simp only [Act.put, List.setIfInBounds_toArray, List.set_cons_zero, List.set_cons_succ]
          refine take1 2 51 (.int .i64 cl) rfl rfl (by kernel_rfl) (by kernel_rfl) (by kernel_rfl) (by rfl) (fun _ _ _ h => h) hS (fun w' hS' => ?_) ?_
          · have p0 := (World.cell?_of_block (a := ⟨w.heap.size + 1, 1, none⟩) (hS' (w.heap.size + 1) (by omega) (by omega) (by omega))).trans HQ.out.2.1
            (go_simp) <;> (intro hx9; omega)
          simp only [Act.put, List.setIfInBounds_toArray, List.set_cons_zero, List.set_cons_succ]
          refine take1 3 52 (Value.agg #[.int .i64 6, .int .i64 1, .int .i64 cl, .int .i64 6, .int .i64 n, .int .i64 now, .int .i64 (untilA now)]) rfl rfl (by kernel_rfl) (by kernel_rfl) (by kernel_rfl) (by rfl) (fun _ _ _ h => h) hS (fun w' hS' => ?_) ?_
          · obtain ⟨g0, g1, g2, g3, g4, g5, g6, _⟩ := cells7r ((hS' tb (by omega) (by omega) (by omega)).trans HQ.out.2.2.1)
            (go_simp) <;> (intro hx9; omega)
          simp only [Act.put, List.setIfInBounds_toArray, List.set_cons_zero, List.set_cons_succ]
          refine take1 4 53 (Value.agg #[.int .i64 cl, .int .i64 2, .int .i64 6, .int .i64 n, .int .i64 nc, .int .i64 (untilA now), .int .i64 0]) rfl rfl (by kernel_rfl) (by kernel_rfl) (by kernel_rfl) (by rfl) (fun _ _ _ h => h) hS (fun w' hS' => ?_) ?_
          · obtain ⟨g0, g1, g2, g3, g4, g5, g6, _⟩ := cells7r ((hS' (tb + 1) (by omega) (by omega) (by omega)).trans HQ.out.2.2.2)
            (go_simp) <;> (intro hx9; omega)
          simp only [Act.put, List.setIfInBounds_toArray, List.set_cons_zero, List.set_cons_succ]
          refine wpAnyH_ready (rs := [5, 7]) (by kernel_rfl) (by simp) ?_
          refine AllReadyH.cons rfl (fun K hK => ?_) (AllReadyH.cons rfl (fun K hK => ?_) AllReadyH.nil)
          ·
            go_simp
            have SB : ∀ k, k < W7.heap.size → k ≠ w.heap.size + 2 → k ≠ w.heap.size + 3 → (W8.alloc (.cells #[.int .i64 6, .int .i64 1, .int .i64 cl, .int .i64 6, .int .i64 n, .int .i64 now, .int .i64 (untilA now), .int .i64 cl, .int .i64 2, .int .i64 6, .int .i64 n, .int .i64 nc, .int .i64 (untilA now), .int .i64 0] 56)).heap[k]? = W7.heap[k]? := fun k h1 h2 h3 => (Below.heap_alloc _ _ _ (by omega)).trans (hS k h1 h2 h3)
            have HB : Hid (OwnS (W8.alloc (.cells #[.int .i64 6, .int .i64 1, .int .i64 cl, .int .i64 6, .int .i64 n, .int .i64 now, .int .i64 (untilA now), .int .i64 cl, .int .i64 2, .int .i64 6, .int .i64 n, .int .i64 nc, .int .i64 (untilA now), .int .i64 0] 56)) (w.heap.size + 4) (.slice (some ⟨W8.heap.size, 0, none⟩) 2 2) [tick cl 6 n now (untilA now), part cl 6 n nc (untilA now)] ∧ Ks w (n + 1) (.slice a1 xs.length c1) 1 cl sv nc (.slice a ys.length cap) (W8.alloc (.cells #[.int .i64 6, .int .i64 1, .int .i64 cl, .int .i64 6, .int .i64 n, .int .i64 now, .int .i64 (untilA now), .int .i64 cl, .int .i64 2, .int .i64 6, .int .i64 n, .int .i64 nc, .int .i64 (untilA now), .int .i64 0] 56))) := ⟨⟨rfl, Or.inr ⟨W8.heap.size, 2, _, rfl, by omega, heap_alloc_new _ _, Nat.le_refl _, by unfold maxLen; omega, rfl, rfl⟩⟩, HD.out.later (Below.alloc_ _ _)⟩
            generalize W8.alloc (.cells #[.int .i64 6, .int .i64 1, .int .i64 cl, .int .i64 6, .int .i64 n, .int .i64 now, .int .i64 (untilA now), .int .i64 cl, .int .i64 2, .int .i64 6, .int .i64 n, .int .i64 nc, .int .i64 (untilA now), .int .i64 0] 56) = W9 at SB HB ⊢
            refine hK.out _ _ SB (fun hS => ?_)
            clear hK K SB HD
            refine take1 6 55 (Value.agg #[.int .i64 2, .int .i64 cl, .int .i64 0, .int .i64 0, .slice (some ⟨W8.heap.size, 0, none⟩) 2 2]) rfl rfl (by kernel_rfl) (by kernel_rfl) (by kernel_rfl) (by rfl) (fun _ _ _ h => h) hS (fun w' hS' => ?_) ?_
            · (go_simp) <;> (intro hx9; omega)
            simp only [Act.put, List.setIfInBounds_toArray, List.set_cons_zero, List.set_cons_succ]
            refine wpAnyH_ready (rs := [7]) (by kernel_rfl) (by simp) ?_
            refine AllReadyH.cons rfl (fun K hK => ?_) AllReadyH.nil
            obtain ⟨⟨z0, z1, zf⟩, _⟩ := HB.out.2.cells
            have S9 : ∀ k, k < W7.heap.size → k ≠ w.heap.size + 2 → k ≠ w.heap.size + 3 → ((W9.setCell ⟨w.heap.size + 1 + 1, 0, none⟩ (.int .i64 (n + 1))).setCell ⟨w.heap.size + 1 + 1, 1, none⟩ (.slice a1 xs.length c1)).heap[k]? = W7.heap[k]? := fun k h1 h2 h3 => by
              have q : ¬ w.heap.size + 1 + 1 = k := fun e => h2 e.symm
              rw [← hS k h1 h2 h3]
              simp [World.setCell, Array.getElem?_modify, q]
            have HSS : Hid (∀ k, k < W7.heap.size → k ≠ w.heap.size + 2 → k ≠ w.heap.size + 3 → W9.heap[k]? = W7.heap[k]?) := hS
            clear hS
            go_simp
            refine hK.out _ _ S9 (fun hS => ?_)
            clear hK K
            refine wpAnyH_ready (rs := [8]) (by kernel_rfl) (by simp) ?_
            refine AllReadyH.cons rfl (fun K hK => ?_) AllReadyH.nil
            obtain ⟨⟨z0, z1, zf⟩, y0, y1, y2, y3, y4, yf⟩ := HB.out.2.cells
            have S8 : ∀ k, k < W7.heap.size → k ≠ w.heap.size + 2 → k ≠ w.heap.size + 3 → (ret7 W9 w.heap.size (n + 1) (.slice a1 xs.length c1) 2 cl 0 0 (.slice (some ⟨W8.heap.size, 0, none⟩) 2 2)).heap[k]? = W7.heap[k]? := fun k h1 h2 h3 => (ret7_other _ _ _ _ _ _ _ _ _ _ h2 h3).trans (HSS.out k h1 h2 h3)
            clear hS S9
            go_simp
            change K _ (ret7 W9 w.heap.size (n + 1) (.slice a1 xs.length c1) 2 cl 0 0 (.slice (some ⟨W8.heap.size, 0, none⟩) 2 2))
            have KR := HB.out.2.ret (n + 1) (.slice a1 xs.length c1) 2 cl 0 0 (.slice (some ⟨W8.heap.size, 0, none⟩) 2 2)
            have KB := ret7_below (n + 1) (.slice a1 xs.length c1) 2 cl 0 0 (.slice (some ⟨W8.heap.size, 0, none⟩) 2 2) HB.out.2.below
            have KW : OwnS (ret7 W9 w.heap.size (n + 1) (.slice a1 xs.length c1) 2 cl 0 0 (.slice (some ⟨W8.heap.size, 0, none⟩) 2 2)) (w.heap.size + 4) (.slice (some ⟨W8.heap.size, 0, none⟩) 2 2) [tick cl 6 n now (untilA now), part cl 6 n nc (untilA now)] := own_keep HB.out.1 fun k hk => ret7_other _ _ _ _ _ _ _ _ _ _ (by have := (World.ownsRow.lt HB.out.1 k hk).1; omega) (by have := (World.ownsRow.lt HB.out.1 k hk).1; omega)
            clear z0 z1 zf y0 y1 y2 y3 y4 yf HSS HB
            generalize ret7 W9 w.heap.size (n + 1) (.slice a1 xs.length c1) 2 cl 0 0 (.slice (some ⟨W8.heap.size, 0, none⟩) 2 2) = WZ at S8 KR KB KW ⊢
            refine hK.out _ _ S8 (fun hS => ?_)
            clear hK K S8
            refine take1 9 8 (Value.bool true) rfl rfl (by kernel_rfl) (by kernel_rfl) (by kernel_rfl) (by rfl) (fun _ _ _ h => h) hS (fun w' hS' => ?_) ?_
            · (go_simp) <;> (intro hx9; omega)
            simp only [Act.put, List.setIfInBounds_toArray, List.set_cons_zero, List.set_cons_succ]
            refine wpAnyH_done (by kernel_rfl) ?_ _
            clear hS
            have HK2 : Hid (Below w.heap.size w WZ ∧ OwnS WZ (w.heap.size + 4) (.slice (some ⟨W8.heap.size, 0, none⟩) 2 2) [tick cl 6 n now (untilA now), part cl 6 n nc (untilA now)]) := ⟨KB, KW⟩
            obtain ⟨⟨s0, s1⟩, t0, t1, t2, t3, t4⟩ := KR
            clear KB KW
            go_wp2_with fail
            refine bodyPost_ret (v := .tuple #[.agg #[.int .i64 (n + 1), .slice a1 xs.length c1], .agg #[.int .i64 2, .int .i64 cl, .int .i64 0, .int .i64 0, .slice (some ⟨W8.heap.size, 0, none⟩) 2 2], .bool true]) (by simp [results, Tryd.results22, go_sem, s0, s1, t0, t1, t2, t3, t4]) rfl ⟨⟨some ⟨W8.heap.size, 0, none⟩, 2, ?_, ?_⟩, HK2.out.1⟩
            · rw [HCN.out]; rfl
            · rw [HCN.out]; exact HK2.out.2.less (by omega)
          ·
            obtain ⟨⟨z0, z1, zf⟩, y0, y1, y2, y3, y4, yf⟩ := HD.out.cells
            have S9 : ∀ k, k < W7.heap.size → k ≠ w.heap.size + 2 → k ≠ w.heap.size + 3 → ((W8.setCell ⟨w.heap.size + 1 + 1, 0, none⟩ (.int .i64 (n + 1))).setCell ⟨w.heap.size + 1 + 1, 1, none⟩ (.slice a1 xs.length c1)).heap[k]? = W7.heap[k]? := fun k h1 h2 h3 => by
              have q : ¬ w.heap.size + 1 + 1 = k := fun e => h2 e.symm
              rw [← hS k h1 h2 h3]
              simp [World.setCell, Array.getElem?_modify, q]
            have HT : Hid (ret2 W8 w.heap.size (n + 1) (.slice a1 xs.length c1) = (W8.setCell ⟨w.heap.size + 1 + 1, 0, none⟩ (.int .i64 (n + 1))).setCell ⟨w.heap.size + 1 + 1, 1, none⟩ (.slice a1 xs.length c1)) := rfl
            have KR2 := HD.out.ret2 (n + 1) (.slice a1 xs.length c1)
            clear hS
            go_simp
            change K _ (ret2 W8 w.heap.size (n + 1) (.slice a1 xs.length c1))
            rw [← HT.out] at S9
            have hsz9 : (ret2 W8 w.heap.size (n + 1) (.slice a1 xs.length c1)).heap.size = W8.heap.size := by simp [ret2]
            clear z0 z1 zf y0 y1 y2 y3 y4 yf HT HD
            generalize ret2 W8 w.heap.size (n + 1) (.slice a1 xs.length c1) = W9 at S9 KR2 hsz9 ⊢
            have hz12 : w.heap.size + 4 ≤ W9.heap.size := by omega
            have hz13 : W7.heap.size ≤ W9.heap.size := by omega
            have HR2 : Hid (KBlk W9 (w.heap.size + 1 + 1) (n + 1) (.slice a1 xs.length c1) ∧ W9.heap[w.heap.size + 1 + 1 + 1]? = some (.cells #[.int .i64 0, .int .i64 0, .int .i64 0, .int .i64 0, .slice none 0 0] 33 (0, 0)) ∧ Below w.heap.size w W9) := KR2
            clear KR2 hsz9
            refine hK.out _ _ S9 (fun hS => ?_)
            clear hK K S9
            refine wpAnyH_ready (rs := [5]) (by kernel_rfl) (by simp) ?_
            refine AllReadyH.cons rfl (fun K hK => ?_) AllReadyH.nil
            go_simp
            have SB : ∀ k, k < W7.heap.size → k ≠ w.heap.size + 2 → k ≠ w.heap.size + 3 → (W9.alloc (.cells #[.int .i64 6, .int .i64 1, .int .i64 cl, .int .i64 6, .int .i64 n, .int .i64 now, .int .i64 (untilA now), .int .i64 cl, .int .i64 2, .int .i64 6, .int .i64 n, .int .i64 nc, .int .i64 (untilA now), .int .i64 0] 56)).heap[k]? = W7.heap[k]? := fun k h1 h2 h3 => (Below.heap_alloc _ _ _ (by omega)).trans (hS k h1 h2 h3)
            have HB : Hid (OwnS (W9.alloc (.cells #[.int .i64 6, .int .i64 1, .int .i64 cl, .int .i64 6, .int .i64 n, .int .i64 now, .int .i64 (untilA now), .int .i64 cl, .int .i64 2, .int .i64 6, .int .i64 n, .int .i64 nc, .int .i64 (untilA now), .int .i64 0] 56)) (w.heap.size + 4) (.slice (some ⟨W9.heap.size, 0, none⟩) 2 2) [tick cl 6 n now (untilA now), part cl 6 n nc (untilA now)] ∧ KBlk (W9.alloc (.cells #[.int .i64 6, .int .i64 1, .int .i64 cl, .int .i64 6, .int .i64 n, .int .i64 now, .int .i64 (untilA now), .int .i64 cl, .int .i64 2, .int .i64 6, .int .i64 n, .int .i64 nc, .int .i64 (untilA now), .int .i64 0] 56)) (w.heap.size + 1 + 1) (n + 1) (.slice a1 xs.length c1) ∧ (W9.alloc (.cells #[.int .i64 6, .int .i64 1, .int .i64 cl, .int .i64 6, .int .i64 n, .int .i64 now, .int .i64 (untilA now), .int .i64 cl, .int .i64 2, .int .i64 6, .int .i64 n, .int .i64 nc, .int .i64 (untilA now), .int .i64 0] 56)).heap[w.heap.size + 1 + 1 + 1]? = some (.cells #[.int .i64 0, .int .i64 0, .int .i64 0, .int .i64 0, .slice none 0 0] 33 (0, 0)) ∧ Below w.heap.size w (W9.alloc (.cells #[.int .i64 6, .int .i64 1, .int .i64 cl, .int .i64 6, .int .i64 n, .int .i64 now, .int .i64 (untilA now), .int .i64 cl, .int .i64 2, .int .i64 6, .int .i64 n, .int .i64 nc, .int .i64 (untilA now), .int .i64 0] 56))) := ⟨⟨rfl, Or.inr ⟨W9.heap.size, 2, _, rfl, by omega, heap_alloc_new _ _, Nat.le_refl _, by unfold maxLen; omega, rfl, rfl⟩⟩, HR2.out.1.later (Below.alloc_ _ _), (Below.heap_alloc _ _ _ (by omega)).trans HR2.out.2.1, HR2.out.2.2.alloc HR2.out.2.2.size _⟩
            generalize W9.alloc (.cells #[.int .i64 6, .int .i64 1, .int .i64 cl, .int .i64 6, .int .i64 n, .int .i64 now, .int .i64 (untilA now), .int .i64 cl, .int .i64 2, .int .i64 6, .int .i64 n, .int .i64 nc, .int .i64 (untilA now), .int .i64 0] 56) = WX at SB HB ⊢
            refine hK.out _ _ SB (fun hS => ?_)
            clear hK K SB HR2
            refine take1 6 55 (Value.agg #[.int .i64 2, .int .i64 cl, .int .i64 0, .int .i64 0, .slice (some ⟨W9.heap.size, 0, none⟩) 2 2]) rfl rfl (by kernel_rfl) (by kernel_rfl) (by kernel_rfl) (by rfl) (fun _ _ _ h => h) hS (fun w' hS' => ?_) ?_
            · (go_simp) <;> (intro hx9; omega)
            simp only [Act.put, List.setIfInBounds_toArray, List.set_cons_zero, List.set_cons_succ]
            refine wpAnyH_ready (rs := [8]) (by kernel_rfl) (by simp) ?_
            refine AllReadyH.cons rfl (fun K hK => ?_) AllReadyH.nil
            have h2 := HB.out.2.2.1
            have y0 : WX.cell? ⟨w.heap.size + 1 + 1 + 1, 0, none⟩ = some (.int .i64 0) := by simp [World.cell?, h2]
            have y1 : WX.cell? ⟨w.heap.size + 1 + 1 + 1, 1, none⟩ = some (.int .i64 0) := by simp [World.cell?, h2]
            have y2 : WX.cell? ⟨w.heap.size + 1 + 1 + 1, 2, none⟩ = some (.int .i64 0) := by simp [World.cell?, h2]
            have y3 : WX.cell? ⟨w.heap.size + 1 + 1 + 1, 3, none⟩ = some (.int .i64 0) := by simp [World.cell?, h2]
            have y4 : WX.cell? ⟨w.heap.size + 1 + 1 + 1, 4, none⟩ = some (.slice none 0 0) := by simp [World.cell?, h2]
            have yf : ∀ i, WX.frozen? ⟨w.heap.size + 1 + 1 + 1, i, none⟩ = false := fun i => by simp [World.frozen?, h2]
            have S8 : ∀ k, k < W7.heap.size → k ≠ w.heap.size + 2 → k ≠ w.heap.size + 3 → (ret5 WX w.heap.size 2 cl 0 0 (.slice (some ⟨W9.heap.size, 0, none⟩) 2 2)).heap[k]? = W7.heap[k]? := fun k h1 h2 h3 => (ret5_other _ _ _ _ _ _ _ _ h3).trans (hS k h1 h2 h3)
            clear hS h2
            go_simp
            change K _ (ret5 WX w.heap.size 2 cl 0 0 (.slice (some ⟨W9.heap.size, 0, none⟩) 2 2))
            have KR := ret5_cells HB.out.2.1 HB.out.2.2.1 2 cl 0 0 (.slice (some ⟨W9.heap.size, 0, none⟩) 2 2)
            have KB := ret5_below 2 cl 0 0 (.slice (some ⟨W9.heap.size, 0, none⟩) 2 2) HB.out.2.2.2
            have KW : OwnS (ret5 WX w.heap.size 2 cl 0 0 (.slice (some ⟨W9.heap.size, 0, none⟩) 2 2)) (w.heap.size + 4) (.slice (some ⟨W9.heap.size, 0, none⟩) 2 2) [tick cl 6 n now (untilA now), part cl 6 n nc (untilA now)] := own_keep HB.out.1 fun k hk => ret5_other _ _ _ _ _ _ _ _ (by have := (World.ownsRow.lt HB.out.1 k hk).1; omega)
            clear y0 y1 y2 y3 y4 yf HB
            generalize ret5 WX w.heap.size 2 cl 0 0 (.slice (some ⟨W9.heap.size, 0, none⟩) 2 2) = WZ at S8 KR KB KW ⊢
            refine hK.out _ _ S8 (fun hS => ?_)
            clear hK K S8
            refine take1 9 8 (Value.bool true) rfl rfl (by kernel_rfl) (by kernel_rfl) (by kernel_rfl) (by rfl) (fun _ _ _ h => h) hS (fun w' hS' => ?_) ?_
            · (go_simp) <;> (intro hx9; omega)
            simp only [Act.put, List.setIfInBounds_toArray, List.set_cons_zero, List.set_cons_succ]
            refine wpAnyH_done (by kernel_rfl) ?_ _
            clear hS
            have HK2 : Hid (Below w.heap.size w WZ ∧ OwnS WZ (w.heap.size + 4) (.slice (some ⟨W9.heap.size, 0, none⟩) 2 2) [tick cl 6 n now (untilA now), part cl 6 n nc (untilA now)]) := ⟨KB, KW⟩
            obtain ⟨⟨s0, s1⟩, t0, t1, t2, t3, t4⟩ := KR
            clear KB KW
            go_wp2_with fail
            refine bodyPost_ret (v := .tuple #[.agg #[.int .i64 (n + 1), .slice a1 xs.length c1], .agg #[.int .i64 2, .int .i64 cl, .int .i64 0, .int .i64 0, .slice (some ⟨W9.heap.size, 0, none⟩) 2 2], .bool true]) (by simp [results, Tryd.results22, go_sem, s0, s1, t0, t1, t2, t3, t4]) rfl ⟨⟨some ⟨W9.heap.size, 0, none⟩, 2, ?_, ?_⟩, HK2.out.1⟩
            · rw [HCN.out]; rfl
            · rw [HCN.out]; exact HK2.out.2.less (by omega)
      · have hcan : canB 1 n 1 cl sv nc ys = false := by simp [canB, h60]
        have h61 : (60 : Int) < n := by omega
        obtain ⟨⟨z0, z1, zf⟩, y0, y1, y2, y3, y4, yf⟩ := HH.out.1.cells
        obtain ⟨p0, p1⟩ := HH.out.1.k.cells
        have zl := HH.out.1.size
        have hcn : Hid (canB 1 n 1 cl sv nc ys = false) := hcan
        clear hcan
        go_wp2_with fail
        change bodyPost _ _ _ _ _ (ret7 w1 w.heap.size n (.slice a1 xs.length c1) 0 0 0 0 (.slice none 0 0))
        have KR := HH.out.1.ret n (.slice a1 xs.length c1) 0 0 0 0 (.slice none 0 0)
        have KB := ret7_below n (.slice a1 xs.length c1) 0 0 0 0 (.slice none 0 0) HH.out.1.below
        clear z0 z1 zf y0 y1 y2 y3 y4 yf p0 p1
        generalize ret7 w1 w.heap.size n (.slice a1 xs.length c1) 0 0 0 0 (.slice none 0 0) = WZ at KR KB ⊢
        obtain ⟨⟨s0, s1⟩, t0, t1, t2, t3, t4⟩ := KR
        refine bodyPost_ret (v := .tuple #[.agg #[.int .i64 n, .slice a1 xs.length c1], .agg #[.int .i64 0, .int .i64 0, .int .i64 0, .int .i64 0, .slice none 0 0], .bool false]) (by simp [results, Tryd.results22, go_sem, s0, s1, t0, t1, t2, t3, t4]) rfl ⟨⟨none, 0, ?_, ?_⟩, KB⟩
        · rw [hcn.out]; rfl
        · rw [hcn.out]; exact OwnS.nil _ _
  · have hcan : canB 1 n m cl sv nc ys = false := by simp [canB, hm]
    obtain ⟨⟨z0, z1, zf⟩, y0, y1, y2, y3, y4, yf⟩ := HH.out.1.cells
    obtain ⟨p0, p1⟩ := HH.out.1.k.cells
    have zl := HH.out.1.size
    have hcn : Hid (canB 1 n m cl sv nc ys = false) := hcan
    clear hcan
    go_wp2_with fail
    clear q0 q1 q2 q3 q4
    change bodyPost _ _ _ _ _ (ret7 W0 w.heap.size n (.slice a1 xs.length c1) 0 0 0 0 (.slice none 0 0))
    have KR := HH.out.1.ret n (.slice a1 xs.length c1) 0 0 0 0 (.slice none 0 0)
    have KB := ret7_below n (.slice a1 xs.length c1) 0 0 0 0 (.slice none 0 0) HH.out.1.below
    clear z0 z1 zf y0 y1 y2 y3 y4 yf p0 p1
    generalize ret7 W0 w.heap.size n (.slice a1 xs.length c1) 0 0 0 0 (.slice none 0 0) = WZ at KR KB ⊢
    obtain ⟨⟨s0, s1⟩, t0, t1, t2, t3, t4⟩ := KR
    refine bodyPost_ret (v := .tuple #[.agg #[.int .i64 n, .slice a1 xs.length c1], .agg #[.int .i64 0, .int .i64 0, .int .i64 0, .int .i64 0, .slice none 0 0], .bool false]) (by simp [results, Tryd.results22, go_sem, s0, s1, t0, t1, t2, t3, t4]) rfl ⟨⟨none, 0, ?_, ?_⟩, KB⟩
    · rw [hcn.out]; rfl
    · rw [hcn.out]; exact OwnS.nil _ _

end Go.Proofs.YtmolbfiicgiacaaDoor
