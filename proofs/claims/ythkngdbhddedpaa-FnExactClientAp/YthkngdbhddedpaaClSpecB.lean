/-
  The specification's ClientOk: as the plain mathematics says; nothing that was in memory is turned.
-/
import Derived.Test.YthkngdbhddedpaaClSpecA
namespace Go.Proofs.Ythkngdbhddedpaa
open Go.RowKit
attribute [local go_sem ↓] Go.wp_at_zero Go.wp_at_succ

/-- The number told last ahead of a place. -/
def lastW (ws : List Wn) (j : Nat) : Int := match ws[j - 1]? with
  | none => 0
  | some y => if j = 0 then 0 else y.n
def lastS (ss : List Ca) (j : Nat) : Int := match ss[j - 1]? with
  | none => 0
  | some y => if j = 0 then 0 else y.n
theorem lastW_zero (ws : List Wn) : lastW ws 0 = 0 := by unfold lastW; cases ws[0 - 1]? <;> rfl
theorem lastS_zero (ss : List Ca) : lastS ss 0 = 0 := by unfold lastS; cases ss[0 - 1]? <;> rfl
theorem lastW_succ {ws : List Wn} {j : Nat} {x : Wn} (h : ws[j]? = some x) : lastW ws (j + 1) = x.n := by unfold lastW; simp [h]
theorem lastS_succ {ss : List Ca} {j : Nat} {x : Ca} (h : ss[j]? = some x) : lastS ss (j + 1) = x.n := by unfold lastS; simp [h]

set_option maxHeartbeats 20000000 in
set_option maxRecDepth 100000 in
theorem specClientOk_any (i n : Int) (a1 a2 a3 a4 : Option Addr) (c1 c2 c3 c4 : Nat) (ws : List Wn) (cs : List Cd) (ss ms : List Ca) (w : World) (h : CRows w a1 a2 a3 a4 ws cs ss ms) (hc4 : ms.length ≤ c4) (hx1 : ws.length ≤ 1048576) (hx2 : cs.length ≤ 1048576) (hx3 : ss.length ≤ 1048576) (hx4 : ms.length ≤ 1048576) :
    Calls Try.prog 20 #[.agg #[.int .i64 i, .int .i64 n, .slice a1 ws.length c1, .slice a2 cs.length c2, .slice a3 ss.length c3, .slice a4 ms.length c4]] w fun r w' => r = .returned (.bool (clientB i n ws cs ss ms)) ∧ Below w.heap.size w w' := by
  have HB : Hid (Below w.heap.size w (w.alloc (.cells #[.int .i64 i, .int .i64 n, .slice a1 ws.length c1, .slice a2 cs.length c2, .slice a3 ss.length c3, .slice a4 ms.length c4] 32)) ∧ CBlk (w.alloc (.cells #[.int .i64 i, .int .i64 n, .slice a1 ws.length c1, .slice a2 cs.length c2, .slice a3 ss.length c3, .slice a4 ms.length c4] 32)) w.heap.size i n (.slice a1 ws.length c1) (.slice a2 cs.length c2) (.slice a3 ss.length c3) (.slice a4 ms.length c4) ∧ CRows (w.alloc (.cells #[.int .i64 i, .int .i64 n, .slice a1 ws.length c1, .slice a2 cs.length c2, .slice a3 ss.length c3, .slice a4 ms.length c4] 32)) a1 a2 a3 a4 ws cs ss ms) := ⟨Below.alloc_ _ _, CBlk.new _ _ _ _ _ _ _, h.later (Below.alloc_ _ _)⟩
  clear h
  go_enter Try.func20, Try.ntmps20
  go_wp2_with fail
  generalize (w.alloc (.cells #[.int .i64 i, .int .i64 n, .slice a1 ws.length c1, .slice a2 cs.length c2, .slice a3 ss.length c3, .slice a4 ms.length c4] 32)) = W0 at HB ⊢
  refine (l1User_any _ _).mono ?_
  rintro r w2 ⟨rfl, rfl⟩
  cases u1 : inB i 1 3
  · have E9 : Hid (clientB i n ws cs ss ms = false) := Hid.mk' (by simp [clientB, u1])
    go_wp2_with fail
    go_ret
    exact ⟨ret_bool E9.out.symm, HB.out.1⟩
  obtain ⟨p0, p1, p2, p3, p4, p5⟩ := HB.out.2.1.cells
  go_wp2_with fail
  clear p0 p1 p2 p3 p4 p5
  refine (l6In_any _ _ _ _).mono ?_
  rintro r w2 ⟨rfl, rfl⟩
  cases u2 : inB n 0 60
  · have E9 : Hid (clientB i n ws cs ss ms = false) := Hid.mk' (by simp [clientB, u2])
    go_wp2_with fail
    go_ret
    exact ⟨ret_bool E9.out.symm, HB.out.1⟩
  have KB : Hid (clientB i n ws cs ss ms = (okWs n 0 ws && (cs.all okCd && dupB [] cs) && okSs n 0 ss && okMs ss [] ms)) := Hid.mk' (by simp [clientB, u1, u2])
  clear u1 u2
  go_wp2_with fail
  go_loopw [3] (fun q wr => ∃ (j : Nat), j ≤ ws.length ∧ q = .int .i64 j ∧ Hid (Below w2.heap.size w2 wr ∧ okWs n 0 ws = okWs n (lastW ws j) (ws.drop j) ∧ 0 ≤ lastW ws j)) (fun q _ => ws.length - (intOf q).toNat)
  case atStart => exact ⟨0, Nat.zero_le _, rfl, Below.refl _ _, by rw [lastW_zero, List.drop_zero], by rw [lastW_zero]; exact Int.le_refl _⟩
  case round =>
    obtain ⟨j, hj, rfl, C⟩ := hrel
    by_cases hlt : j < ws.length
    · as_aux_lemma =>
        obtain ⟨x, hs⟩ : ∃ x, ws[j]? = some x := ⟨ws[j], List.getElem?_eq_getElem hlt⟩
        have HR := (HB.out.2.2.later C.out.1).w1
        rcases HR with HR | ⟨b, off, rfl, hl, HR⟩
        · simp [HR] at hlt
        obtain ⟨d0, d1⟩ := celW.at (HR j x hs)
        simp only [show celW.n = 2 from rfl] at d0 d1
        obtain ⟨p0, p1, p2, p3, p4, p5⟩ := (HB.out.2.1.later C.out.1).cells
        have E : Hid (okWs n 0 ws = (inB x.s 4 6 && decide (lastW ws j < x.n) && decide (x.n ≤ n) && okWs n x.n (ws.drop (j + 1))) ∧ 0 ≤ lastW ws j ∧ lastW ws (j + 1) = x.n) := by
          have e := C.out.2.1
          rw [drop_at hs] at e
          exact ⟨e, C.out.2.2, lastW_succ hs⟩
        have PV : Hid (0 < j → ∃ y : Wn, NumsAt (wr.alloc (.cells #[.int .i64 x.s, .int .i64 x.n] 60)) b (off + (j - 1) * 2) (celW.cs y) ∧ lastW ws j = y.n) := Hid.mk' (fun h0 => by
          obtain ⟨y, hy⟩ : ∃ y, ws[j - 1]? = some y := ⟨ws[j - 1], List.getElem?_eq_getElem (by omega)⟩
          refine ⟨y, (HR (j - 1) y hy).later (Below.alloc_ _ _) hl, ?_⟩
          have e := lastW_succ hy
          rwa [show j - 1 + 1 = j from by omega] at e)
        have CB : Hid (CBlk (wr.alloc (.cells #[.int .i64 x.s, .int .i64 x.n] 60)) w.heap.size i n (.slice (some ⟨b, off, none⟩) ws.length c1) (.slice a2 cs.length c2) (.slice a3 ss.length c3) (.slice a4 ms.length c4) ∧ NumsAt (wr.alloc (.cells #[.int .i64 x.s, .int .i64 x.n] 60)) wr.heap.size 0 (celW.cs x) ∧ wr.heap.size < (wr.alloc (.cells #[.int .i64 x.s, .int .i64 x.n] 60)).heap.size ∧ Below w2.heap.size w2 (wr.alloc (.cells #[.int .i64 x.s, .int .i64 x.n] 60))) := ⟨(HB.out.2.1.later C.out.1).later (Below.alloc_ _ _), numsAt_new wr 60 (celW.cs x), by simp, C.out.1.alloc C.out.1.size _⟩
        have hl9 : b < (wr.alloc (.cells #[.int .i64 x.s, .int .i64 x.n] 60)).heap.size := by simp; omega
        clear HR hs C
        go_wp2_with fail
        clear d0 d1 p0 p1 p2 p3 p4 p5
        generalize wr.alloc (.cells #[.int .i64 x.s, .int .i64 x.n] 60) = W at CB PV hl9 ⊢
        obtain ⟨p, hp⟩ : ∃ p, p = wr.heap.size := ⟨_, rfl⟩
        rw [← hp] at CB ⊢
        clear hp
        refine wp_region_held_drew (S := fun w' => Below W.heap.size W w') (by kernel_rfl) (Below.refl _ _).drew (fun hS => ?_)
        generalize W.drew = W1 at hS ⊢
        cases t0 : inB x.s 4 6
        · have E9 : Hid (clientB i n ws cs ss ms = false) := Hid.mk' (by rw [KB.out, E.out.1]; simp [t0])
          clear E KB
          refine take1 0 31 (Value.pointer (some ⟨p, 0, none⟩)) rfl rfl (by kernel_rfl) (by kernel_rfl) (by kernel_rfl) (by rfl) (fun _ _ _ h => h) hS (fun w' hS' => ?_) ?_
          · (go_simp) <;> (intro hx9; omega)
          simp only [Act.put, List.setIfInBounds_toArray, List.set_cons_zero, List.set_cons_succ]
          refine take1 1 32 (Value.int .i64 x.s) rfl rfl (by kernel_rfl) (by kernel_rfl) (by kernel_rfl) (by rfl) (fun _ _ _ h => h) hS (fun w' hS' => ?_) ?_
          · obtain ⟨d0, d1⟩ := celW.at (CB.out.2.1.later hS' CB.out.2.2.1)
            simp only [Nat.zero_add] at d1
            (go_simp) <;> (intro hx9; omega)
          simp only [Act.put, List.setIfInBounds_toArray, List.set_cons_zero, List.set_cons_succ]
          refine wpAnyH_ready (rs := [2]) (by kernel_rfl) (by simp) ?_
          refine AllReadyH.cons rfl (fun K hK => ?_) AllReadyH.nil
          go_simp
          refine (l6In_any _ _ _ _).mono ?_
          rintro r W1 ⟨rfl, rfl⟩
          refine hK.out _ _ hS (fun hS => ?_)
          clear hK K
          simp only [t0]
          refine take1 3 34 (.bool true) rfl rfl (by kernel_rfl) (by kernel_rfl) (by kernel_rfl) (by rfl) (fun _ _ _ h => h) hS (fun w' hS' => ?_) ?_
          · (go_simp) <;> (intro hx9; omega)
          simp only [Act.put, List.setIfInBounds_toArray, List.set_cons_zero, List.set_cons_succ]
          refine take1 4 35 (.bool true) rfl rfl (by kernel_rfl) (by kernel_rfl) (by kernel_rfl) (by rfl) (fun _ _ _ h => h) hS (fun w' hS' => ?_) ?_
          · (go_simp) <;> (intro hx9; omega)
          simp only [Act.put, List.setIfInBounds_toArray, List.set_cons_zero, List.set_cons_succ]
          refine skip1 5 36 rfl rfl (by kernel_rfl) (by kernel_rfl) (by kernel_rfl) (by rfl) (fun _ _ _ h => h) hS ?_
          simp only [Act.put, List.setIfInBounds_toArray, List.set_cons_zero, List.set_cons_succ]
          refine skip1 6 37 rfl rfl (by kernel_rfl) (by kernel_rfl) (by kernel_rfl) (by rfl) (fun _ _ _ h => h) hS ?_
          simp only [Act.put, List.setIfInBounds_toArray, List.set_cons_zero, List.set_cons_succ]
          refine skip1 7 38 rfl rfl (by kernel_rfl) (by kernel_rfl) (by kernel_rfl) (by rfl) (fun _ _ _ h => h) hS ?_
          simp only [Act.put, List.setIfInBounds_toArray, List.set_cons_zero, List.set_cons_succ]
          refine skip1 8 39 rfl rfl (by kernel_rfl) (by kernel_rfl) (by kernel_rfl) (by rfl) (fun _ _ _ h => h) hS ?_
          simp only [Act.put, List.setIfInBounds_toArray, List.set_cons_zero, List.set_cons_succ]
          refine skip1 9 40 rfl rfl (by kernel_rfl) (by kernel_rfl) (by kernel_rfl) (by rfl) (fun _ _ _ h => h) hS ?_
          simp only [Act.put, List.setIfInBounds_toArray, List.set_cons_zero, List.set_cons_succ]
          refine skip1 10 41 rfl rfl (by kernel_rfl) (by kernel_rfl) (by kernel_rfl) (by rfl) (fun _ _ _ h => h) hS ?_
          simp only [Act.put, List.setIfInBounds_toArray, List.set_cons_zero, List.set_cons_succ]
          refine take1 11 42 (.bool true) rfl rfl (by kernel_rfl) (by kernel_rfl) (by kernel_rfl) (by rfl) (fun _ _ _ h => h) hS (fun w' hS' => ?_) ?_
          · (go_simp) <;> (intro hx9; omega)
          simp only [Act.put, List.setIfInBounds_toArray, List.set_cons_zero, List.set_cons_succ]
          refine take1 12 43 (.bool true) rfl rfl (by kernel_rfl) (by kernel_rfl) (by kernel_rfl) (by rfl) (fun _ _ _ h => h) hS (fun w' hS' => ?_) ?_
          · (go_simp) <;> (intro hx9; omega)
          simp only [Act.put, List.setIfInBounds_toArray, List.set_cons_zero, List.set_cons_succ]
          refine skip1 13 44 rfl rfl (by kernel_rfl) (by kernel_rfl) (by kernel_rfl) (by rfl) (fun _ _ _ h => h) hS ?_
          simp only [Act.put, List.setIfInBounds_toArray, List.set_cons_zero, List.set_cons_succ]
          refine skip1 14 45 rfl rfl (by kernel_rfl) (by kernel_rfl) (by kernel_rfl) (by rfl) (fun _ _ _ h => h) hS ?_
          simp only [Act.put, List.setIfInBounds_toArray, List.set_cons_zero, List.set_cons_succ]
          refine skip1 15 46 rfl rfl (by kernel_rfl) (by kernel_rfl) (by kernel_rfl) (by rfl) (fun _ _ _ h => h) hS ?_
          simp only [Act.put, List.setIfInBounds_toArray, List.set_cons_zero, List.set_cons_succ]
          refine skip1 16 47 rfl rfl (by kernel_rfl) (by kernel_rfl) (by kernel_rfl) (by rfl) (fun _ _ _ h => h) hS ?_
          simp only [Act.put, List.setIfInBounds_toArray, List.set_cons_zero, List.set_cons_succ]
          refine skip1 17 48 rfl rfl (by kernel_rfl) (by kernel_rfl) (by kernel_rfl) (by rfl) (fun _ _ _ h => h) hS ?_
          simp only [Act.put, List.setIfInBounds_toArray, List.set_cons_zero, List.set_cons_succ]
          refine skip1 18 49 rfl rfl (by kernel_rfl) (by kernel_rfl) (by kernel_rfl) (by rfl) (fun _ _ _ h => h) hS ?_
          simp only [Act.put, List.setIfInBounds_toArray, List.set_cons_zero, List.set_cons_succ]
          refine skip1 19 50 rfl rfl (by kernel_rfl) (by kernel_rfl) (by kernel_rfl) (by rfl) (fun _ _ _ h => h) hS ?_
          simp only [Act.put, List.setIfInBounds_toArray, List.set_cons_zero, List.set_cons_succ]
          refine skip1 20 51 rfl rfl (by kernel_rfl) (by kernel_rfl) (by kernel_rfl) (by rfl) (fun _ _ _ h => h) hS ?_
          simp only [Act.put, List.setIfInBounds_toArray, List.set_cons_zero, List.set_cons_succ]
          refine skip1 21 52 rfl rfl (by kernel_rfl) (by kernel_rfl) (by kernel_rfl) (by rfl) (fun _ _ _ h => h) hS ?_
          simp only [Act.put, List.setIfInBounds_toArray, List.set_cons_zero, List.set_cons_succ]
          refine skip1 22 53 rfl rfl (by kernel_rfl) (by kernel_rfl) (by kernel_rfl) (by rfl) (fun _ _ _ h => h) hS ?_
          simp only [Act.put, List.setIfInBounds_toArray, List.set_cons_zero, List.set_cons_succ]
          refine skip1 23 54 rfl rfl (by kernel_rfl) (by kernel_rfl) (by kernel_rfl) (by rfl) (fun _ _ _ h => h) hS ?_
          simp only [Act.put, List.setIfInBounds_toArray, List.set_cons_zero, List.set_cons_succ]
          refine skip1 24 55 rfl rfl (by kernel_rfl) (by kernel_rfl) (by kernel_rfl) (by rfl) (fun _ _ _ h => h) hS ?_
          simp only [Act.put, List.setIfInBounds_toArray, List.set_cons_zero, List.set_cons_succ]
          refine skip1 25 56 rfl rfl (by kernel_rfl) (by kernel_rfl) (by kernel_rfl) (by rfl) (fun _ _ _ h => h) hS ?_
          simp only [Act.put, List.setIfInBounds_toArray, List.set_cons_zero, List.set_cons_succ]
          refine skip1 26 57 rfl rfl (by kernel_rfl) (by kernel_rfl) (by kernel_rfl) (by rfl) (fun _ _ _ h => h) hS ?_
          simp only [Act.put, List.setIfInBounds_toArray, List.set_cons_zero, List.set_cons_succ]
          refine take1 27 58 (.bool true) rfl rfl (by kernel_rfl) (by kernel_rfl) (by kernel_rfl) (by rfl) (fun _ _ _ h => h) hS (fun w' hS' => ?_) ?_
          · (go_simp) <;> (intro hx9; omega)
          simp only [Act.put, List.setIfInBounds_toArray, List.set_cons_zero, List.set_cons_succ]
          refine wpAnyH_done (by kernel_rfl) ?_ _
          have B9 : Hid (Below w.heap.size w W1) := HB.out.1.trans ((CB.out.2.2.2.trans (hS.mono CB.out.2.2.2.size)).mono HB.out.1.size)
          clear hS CB PV t0 HB
          go_wp2_with fail
          go_ret
          exact ⟨ret_bool E9.out.symm, B9.out⟩
        cases t1 : inB x.n 1 n
        · have E9 : Hid (clientB i n ws cs ss ms = false) := Hid.mk' (by
            rw [KB.out, E.out.1]
            have e1 := E.out.2.1
            have e2 : ¬ (lastW ws j < x.n ∧ x.n ≤ n) := fun h => by
              simp only [inB, Bool.and_eq_false_iff, decide_eq_false_iff_not] at t1
              omega
            by_cases e3 : lastW ws j < x.n
            · have e4 : ¬ x.n ≤ n := fun h => e2 ⟨e3, h⟩
              simp [e4]
            · simp [e3])
          clear E KB
          refine take1 0 31 (Value.pointer (some ⟨p, 0, none⟩)) rfl rfl (by kernel_rfl) (by kernel_rfl) (by kernel_rfl) (by rfl) (fun _ _ _ h => h) hS (fun w' hS' => ?_) ?_
          · (go_simp) <;> (intro hx9; omega)
          simp only [Act.put, List.setIfInBounds_toArray, List.set_cons_zero, List.set_cons_succ]
          refine take1 1 32 (Value.int .i64 x.s) rfl rfl (by kernel_rfl) (by kernel_rfl) (by kernel_rfl) (by rfl) (fun _ _ _ h => h) hS (fun w' hS' => ?_) ?_
          · obtain ⟨d0, d1⟩ := celW.at (CB.out.2.1.later hS' CB.out.2.2.1)
            simp only [Nat.zero_add] at d1
            (go_simp) <;> (intro hx9; omega)
          simp only [Act.put, List.setIfInBounds_toArray, List.set_cons_zero, List.set_cons_succ]
          refine wpAnyH_ready (rs := [2]) (by kernel_rfl) (by simp) ?_
          refine AllReadyH.cons rfl (fun K hK => ?_) AllReadyH.nil
          go_simp
          refine (l6In_any _ _ _ _).mono ?_
          rintro r W1 ⟨rfl, rfl⟩
          refine hK.out _ _ hS (fun hS => ?_)
          clear hK K
          simp only [t0]
          refine take1 3 34 (.bool false) rfl rfl (by kernel_rfl) (by kernel_rfl) (by kernel_rfl) (by rfl) (fun _ _ _ h => h) hS (fun w' hS' => ?_) ?_
          · (go_simp) <;> (intro hx9; omega)
          simp only [Act.put, List.setIfInBounds_toArray, List.set_cons_zero, List.set_cons_succ]
          refine take1 4 35 (.bool false) rfl rfl (by kernel_rfl) (by kernel_rfl) (by kernel_rfl) (by rfl) (fun _ _ _ h => h) hS (fun w' hS' => ?_) ?_
          · (go_simp) <;> (intro hx9; omega)
          simp only [Act.put, List.setIfInBounds_toArray, List.set_cons_zero, List.set_cons_succ]
          refine take1 5 36 (Value.pointer (some ⟨p, 1, none⟩)) rfl rfl (by kernel_rfl) (by kernel_rfl) (by kernel_rfl) (by rfl) (fun _ _ _ h => h) hS (fun w' hS' => ?_) ?_
          · (go_simp) <;> (intro hx9; omega)
          simp only [Act.put, List.setIfInBounds_toArray, List.set_cons_zero, List.set_cons_succ]
          refine take1 6 37 (Value.int .i64 x.n) rfl rfl (by kernel_rfl) (by kernel_rfl) (by kernel_rfl) (by rfl) (fun _ _ _ h => h) hS (fun w' hS' => ?_) ?_
          · obtain ⟨d0, d1⟩ := celW.at (CB.out.2.1.later hS' CB.out.2.2.1)
            simp only [Nat.zero_add] at d1
            (go_simp) <;> (intro hx9; omega)
          simp only [Act.put, List.setIfInBounds_toArray, List.set_cons_zero, List.set_cons_succ]
          refine take1 7 38 (Value.pointer (some ⟨w.heap.size, 1, none⟩)) rfl rfl (by kernel_rfl) (by kernel_rfl) (by kernel_rfl) (by rfl) (fun _ _ _ h => h) hS (fun w' hS' => ?_) ?_
          · (go_simp) <;> (intro hx9; omega)
          simp only [Act.put, List.setIfInBounds_toArray, List.set_cons_zero, List.set_cons_succ]
          refine take1 8 39 (Value.int .i64 n) rfl rfl (by kernel_rfl) (by kernel_rfl) (by kernel_rfl) (by rfl) (fun _ _ _ h => h) hS (fun w' hS' => ?_) ?_
          · obtain ⟨p0, p1, p2, p3, p4, p5⟩ := (CB.out.1.later hS').cells
            (go_simp) <;> (intro hx9; omega)
          simp only [Act.put, List.setIfInBounds_toArray, List.set_cons_zero, List.set_cons_succ]
          refine wpAnyH_ready (rs := [9]) (by kernel_rfl) (by simp) ?_
          refine AllReadyH.cons rfl (fun K hK => ?_) AllReadyH.nil
          go_simp
          refine (l6In_any _ _ _ _).mono ?_
          rintro r W1 ⟨rfl, rfl⟩
          refine hK.out _ _ hS (fun hS => ?_)
          clear hK K
          simp only [t1]
          refine take1 10 41 (.bool true) rfl rfl (by kernel_rfl) (by kernel_rfl) (by kernel_rfl) (by rfl) (fun _ _ _ h => h) hS (fun w' hS' => ?_) ?_
          · (go_simp) <;> (intro hx9; omega)
          simp only [Act.put, List.setIfInBounds_toArray, List.set_cons_zero, List.set_cons_succ]
          refine take1 11 42 (.bool true) rfl rfl (by kernel_rfl) (by kernel_rfl) (by kernel_rfl) (by rfl) (fun _ _ _ h => h) hS (fun w' hS' => ?_) ?_
          · (go_simp) <;> (intro hx9; omega)
          simp only [Act.put, List.setIfInBounds_toArray, List.set_cons_zero, List.set_cons_succ]
          refine take1 12 43 (.bool true) rfl rfl (by kernel_rfl) (by kernel_rfl) (by kernel_rfl) (by rfl) (fun _ _ _ h => h) hS (fun w' hS' => ?_) ?_
          · (go_simp) <;> (intro hx9; omega)
          simp only [Act.put, List.setIfInBounds_toArray, List.set_cons_zero, List.set_cons_succ]
          refine skip1 13 44 rfl rfl (by kernel_rfl) (by kernel_rfl) (by kernel_rfl) (by rfl) (fun _ _ _ h => h) hS ?_
          simp only [Act.put, List.setIfInBounds_toArray, List.set_cons_zero, List.set_cons_succ]
          refine skip1 14 45 rfl rfl (by kernel_rfl) (by kernel_rfl) (by kernel_rfl) (by rfl) (fun _ _ _ h => h) hS ?_
          simp only [Act.put, List.setIfInBounds_toArray, List.set_cons_zero, List.set_cons_succ]
          refine skip1 15 46 rfl rfl (by kernel_rfl) (by kernel_rfl) (by kernel_rfl) (by rfl) (fun _ _ _ h => h) hS ?_
          simp only [Act.put, List.setIfInBounds_toArray, List.set_cons_zero, List.set_cons_succ]
          refine skip1 16 47 rfl rfl (by kernel_rfl) (by kernel_rfl) (by kernel_rfl) (by rfl) (fun _ _ _ h => h) hS ?_
          simp only [Act.put, List.setIfInBounds_toArray, List.set_cons_zero, List.set_cons_succ]
          refine skip1 17 48 rfl rfl (by kernel_rfl) (by kernel_rfl) (by kernel_rfl) (by rfl) (fun _ _ _ h => h) hS ?_
          simp only [Act.put, List.setIfInBounds_toArray, List.set_cons_zero, List.set_cons_succ]
          refine skip1 18 49 rfl rfl (by kernel_rfl) (by kernel_rfl) (by kernel_rfl) (by rfl) (fun _ _ _ h => h) hS ?_
          simp only [Act.put, List.setIfInBounds_toArray, List.set_cons_zero, List.set_cons_succ]
          refine skip1 19 50 rfl rfl (by kernel_rfl) (by kernel_rfl) (by kernel_rfl) (by rfl) (fun _ _ _ h => h) hS ?_
          simp only [Act.put, List.setIfInBounds_toArray, List.set_cons_zero, List.set_cons_succ]
          refine skip1 20 51 rfl rfl (by kernel_rfl) (by kernel_rfl) (by kernel_rfl) (by rfl) (fun _ _ _ h => h) hS ?_
          simp only [Act.put, List.setIfInBounds_toArray, List.set_cons_zero, List.set_cons_succ]
          refine skip1 21 52 rfl rfl (by kernel_rfl) (by kernel_rfl) (by kernel_rfl) (by rfl) (fun _ _ _ h => h) hS ?_
          simp only [Act.put, List.setIfInBounds_toArray, List.set_cons_zero, List.set_cons_succ]
          refine skip1 22 53 rfl rfl (by kernel_rfl) (by kernel_rfl) (by kernel_rfl) (by rfl) (fun _ _ _ h => h) hS ?_
          simp only [Act.put, List.setIfInBounds_toArray, List.set_cons_zero, List.set_cons_succ]
          refine skip1 23 54 rfl rfl (by kernel_rfl) (by kernel_rfl) (by kernel_rfl) (by rfl) (fun _ _ _ h => h) hS ?_
          simp only [Act.put, List.setIfInBounds_toArray, List.set_cons_zero, List.set_cons_succ]
          refine skip1 24 55 rfl rfl (by kernel_rfl) (by kernel_rfl) (by kernel_rfl) (by rfl) (fun _ _ _ h => h) hS ?_
          simp only [Act.put, List.setIfInBounds_toArray, List.set_cons_zero, List.set_cons_succ]
          refine skip1 25 56 rfl rfl (by kernel_rfl) (by kernel_rfl) (by kernel_rfl) (by rfl) (fun _ _ _ h => h) hS ?_
          simp only [Act.put, List.setIfInBounds_toArray, List.set_cons_zero, List.set_cons_succ]
          refine skip1 26 57 rfl rfl (by kernel_rfl) (by kernel_rfl) (by kernel_rfl) (by rfl) (fun _ _ _ h => h) hS ?_
          simp only [Act.put, List.setIfInBounds_toArray, List.set_cons_zero, List.set_cons_succ]
          refine take1 27 58 (.bool true) rfl rfl (by kernel_rfl) (by kernel_rfl) (by kernel_rfl) (by rfl) (fun _ _ _ h => h) hS (fun w' hS' => ?_) ?_
          · (go_simp) <;> (intro hx9; omega)
          simp only [Act.put, List.setIfInBounds_toArray, List.set_cons_zero, List.set_cons_succ]
          refine wpAnyH_done (by kernel_rfl) ?_ _
          have B9 : Hid (Below w.heap.size w W1) := HB.out.1.trans ((CB.out.2.2.2.trans (hS.mono CB.out.2.2.2.size)).mono HB.out.1.size)
          clear hS CB PV t0 t1 HB
          go_wp2_with fail
          go_ret
          exact ⟨ret_bool E9.out.symm, B9.out⟩
        have hn9 : x.n ≤ n := by simp [inB] at t1; exact t1.2
        have hn8 : 1 ≤ x.n := by simp [inB] at t1; exact t1.1
        by_cases hj0 : j = 0
        · have E9 : Hid (okWs n 0 ws = okWs n (lastW ws (j + 1)) (ws.drop (j + 1)) ∧ 0 ≤ lastW ws (j + 1)) := Hid.mk' (by
            have e1 := E.out.1
            rw [hj0, lastW_zero] at e1
            rw [hj0]
            have e3 := E.out.2.2
            rw [hj0] at e3
            rw [e3, e1]
            have e4 : (0 : Int) < x.n := by omega
            exact ⟨by simp [t0, hn9, e4], by omega⟩)
          have HJ : Hid (j = 0) := hj0
          clear E hn9 hn8 hj0
          refine take1 0 31 (Value.pointer (some ⟨p, 0, none⟩)) rfl rfl (by kernel_rfl) (by kernel_rfl) (by kernel_rfl) (by rfl) (fun _ _ _ h => h) hS (fun w' hS' => ?_) ?_
          · (go_simp) <;> (intro hx9; omega)
          simp only [Act.put, List.setIfInBounds_toArray, List.set_cons_zero, List.set_cons_succ]
          refine take1 1 32 (Value.int .i64 x.s) rfl rfl (by kernel_rfl) (by kernel_rfl) (by kernel_rfl) (by rfl) (fun _ _ _ h => h) hS (fun w' hS' => ?_) ?_
          · obtain ⟨d0, d1⟩ := celW.at (CB.out.2.1.later hS' CB.out.2.2.1)
            simp only [Nat.zero_add] at d1
            (go_simp) <;> (intro hx9; omega)
          simp only [Act.put, List.setIfInBounds_toArray, List.set_cons_zero, List.set_cons_succ]
          refine wpAnyH_ready (rs := [2]) (by kernel_rfl) (by simp) ?_
          refine AllReadyH.cons rfl (fun K hK => ?_) AllReadyH.nil
          go_simp
          refine (l6In_any _ _ _ _).mono ?_
          rintro r W1 ⟨rfl, rfl⟩
          refine hK.out _ _ hS (fun hS => ?_)
          clear hK K
          simp only [t0]
          refine take1 3 34 (.bool false) rfl rfl (by kernel_rfl) (by kernel_rfl) (by kernel_rfl) (by rfl) (fun _ _ _ h => h) hS (fun w' hS' => ?_) ?_
          · (go_simp) <;> (intro hx9; omega)
          simp only [Act.put, List.setIfInBounds_toArray, List.set_cons_zero, List.set_cons_succ]
          refine take1 4 35 (.bool false) rfl rfl (by kernel_rfl) (by kernel_rfl) (by kernel_rfl) (by rfl) (fun _ _ _ h => h) hS (fun w' hS' => ?_) ?_
          · (go_simp) <;> (intro hx9; omega)
          simp only [Act.put, List.setIfInBounds_toArray, List.set_cons_zero, List.set_cons_succ]
          refine take1 5 36 (Value.pointer (some ⟨p, 1, none⟩)) rfl rfl (by kernel_rfl) (by kernel_rfl) (by kernel_rfl) (by rfl) (fun _ _ _ h => h) hS (fun w' hS' => ?_) ?_
          · (go_simp) <;> (intro hx9; omega)
          simp only [Act.put, List.setIfInBounds_toArray, List.set_cons_zero, List.set_cons_succ]
          refine take1 6 37 (Value.int .i64 x.n) rfl rfl (by kernel_rfl) (by kernel_rfl) (by kernel_rfl) (by rfl) (fun _ _ _ h => h) hS (fun w' hS' => ?_) ?_
          · obtain ⟨d0, d1⟩ := celW.at (CB.out.2.1.later hS' CB.out.2.2.1)
            simp only [Nat.zero_add] at d1
            (go_simp) <;> (intro hx9; omega)
          simp only [Act.put, List.setIfInBounds_toArray, List.set_cons_zero, List.set_cons_succ]
          refine take1 7 38 (Value.pointer (some ⟨w.heap.size, 1, none⟩)) rfl rfl (by kernel_rfl) (by kernel_rfl) (by kernel_rfl) (by rfl) (fun _ _ _ h => h) hS (fun w' hS' => ?_) ?_
          · (go_simp) <;> (intro hx9; omega)
          simp only [Act.put, List.setIfInBounds_toArray, List.set_cons_zero, List.set_cons_succ]
          refine take1 8 39 (Value.int .i64 n) rfl rfl (by kernel_rfl) (by kernel_rfl) (by kernel_rfl) (by rfl) (fun _ _ _ h => h) hS (fun w' hS' => ?_) ?_
          · obtain ⟨p0, p1, p2, p3, p4, p5⟩ := (CB.out.1.later hS').cells
            (go_simp) <;> (intro hx9; omega)
          simp only [Act.put, List.setIfInBounds_toArray, List.set_cons_zero, List.set_cons_succ]
          refine wpAnyH_ready (rs := [9]) (by kernel_rfl) (by simp) ?_
          refine AllReadyH.cons rfl (fun K hK => ?_) AllReadyH.nil
          go_simp
          refine (l6In_any _ _ _ _).mono ?_
          rintro r W1 ⟨rfl, rfl⟩
          refine hK.out _ _ hS (fun hS => ?_)
          clear hK K
          simp only [t1]
          refine take1 10 41 (.bool false) rfl rfl (by kernel_rfl) (by kernel_rfl) (by kernel_rfl) (by rfl) (fun _ _ _ h => h) hS (fun w' hS' => ?_) ?_
          · (go_simp) <;> (intro hx9; omega)
          simp only [Act.put, List.setIfInBounds_toArray, List.set_cons_zero, List.set_cons_succ]
          refine take1 11 42 (.bool false) rfl rfl (by kernel_rfl) (by kernel_rfl) (by kernel_rfl) (by rfl) (fun _ _ _ h => h) hS (fun w' hS' => ?_) ?_
          · (go_simp) <;> (intro hx9; omega)
          simp only [Act.put, List.setIfInBounds_toArray, List.set_cons_zero, List.set_cons_succ]
          refine take1 12 43 (.bool false) rfl rfl (by kernel_rfl) (by kernel_rfl) (by kernel_rfl) (by rfl) (fun _ _ _ h => h) hS (fun w' hS' => ?_) ?_
          · (go_simp) <;> (intro hx9; omega)
          simp only [Act.put, List.setIfInBounds_toArray, List.set_cons_zero, List.set_cons_succ]
          refine take1 13 44 (Value.int .i64 j) rfl rfl (by kernel_rfl) (by kernel_rfl) (by kernel_rfl) (by rfl) (fun _ _ _ h => h) hS (fun w' hS' => ?_) ?_
          · (go_simp) <;> (intro hx9; omega)
          simp only [Act.put, List.setIfInBounds_toArray, List.set_cons_zero, List.set_cons_succ]
          refine take1 14 45 (.bool false) rfl rfl (by kernel_rfl) (by kernel_rfl) (by kernel_rfl) (by rfl) (fun _ _ _ h => h) hS (fun w' hS' => ?_) ?_
          · have hj0 := HJ.out
            subst hj0
            (go_simp) <;> (first | omega | (intro hx9; omega))
          simp only [Act.put, List.setIfInBounds_toArray, List.set_cons_zero, List.set_cons_succ]
          refine take1 15 46 (.bool false) rfl rfl (by kernel_rfl) (by kernel_rfl) (by kernel_rfl) (by rfl) (fun _ _ _ h => h) hS (fun w' hS' => ?_) ?_
          · (go_simp) <;> (intro hx9; omega)
          simp only [Act.put, List.setIfInBounds_toArray, List.set_cons_zero, List.set_cons_succ]
          refine skip1 16 47 rfl rfl (by kernel_rfl) (by kernel_rfl) (by kernel_rfl) (by rfl) (fun _ _ _ h => h) hS ?_
          simp only [Act.put, List.setIfInBounds_toArray, List.set_cons_zero, List.set_cons_succ]
          refine skip1 17 48 rfl rfl (by kernel_rfl) (by kernel_rfl) (by kernel_rfl) (by rfl) (fun _ _ _ h => h) hS ?_
          simp only [Act.put, List.setIfInBounds_toArray, List.set_cons_zero, List.set_cons_succ]
          refine skip1 18 49 rfl rfl (by kernel_rfl) (by kernel_rfl) (by kernel_rfl) (by rfl) (fun _ _ _ h => h) hS ?_
          simp only [Act.put, List.setIfInBounds_toArray, List.set_cons_zero, List.set_cons_succ]
          refine skip1 19 50 rfl rfl (by kernel_rfl) (by kernel_rfl) (by kernel_rfl) (by rfl) (fun _ _ _ h => h) hS ?_
          simp only [Act.put, List.setIfInBounds_toArray, List.set_cons_zero, List.set_cons_succ]
          refine skip1 20 51 rfl rfl (by kernel_rfl) (by kernel_rfl) (by kernel_rfl) (by rfl) (fun _ _ _ h => h) hS ?_
          simp only [Act.put, List.setIfInBounds_toArray, List.set_cons_zero, List.set_cons_succ]
          refine skip1 21 52 rfl rfl (by kernel_rfl) (by kernel_rfl) (by kernel_rfl) (by rfl) (fun _ _ _ h => h) hS ?_
          simp only [Act.put, List.setIfInBounds_toArray, List.set_cons_zero, List.set_cons_succ]
          refine skip1 22 53 rfl rfl (by kernel_rfl) (by kernel_rfl) (by kernel_rfl) (by rfl) (fun _ _ _ h => h) hS ?_
          simp only [Act.put, List.setIfInBounds_toArray, List.set_cons_zero, List.set_cons_succ]
          refine skip1 23 54 rfl rfl (by kernel_rfl) (by kernel_rfl) (by kernel_rfl) (by rfl) (fun _ _ _ h => h) hS ?_
          simp only [Act.put, List.setIfInBounds_toArray, List.set_cons_zero, List.set_cons_succ]
          refine skip1 24 55 rfl rfl (by kernel_rfl) (by kernel_rfl) (by kernel_rfl) (by rfl) (fun _ _ _ h => h) hS ?_
          simp only [Act.put, List.setIfInBounds_toArray, List.set_cons_zero, List.set_cons_succ]
          refine skip1 25 56 rfl rfl (by kernel_rfl) (by kernel_rfl) (by kernel_rfl) (by rfl) (fun _ _ _ h => h) hS ?_
          simp only [Act.put, List.setIfInBounds_toArray, List.set_cons_zero, List.set_cons_succ]
          refine take1 26 57 (.bool false) rfl rfl (by kernel_rfl) (by kernel_rfl) (by kernel_rfl) (by rfl) (fun _ _ _ h => h) hS (fun w' hS' => ?_) ?_
          · (go_simp) <;> (intro hx9; omega)
          simp only [Act.put, List.setIfInBounds_toArray, List.set_cons_zero, List.set_cons_succ]
          refine take1 27 58 (.bool false) rfl rfl (by kernel_rfl) (by kernel_rfl) (by kernel_rfl) (by rfl) (fun _ _ _ h => h) hS (fun w' hS' => ?_) ?_
          · (go_simp) <;> (intro hx9; omega)
          simp only [Act.put, List.setIfInBounds_toArray, List.set_cons_zero, List.set_cons_succ]
          refine wpAnyH_done (by kernel_rfl) ?_ _
          have B9 : Hid (Below w2.heap.size w2 W1) := CB.out.2.2.2.trans (hS.mono CB.out.2.2.2.size)
          clear hS CB PV t0 t1 HJ
          go_wp2_with fail
          go_roundw
          case rel => exact ⟨j + 1, by omega, by go_num, B9.out, E9.out⟩
          case measure => simp [intOf]; omega
        obtain ⟨y, PVy, hly⟩ := PV.out (by omega)
        have PV2 : Hid (NumsAt W b (off + (j - 1) * 2) (celW.cs y)) := PVy
        clear PV PVy
        by_cases hasc : y.n < x.n
        · have E9 : Hid (okWs n 0 ws = okWs n (lastW ws (j + 1)) (ws.drop (j + 1)) ∧ 0 ≤ lastW ws (j + 1)) := Hid.mk' (by
            have e1 := E.out.1
            rw [E.out.2.2, e1, hly]
            exact ⟨by simp [t0, hn9, hasc], by omega⟩)
          clear E hn9 hn8 hly
          refine take1 0 31 (Value.pointer (some ⟨p, 0, none⟩)) rfl rfl (by kernel_rfl) (by kernel_rfl) (by kernel_rfl) (by rfl) (fun _ _ _ h => h) hS (fun w' hS' => ?_) ?_
          · (go_simp) <;> (intro hx9; omega)
          simp only [Act.put, List.setIfInBounds_toArray, List.set_cons_zero, List.set_cons_succ]
          refine take1 1 32 (Value.int .i64 x.s) rfl rfl (by kernel_rfl) (by kernel_rfl) (by kernel_rfl) (by rfl) (fun _ _ _ h => h) hS (fun w' hS' => ?_) ?_
          · obtain ⟨d0, d1⟩ := celW.at (CB.out.2.1.later hS' CB.out.2.2.1)
            simp only [Nat.zero_add] at d1
            (go_simp) <;> (intro hx9; omega)
          simp only [Act.put, List.setIfInBounds_toArray, List.set_cons_zero, List.set_cons_succ]
          refine wpAnyH_ready (rs := [2]) (by kernel_rfl) (by simp) ?_
          refine AllReadyH.cons rfl (fun K hK => ?_) AllReadyH.nil
          go_simp
          refine (l6In_any _ _ _ _).mono ?_
          rintro r W1 ⟨rfl, rfl⟩
          refine hK.out _ _ hS (fun hS => ?_)
          clear hK K
          simp only [t0]
          refine take1 3 34 (.bool false) rfl rfl (by kernel_rfl) (by kernel_rfl) (by kernel_rfl) (by rfl) (fun _ _ _ h => h) hS (fun w' hS' => ?_) ?_
          · (go_simp) <;> (intro hx9; omega)
          simp only [Act.put, List.setIfInBounds_toArray, List.set_cons_zero, List.set_cons_succ]
          refine take1 4 35 (.bool false) rfl rfl (by kernel_rfl) (by kernel_rfl) (by kernel_rfl) (by rfl) (fun _ _ _ h => h) hS (fun w' hS' => ?_) ?_
          · (go_simp) <;> (intro hx9; omega)
          simp only [Act.put, List.setIfInBounds_toArray, List.set_cons_zero, List.set_cons_succ]
          refine take1 5 36 (Value.pointer (some ⟨p, 1, none⟩)) rfl rfl (by kernel_rfl) (by kernel_rfl) (by kernel_rfl) (by rfl) (fun _ _ _ h => h) hS (fun w' hS' => ?_) ?_
          · (go_simp) <;> (intro hx9; omega)
          simp only [Act.put, List.setIfInBounds_toArray, List.set_cons_zero, List.set_cons_succ]
          refine take1 6 37 (Value.int .i64 x.n) rfl rfl (by kernel_rfl) (by kernel_rfl) (by kernel_rfl) (by rfl) (fun _ _ _ h => h) hS (fun w' hS' => ?_) ?_
          · obtain ⟨d0, d1⟩ := celW.at (CB.out.2.1.later hS' CB.out.2.2.1)
            simp only [Nat.zero_add] at d1
            (go_simp) <;> (intro hx9; omega)
          simp only [Act.put, List.setIfInBounds_toArray, List.set_cons_zero, List.set_cons_succ]
          refine take1 7 38 (Value.pointer (some ⟨w.heap.size, 1, none⟩)) rfl rfl (by kernel_rfl) (by kernel_rfl) (by kernel_rfl) (by rfl) (fun _ _ _ h => h) hS (fun w' hS' => ?_) ?_
          · (go_simp) <;> (intro hx9; omega)
          simp only [Act.put, List.setIfInBounds_toArray, List.set_cons_zero, List.set_cons_succ]
          refine take1 8 39 (Value.int .i64 n) rfl rfl (by kernel_rfl) (by kernel_rfl) (by kernel_rfl) (by rfl) (fun _ _ _ h => h) hS (fun w' hS' => ?_) ?_
          · obtain ⟨p0, p1, p2, p3, p4, p5⟩ := (CB.out.1.later hS').cells
            (go_simp) <;> (intro hx9; omega)
          simp only [Act.put, List.setIfInBounds_toArray, List.set_cons_zero, List.set_cons_succ]
          refine wpAnyH_ready (rs := [9]) (by kernel_rfl) (by simp) ?_
          refine AllReadyH.cons rfl (fun K hK => ?_) AllReadyH.nil
          go_simp
          refine (l6In_any _ _ _ _).mono ?_
          rintro r W1 ⟨rfl, rfl⟩
          refine hK.out _ _ hS (fun hS => ?_)
          clear hK K
          simp only [t1]
          refine take1 10 41 (.bool false) rfl rfl (by kernel_rfl) (by kernel_rfl) (by kernel_rfl) (by rfl) (fun _ _ _ h => h) hS (fun w' hS' => ?_) ?_
          · (go_simp) <;> (intro hx9; omega)
          simp only [Act.put, List.setIfInBounds_toArray, List.set_cons_zero, List.set_cons_succ]
          refine take1 11 42 (.bool false) rfl rfl (by kernel_rfl) (by kernel_rfl) (by kernel_rfl) (by rfl) (fun _ _ _ h => h) hS (fun w' hS' => ?_) ?_
          · (go_simp) <;> (intro hx9; omega)
          simp only [Act.put, List.setIfInBounds_toArray, List.set_cons_zero, List.set_cons_succ]
          refine take1 12 43 (.bool false) rfl rfl (by kernel_rfl) (by kernel_rfl) (by kernel_rfl) (by rfl) (fun _ _ _ h => h) hS (fun w' hS' => ?_) ?_
          · (go_simp) <;> (intro hx9; omega)
          simp only [Act.put, List.setIfInBounds_toArray, List.set_cons_zero, List.set_cons_succ]
          refine take1 13 44 (Value.int .i64 j) rfl rfl (by kernel_rfl) (by kernel_rfl) (by kernel_rfl) (by rfl) (fun _ _ _ h => h) hS (fun w' hS' => ?_) ?_
          · (go_simp) <;> (intro hx9; omega)
          simp only [Act.put, List.setIfInBounds_toArray, List.set_cons_zero, List.set_cons_succ]
          refine take1 14 45 (.bool true) rfl rfl (by kernel_rfl) (by kernel_rfl) (by kernel_rfl) (by rfl) (fun _ _ _ h => h) hS (fun w' hS' => ?_) ?_
          · have h9 : (0 : Int) < (j : Int) := by omega
            (go_simp) <;> (first | omega | (intro hx9; omega))
          simp only [Act.put, List.setIfInBounds_toArray, List.set_cons_zero, List.set_cons_succ]
          refine take1 15 46 (.bool true) rfl rfl (by kernel_rfl) (by kernel_rfl) (by kernel_rfl) (by rfl) (fun _ _ _ h => h) hS (fun w' hS' => ?_) ?_
          · (go_simp) <;> (intro hx9; omega)
          simp only [Act.put, List.setIfInBounds_toArray, List.set_cons_zero, List.set_cons_succ]
          refine take1 16 47 (Value.pointer (some ⟨w.heap.size, 2, none⟩)) rfl rfl (by kernel_rfl) (by kernel_rfl) (by kernel_rfl) (by rfl) (fun _ _ _ h => h) hS (fun w' hS' => ?_) ?_
          · (go_simp) <;> (intro hx9; omega)
          simp only [Act.put, List.setIfInBounds_toArray, List.set_cons_zero, List.set_cons_succ]
          refine take1 17 48 (Value.slice (some ⟨b, off, none⟩) ws.length c1) rfl rfl (by kernel_rfl) (by kernel_rfl) (by kernel_rfl) (by rfl) (fun _ _ _ h => h) hS (fun w' hS' => ?_) ?_
          · obtain ⟨p0, p1, p2, p3, p4, p5⟩ := (CB.out.1.later hS').cells
            (go_simp) <;> (intro hx9; omega)
          simp only [Act.put, List.setIfInBounds_toArray, List.set_cons_zero, List.set_cons_succ]
          refine take1 18 49 (Value.int .i64 j) rfl rfl (by kernel_rfl) (by kernel_rfl) (by kernel_rfl) (by rfl) (fun _ _ _ h => h) hS (fun w' hS' => ?_) ?_
          · (go_simp) <;> (intro hx9; omega)
          simp only [Act.put, List.setIfInBounds_toArray, List.set_cons_zero, List.set_cons_succ]
          refine take1 19 50 (Value.int .i64 ((j : Int) - 1)) rfl rfl (by kernel_rfl) (by kernel_rfl) (by kernel_rfl) (by rfl) (fun _ _ _ h => h) hS (fun w' hS' => ?_) ?_
          · have h9 : IntKind.i64.wrap ((j : Int) - 1) = (j : Int) - 1 := wrapM (by omega) (by omega)
            (go_simp) <;> (first | omega | (intro hx9; omega))
          simp only [Act.put, List.setIfInBounds_toArray, List.set_cons_zero, List.set_cons_succ]
          refine take1 20 51 (Value.pointer (some ⟨b, off + (j - 1) * 2, none⟩)) rfl rfl (by kernel_rfl) (by kernel_rfl) (by kernel_rfl) (by rfl) (fun _ _ _ h => h) hS (fun w' hS' => ?_) ?_
          · have h9 : ((j : Int) - 1).toNat = j - 1 := by omega
            have h8 : (0 : Int) ≤ (j : Int) - 1 := by omega
            have h7 : (j : Int) - 1 < (ws.length : Int) := by omega
            (go_simp) <;> (first | omega | (intro hx9; omega))
          simp only [Act.put, List.setIfInBounds_toArray, List.set_cons_zero, List.set_cons_succ]
          refine take1 21 52 (Value.pointer (some ⟨b, off + (j - 1) * 2 + 1, none⟩)) rfl rfl (by kernel_rfl) (by kernel_rfl) (by kernel_rfl) (by rfl) (fun _ _ _ h => h) hS (fun w' hS' => ?_) ?_
          · (go_simp) <;> (intro hx9; omega)
          simp only [Act.put, List.setIfInBounds_toArray, List.set_cons_zero, List.set_cons_succ]
          refine take1 22 53 (Value.int .i64 y.n) rfl rfl (by kernel_rfl) (by kernel_rfl) (by kernel_rfl) (by rfl) (fun _ _ _ h => h) hS (fun w' hS' => ?_) ?_
          · obtain ⟨e0, e1⟩ := celW.at (PV2.out.later hS' hl9)
            (go_simp) <;> (intro hx9; omega)
          simp only [Act.put, List.setIfInBounds_toArray, List.set_cons_zero, List.set_cons_succ]
          refine take1 23 54 (Value.pointer (some ⟨p, 1, none⟩)) rfl rfl (by kernel_rfl) (by kernel_rfl) (by kernel_rfl) (by rfl) (fun _ _ _ h => h) hS (fun w' hS' => ?_) ?_
          · (go_simp) <;> (intro hx9; omega)
          simp only [Act.put, List.setIfInBounds_toArray, List.set_cons_zero, List.set_cons_succ]
          refine take1 24 55 (Value.int .i64 x.n) rfl rfl (by kernel_rfl) (by kernel_rfl) (by kernel_rfl) (by rfl) (fun _ _ _ h => h) hS (fun w' hS' => ?_) ?_
          · obtain ⟨d0, d1⟩ := celW.at (CB.out.2.1.later hS' CB.out.2.2.1)
            simp only [Nat.zero_add] at d1
            (go_simp) <;> (intro hx9; omega)
          simp only [Act.put, List.setIfInBounds_toArray, List.set_cons_zero, List.set_cons_succ]
          refine take1 25 56 (.bool false) rfl rfl (by kernel_rfl) (by kernel_rfl) (by kernel_rfl) (by rfl) (fun _ _ _ h => h) hS (fun w' hS' => ?_) ?_
          · (go_simp) <;> (first | omega | (intro hx9; omega))
          simp only [Act.put, List.setIfInBounds_toArray, List.set_cons_zero, List.set_cons_succ]
          refine take1 26 57 (.bool false) rfl rfl (by kernel_rfl) (by kernel_rfl) (by kernel_rfl) (by rfl) (fun _ _ _ h => h) hS (fun w' hS' => ?_) ?_
          · (go_simp) <;> (intro hx9; omega)
          simp only [Act.put, List.setIfInBounds_toArray, List.set_cons_zero, List.set_cons_succ]
          refine take1 27 58 (.bool false) rfl rfl (by kernel_rfl) (by kernel_rfl) (by kernel_rfl) (by rfl) (fun _ _ _ h => h) hS (fun w' hS' => ?_) ?_
          · (go_simp) <;> (intro hx9; omega)
          simp only [Act.put, List.setIfInBounds_toArray, List.set_cons_zero, List.set_cons_succ]
          refine wpAnyH_done (by kernel_rfl) ?_ _
          have B9 : Hid (Below w2.heap.size w2 W1) := CB.out.2.2.2.trans (hS.mono CB.out.2.2.2.size)
          clear hS CB PV2 t0 t1 hj0 hasc
          go_wp2_with fail
          go_roundw
          case rel => exact ⟨j + 1, by omega, by go_num, B9.out, E9.out⟩
          case measure => simp [intOf]; omega
        · have E9 : Hid (clientB i n ws cs ss ms = false) := Hid.mk' (by
            rw [KB.out, E.out.1, hly]
            simp [hasc])
          clear E KB hly hn9 hn8
          refine take1 0 31 (Value.pointer (some ⟨p, 0, none⟩)) rfl rfl (by kernel_rfl) (by kernel_rfl) (by kernel_rfl) (by rfl) (fun _ _ _ h => h) hS (fun w' hS' => ?_) ?_
          · (go_simp) <;> (intro hx9; omega)
          simp only [Act.put, List.setIfInBounds_toArray, List.set_cons_zero, List.set_cons_succ]
          refine take1 1 32 (Value.int .i64 x.s) rfl rfl (by kernel_rfl) (by kernel_rfl) (by kernel_rfl) (by rfl) (fun _ _ _ h => h) hS (fun w' hS' => ?_) ?_
          · obtain ⟨d0, d1⟩ := celW.at (CB.out.2.1.later hS' CB.out.2.2.1)
            simp only [Nat.zero_add] at d1
            (go_simp) <;> (intro hx9; omega)
          simp only [Act.put, List.setIfInBounds_toArray, List.set_cons_zero, List.set_cons_succ]
          refine wpAnyH_ready (rs := [2]) (by kernel_rfl) (by simp) ?_
          refine AllReadyH.cons rfl (fun K hK => ?_) AllReadyH.nil
          go_simp
          refine (l6In_any _ _ _ _).mono ?_
          rintro r W1 ⟨rfl, rfl⟩
          refine hK.out _ _ hS (fun hS => ?_)
          clear hK K
          simp only [t0]
          refine take1 3 34 (.bool false) rfl rfl (by kernel_rfl) (by kernel_rfl) (by kernel_rfl) (by rfl) (fun _ _ _ h => h) hS (fun w' hS' => ?_) ?_
          · (go_simp) <;> (intro hx9; omega)
          simp only [Act.put, List.setIfInBounds_toArray, List.set_cons_zero, List.set_cons_succ]
          refine take1 4 35 (.bool false) rfl rfl (by kernel_rfl) (by kernel_rfl) (by kernel_rfl) (by rfl) (fun _ _ _ h => h) hS (fun w' hS' => ?_) ?_
          · (go_simp) <;> (intro hx9; omega)
          simp only [Act.put, List.setIfInBounds_toArray, List.set_cons_zero, List.set_cons_succ]
          refine take1 5 36 (Value.pointer (some ⟨p, 1, none⟩)) rfl rfl (by kernel_rfl) (by kernel_rfl) (by kernel_rfl) (by rfl) (fun _ _ _ h => h) hS (fun w' hS' => ?_) ?_
          · (go_simp) <;> (intro hx9; omega)
          simp only [Act.put, List.setIfInBounds_toArray, List.set_cons_zero, List.set_cons_succ]
          refine take1 6 37 (Value.int .i64 x.n) rfl rfl (by kernel_rfl) (by kernel_rfl) (by kernel_rfl) (by rfl) (fun _ _ _ h => h) hS (fun w' hS' => ?_) ?_
          · obtain ⟨d0, d1⟩ := celW.at (CB.out.2.1.later hS' CB.out.2.2.1)
            simp only [Nat.zero_add] at d1
            (go_simp) <;> (intro hx9; omega)
          simp only [Act.put, List.setIfInBounds_toArray, List.set_cons_zero, List.set_cons_succ]
          refine take1 7 38 (Value.pointer (some ⟨w.heap.size, 1, none⟩)) rfl rfl (by kernel_rfl) (by kernel_rfl) (by kernel_rfl) (by rfl) (fun _ _ _ h => h) hS (fun w' hS' => ?_) ?_
          · (go_simp) <;> (intro hx9; omega)
          simp only [Act.put, List.setIfInBounds_toArray, List.set_cons_zero, List.set_cons_succ]
          refine take1 8 39 (Value.int .i64 n) rfl rfl (by kernel_rfl) (by kernel_rfl) (by kernel_rfl) (by rfl) (fun _ _ _ h => h) hS (fun w' hS' => ?_) ?_
          · obtain ⟨p0, p1, p2, p3, p4, p5⟩ := (CB.out.1.later hS').cells
            (go_simp) <;> (intro hx9; omega)
          simp only [Act.put, List.setIfInBounds_toArray, List.set_cons_zero, List.set_cons_succ]
          refine wpAnyH_ready (rs := [9]) (by kernel_rfl) (by simp) ?_
          refine AllReadyH.cons rfl (fun K hK => ?_) AllReadyH.nil
          go_simp
          refine (l6In_any _ _ _ _).mono ?_
          rintro r W1 ⟨rfl, rfl⟩
          refine hK.out _ _ hS (fun hS => ?_)
          clear hK K
          simp only [t1]
          refine take1 10 41 (.bool false) rfl rfl (by kernel_rfl) (by kernel_rfl) (by kernel_rfl) (by rfl) (fun _ _ _ h => h) hS (fun w' hS' => ?_) ?_
          · (go_simp) <;> (intro hx9; omega)
          simp only [Act.put, List.setIfInBounds_toArray, List.set_cons_zero, List.set_cons_succ]
          refine take1 11 42 (.bool false) rfl rfl (by kernel_rfl) (by kernel_rfl) (by kernel_rfl) (by rfl) (fun _ _ _ h => h) hS (fun w' hS' => ?_) ?_
          · (go_simp) <;> (intro hx9; omega)
          simp only [Act.put, List.setIfInBounds_toArray, List.set_cons_zero, List.set_cons_succ]
          refine take1 12 43 (.bool false) rfl rfl (by kernel_rfl) (by kernel_rfl) (by kernel_rfl) (by rfl) (fun _ _ _ h => h) hS (fun w' hS' => ?_) ?_
          · (go_simp) <;> (intro hx9; omega)
          simp only [Act.put, List.setIfInBounds_toArray, List.set_cons_zero, List.set_cons_succ]
          refine take1 13 44 (Value.int .i64 j) rfl rfl (by kernel_rfl) (by kernel_rfl) (by kernel_rfl) (by rfl) (fun _ _ _ h => h) hS (fun w' hS' => ?_) ?_
          · (go_simp) <;> (intro hx9; omega)
          simp only [Act.put, List.setIfInBounds_toArray, List.set_cons_zero, List.set_cons_succ]
          refine take1 14 45 (.bool true) rfl rfl (by kernel_rfl) (by kernel_rfl) (by kernel_rfl) (by rfl) (fun _ _ _ h => h) hS (fun w' hS' => ?_) ?_
          · have h9 : (0 : Int) < (j : Int) := by omega
            (go_simp) <;> (first | omega | (intro hx9; omega))
          simp only [Act.put, List.setIfInBounds_toArray, List.set_cons_zero, List.set_cons_succ]
          refine take1 15 46 (.bool true) rfl rfl (by kernel_rfl) (by kernel_rfl) (by kernel_rfl) (by rfl) (fun _ _ _ h => h) hS (fun w' hS' => ?_) ?_
          · (go_simp) <;> (intro hx9; omega)
          simp only [Act.put, List.setIfInBounds_toArray, List.set_cons_zero, List.set_cons_succ]
          refine take1 16 47 (Value.pointer (some ⟨w.heap.size, 2, none⟩)) rfl rfl (by kernel_rfl) (by kernel_rfl) (by kernel_rfl) (by rfl) (fun _ _ _ h => h) hS (fun w' hS' => ?_) ?_
          · (go_simp) <;> (intro hx9; omega)
          simp only [Act.put, List.setIfInBounds_toArray, List.set_cons_zero, List.set_cons_succ]
          refine take1 17 48 (Value.slice (some ⟨b, off, none⟩) ws.length c1) rfl rfl (by kernel_rfl) (by kernel_rfl) (by kernel_rfl) (by rfl) (fun _ _ _ h => h) hS (fun w' hS' => ?_) ?_
          · obtain ⟨p0, p1, p2, p3, p4, p5⟩ := (CB.out.1.later hS').cells
            (go_simp) <;> (intro hx9; omega)
          simp only [Act.put, List.setIfInBounds_toArray, List.set_cons_zero, List.set_cons_succ]
          refine take1 18 49 (Value.int .i64 j) rfl rfl (by kernel_rfl) (by kernel_rfl) (by kernel_rfl) (by rfl) (fun _ _ _ h => h) hS (fun w' hS' => ?_) ?_
          · (go_simp) <;> (intro hx9; omega)
          simp only [Act.put, List.setIfInBounds_toArray, List.set_cons_zero, List.set_cons_succ]
          refine take1 19 50 (Value.int .i64 ((j : Int) - 1)) rfl rfl (by kernel_rfl) (by kernel_rfl) (by kernel_rfl) (by rfl) (fun _ _ _ h => h) hS (fun w' hS' => ?_) ?_
          · have h9 : IntKind.i64.wrap ((j : Int) - 1) = (j : Int) - 1 := wrapM (by omega) (by omega)
            (go_simp) <;> (first | omega | (intro hx9; omega))
          simp only [Act.put, List.setIfInBounds_toArray, List.set_cons_zero, List.set_cons_succ]
          refine take1 20 51 (Value.pointer (some ⟨b, off + (j - 1) * 2, none⟩)) rfl rfl (by kernel_rfl) (by kernel_rfl) (by kernel_rfl) (by rfl) (fun _ _ _ h => h) hS (fun w' hS' => ?_) ?_
          · have h9 : ((j : Int) - 1).toNat = j - 1 := by omega
            have h8 : (0 : Int) ≤ (j : Int) - 1 := by omega
            have h7 : (j : Int) - 1 < (ws.length : Int) := by omega
            (go_simp) <;> (first | omega | (intro hx9; omega))
          simp only [Act.put, List.setIfInBounds_toArray, List.set_cons_zero, List.set_cons_succ]
          refine take1 21 52 (Value.pointer (some ⟨b, off + (j - 1) * 2 + 1, none⟩)) rfl rfl (by kernel_rfl) (by kernel_rfl) (by kernel_rfl) (by rfl) (fun _ _ _ h => h) hS (fun w' hS' => ?_) ?_
          · (go_simp) <;> (intro hx9; omega)
          simp only [Act.put, List.setIfInBounds_toArray, List.set_cons_zero, List.set_cons_succ]
          refine take1 22 53 (Value.int .i64 y.n) rfl rfl (by kernel_rfl) (by kernel_rfl) (by kernel_rfl) (by rfl) (fun _ _ _ h => h) hS (fun w' hS' => ?_) ?_
          · obtain ⟨e0, e1⟩ := celW.at (PV2.out.later hS' hl9)
            (go_simp) <;> (intro hx9; omega)
          simp only [Act.put, List.setIfInBounds_toArray, List.set_cons_zero, List.set_cons_succ]
          refine take1 23 54 (Value.pointer (some ⟨p, 1, none⟩)) rfl rfl (by kernel_rfl) (by kernel_rfl) (by kernel_rfl) (by rfl) (fun _ _ _ h => h) hS (fun w' hS' => ?_) ?_
          · (go_simp) <;> (intro hx9; omega)
          simp only [Act.put, List.setIfInBounds_toArray, List.set_cons_zero, List.set_cons_succ]
          refine take1 24 55 (Value.int .i64 x.n) rfl rfl (by kernel_rfl) (by kernel_rfl) (by kernel_rfl) (by rfl) (fun _ _ _ h => h) hS (fun w' hS' => ?_) ?_
          · obtain ⟨d0, d1⟩ := celW.at (CB.out.2.1.later hS' CB.out.2.2.1)
            simp only [Nat.zero_add] at d1
            (go_simp) <;> (intro hx9; omega)
          simp only [Act.put, List.setIfInBounds_toArray, List.set_cons_zero, List.set_cons_succ]
          refine take1 25 56 (.bool true) rfl rfl (by kernel_rfl) (by kernel_rfl) (by kernel_rfl) (by rfl) (fun _ _ _ h => h) hS (fun w' hS' => ?_) ?_
          · (go_simp) <;> (first | omega | (intro hx9; omega))
          simp only [Act.put, List.setIfInBounds_toArray, List.set_cons_zero, List.set_cons_succ]
          refine take1 26 57 (.bool true) rfl rfl (by kernel_rfl) (by kernel_rfl) (by kernel_rfl) (by rfl) (fun _ _ _ h => h) hS (fun w' hS' => ?_) ?_
          · (go_simp) <;> (intro hx9; omega)
          simp only [Act.put, List.setIfInBounds_toArray, List.set_cons_zero, List.set_cons_succ]
          refine take1 27 58 (.bool true) rfl rfl (by kernel_rfl) (by kernel_rfl) (by kernel_rfl) (by rfl) (fun _ _ _ h => h) hS (fun w' hS' => ?_) ?_
          · (go_simp) <;> (intro hx9; omega)
          simp only [Act.put, List.setIfInBounds_toArray, List.set_cons_zero, List.set_cons_succ]
          refine wpAnyH_done (by kernel_rfl) ?_ _
          have B9 : Hid (Below w.heap.size w W1) := HB.out.1.trans ((CB.out.2.2.2.trans (hS.mono CB.out.2.2.2.size)).mono HB.out.1.size)
          clear hS CB PV2 t0 t1 hj0 hasc HB
          go_wp2_with fail
          go_ret
          exact ⟨ret_bool E9.out.symm, B9.out⟩
    · obtain rfl : j = ws.length := by omega
      as_aux_lemma =>
        have E1 : Hid (okWs n 0 ws = true) := by
          have e := C.out.2.1
          rw [List.drop_length] at e
          exact e
        have HB2 : Hid (Below w.heap.size w wr ∧ CBlk wr w.heap.size i n (.slice a1 ws.length c1) (.slice a2 cs.length c2) (.slice a3 ss.length c3) (.slice a4 ms.length c4) ∧ CRows wr a1 a2 a3 a4 ws cs ss ms) := ⟨HB.out.1.trans (C.out.1.mono HB.out.1.size), HB.out.2.1.later C.out.1, HB.out.2.2.later C.out.1⟩
        obtain ⟨p0, p1, p2, p3, p4, p5⟩ := HB2.out.2.1.cells
        have KB2 : Hid (clientB i n ws cs ss ms = ((cs.all okCd && dupB [] cs) && okSs n 0 ss && okMs ss [] ms)) := Hid.mk' (by rw [KB.out, E1.out]; simp)
        clear KB E1
        have KB := KB2
        clear KB2
        go_wp2_with fail
        clear p0 p1 p2 p3 p4 p5
        clear HB C
        have HB := HB2
        clear HB2
        obtain ⟨w2, hw2⟩ : ∃ u, u = wr := ⟨_, rfl⟩
        subst hw2
        go_loopw [5] (fun q wr => ∃ (j : Nat), j ≤ cs.length ∧ q = .int .i64 j ∧ Hid (Below w2.heap.size w2 wr ∧ (cs.all okCd && dupB [] cs) = ((cs.drop j).all okCd && dupB ((cs.take j).map (·.s)) (cs.drop j)))) (fun q _ => cs.length - (intOf q).toNat)
        case atStart => exact ⟨0, Nat.zero_le _, rfl, Below.refl _ _, by rw [List.drop_zero, List.take_zero]; rfl⟩
        case round =>
          obtain ⟨j, hj, rfl, C⟩ := hrel
          by_cases hlt : j < cs.length
          · as_aux_lemma =>
              obtain ⟨x, hs⟩ : ∃ x, cs[j]? = some x := ⟨cs[j], List.getElem?_eq_getElem hlt⟩
              have HR := (HB.out.2.2.later C.out.1).w2
              have HR2 : Hid (NRow celD wr a2 cs) := HR
              rcases HR with HR | ⟨b, off, rfl, hl, HR⟩
              · simp [HR] at hlt
              obtain ⟨d0, d1, d2, d3, d4, d5, d6, d7, d8, d9⟩ := celD.at (HR j x hs)
              simp only [show celD.n = 10 from rfl] at d0 d1 d2 d3 d4 d5 d6 d7 d8 d9
              obtain ⟨p0, p1, p2, p3, p4, p5⟩ := (HB.out.2.1.later C.out.1).cells
              have HI : Hid (credAt x.s cs = (j : Int) ↔ ¬ x.s ∈ (cs.take j).map (·.s)) := credAt_iff hs
              have E : Hid ((cs.all okCd && dupB [] cs) = (inB x.s 4 6 && inB x.k 10 60 && inB x.u 0 100 && x.x.ok && (cs.drop (j + 1)).all okCd && (!decide (x.s ∈ (cs.take j).map (·.s)) && dupB ((cs.take (j + 1)).map (·.s)) (cs.drop (j + 1))))) := by
                have e := C.out.2
                rw [drop_at hs] at e
                rw [take_at hs, List.map_append]
                exact e
              have CB : Hid (CBlk (wr.alloc (.cells #[.int .i64 x.s, .int .i64 x.k, .int .i64 x.u, .int .i64 x.x.k, .int .i64 x.x.t, .int .i64 x.x.a, .int .i64 x.x.b, .int .i64 x.x.c, .int .i64 x.x.d, .int .i64 x.x.e] 56)) w.heap.size i n (.slice a1 ws.length c1) (.slice (some ⟨b, off, none⟩) cs.length c2) (.slice a3 ss.length c3) (.slice a4 ms.length c4) ∧ NumsAt (wr.alloc (.cells #[.int .i64 x.s, .int .i64 x.k, .int .i64 x.u, .int .i64 x.x.k, .int .i64 x.x.t, .int .i64 x.x.a, .int .i64 x.x.b, .int .i64 x.x.c, .int .i64 x.x.d, .int .i64 x.x.e] 56)) wr.heap.size 0 (celD.cs x) ∧ wr.heap.size < (wr.alloc (.cells #[.int .i64 x.s, .int .i64 x.k, .int .i64 x.u, .int .i64 x.x.k, .int .i64 x.x.t, .int .i64 x.x.a, .int .i64 x.x.b, .int .i64 x.x.c, .int .i64 x.x.d, .int .i64 x.x.e] 56)).heap.size ∧ Below w2.heap.size w2 (wr.alloc (.cells #[.int .i64 x.s, .int .i64 x.k, .int .i64 x.u, .int .i64 x.x.k, .int .i64 x.x.t, .int .i64 x.x.a, .int .i64 x.x.b, .int .i64 x.x.c, .int .i64 x.x.d, .int .i64 x.x.e] 56)) ∧ NRow celD (wr.alloc (.cells #[.int .i64 x.s, .int .i64 x.k, .int .i64 x.u, .int .i64 x.x.k, .int .i64 x.x.t, .int .i64 x.x.a, .int .i64 x.x.b, .int .i64 x.x.c, .int .i64 x.x.d, .int .i64 x.x.e] 56)) (some ⟨b, off, none⟩) cs) := ⟨(HB.out.2.1.later C.out.1).later (Below.alloc_ _ _), numsAt_new wr 56 (celD.cs x), by simp, C.out.1.alloc C.out.1.size _, HR2.out.later (Below.alloc_ _ _)⟩
              clear HR HR2 hs C
              go_wp2_with fail
              clear d0 d1 d2 d3 d4 d5 d6 d7 d8 d9 p0 p1 p2 p3 p4 p5
              generalize wr.alloc (.cells #[.int .i64 x.s, .int .i64 x.k, .int .i64 x.u, .int .i64 x.x.k, .int .i64 x.x.t, .int .i64 x.x.a, .int .i64 x.x.b, .int .i64 x.x.c, .int .i64 x.x.d, .int .i64 x.x.e] 56) = W at CB ⊢
              obtain ⟨p, hp⟩ : ∃ p, p = wr.heap.size := ⟨_, rfl⟩
              rw [← hp] at CB ⊢
              clear hp
              refine (l6In_any _ _ _ _).mono ?_
              rintro r W1 ⟨rfl, rfl⟩
              cases t0 : inB x.s 4 6
              · have E9 : Hid (clientB i n ws cs ss ms = false) := Hid.mk' (by rw [KB.out, E.out]; simp [t0])
                have B9 : Hid (Below w.heap.size w W1) := HB.out.1.trans ((CB.out.2.2.2.1).mono HB.out.1.size)
                clear E KB HB CB HI t0
                go_wp2_with fail
                go_ret
                exact ⟨ret_bool E9.out.symm, B9.out⟩
              obtain ⟨d0, d1, d2, d3, d4, d5, d6, d7, d8, d9⟩ := celD.at CB.out.2.1
              simp only [Nat.zero_add] at d1 d2 d3 d4 d5 d6 d7 d8 d9
              obtain ⟨p0, p1, p2, p3, p4, p5⟩ := CB.out.1.cells
              go_wp2_with fail
              clear d0 d1 d2 d3 d4 d5 d6 d7 d8 d9 p0 p1 p2 p3 p4 p5
              refine (l12Cred_any i n _ _ _ (some ⟨b, off, none⟩) c2 cs x.s _ CB.out.2.2.2.2 (by omega)).mono ?_
              rintro r W2 ⟨rfl, b9⟩
              have CB2 : Hid (NumsAt W2 p 0 (celD.cs x) ∧ Below w2.heap.size w2 W2) := ⟨CB.out.2.1.later b9 CB.out.2.2.1, CB.out.2.2.2.1.trans (b9.mono CB.out.2.2.2.1.size)⟩
              clear CB b9
              obtain ⟨d0, d1, d2, d3, d4, d5, d6, d7, d8, d9⟩ := celD.at CB2.out.1
              simp only [Nat.zero_add] at d1 d2 d3 d4 d5 d6 d7 d8 d9
              by_cases hk : ¬ credAt x.s cs = (j : Int)
              · have hm : x.s ∈ (cs.take j).map (·.s) := Classical.byContradiction (fun q => hk (HI.out.2 q))
                have E9 : Hid (clientB i n ws cs ss ms = false) := Hid.mk' (by rw [KB.out, E.out, decide_eq_true hm]; simp)
                have B9 : Hid (Below w.heap.size w W2) := HB.out.1.trans (CB2.out.2.mono HB.out.1.size)
                clear E KB HB CB2 HI t0 hm
                go_wp2_with fail
                go_ret
                exact ⟨ret_bool E9.out.symm, B9.out⟩
              replace hk := Classical.not_not.1 hk
              have hm : ¬ x.s ∈ (cs.take j).map (·.s) := HI.out.1 hk
              have HM : Hid (¬ x.s ∈ (cs.take j).map (·.s)) := hm
              clear hm HI
              rw [hk]
              clear hk
              go_wp2_with fail
              refine (l1Session_any _ _).mono ?_
              rintro r W3 ⟨rfl, rfl⟩
              cases t1 : inB x.k 10 60
              · have E9 : Hid (clientB i n ws cs ss ms = false) := Hid.mk' (by rw [KB.out, E.out]; simp [t1])
                have B9 : Hid (Below w.heap.size w W3) := HB.out.1.trans ((CB2.out.2).mono HB.out.1.size)
                clear E KB HB CB2 HM t0 t1 d0 d1 d2 d3 d4 d5 d6 d7 d8 d9
                go_wp2_with fail
                go_ret
                exact ⟨ret_bool E9.out.symm, B9.out⟩
              go_wp2_with fail
              refine (l1Time_any _ _).mono ?_
              rintro r W3 ⟨rfl, rfl⟩
              cases t2 : inB x.u 0 100
              · have E9 : Hid (clientB i n ws cs ss ms = false) := Hid.mk' (by rw [KB.out, E.out]; simp [t2])
                have B9 : Hid (Below w.heap.size w W3) := HB.out.1.trans ((CB2.out.2).mono HB.out.1.size)
                clear E KB HB CB2 HM t0 t1 t2 d0 d1 d2 d3 d4 d5 d6 d7 d8 d9
                go_wp2_with fail
                go_ret
                exact ⟨ret_bool E9.out.symm, B9.out⟩
              go_wp2_with fail
              refine (specOk_any x.x.k x.x.t x.x.a x.x.b x.x.c x.x.d x.x.e _).mono ?_
              rintro r W4 ⟨rfl, b9⟩
              have B4 : Hid (Below w2.heap.size w2 W4) := CB2.out.2.trans (b9.mono CB2.out.2.size)
              clear CB2 b9 d0 d1 d2 d3 d4 d5 d6 d7 d8 d9
              cases t3 : okB x.x.k x.x.t x.x.a x.x.b x.x.c x.x.d x.x.e
              · have E9 : Hid (clientB i n ws cs ss ms = false) := Hid.mk' (by rw [KB.out, E.out]; simp [Sl.ok, t3])
                have B9 : Hid (Below w.heap.size w W4) := HB.out.1.trans ((B4.out).mono HB.out.1.size)
                clear E KB HB HM t0 t1 t2 t3
                go_wp2_with fail
                go_ret
                exact ⟨ret_bool E9.out.symm, B9.out⟩
              have E9 : Hid ((cs.all okCd && dupB [] cs) = ((cs.drop (j + 1)).all okCd && dupB ((cs.take (j + 1)).map (·.s)) (cs.drop (j + 1)))) := Hid.mk' (by
                rw [E.out]
                have hm := HM.out
                simp only [t0, t1, t2, Sl.ok, t3, hm, Bool.true_and, decide_false, Bool.not_false])
              clear E HM t0 t1 t2 t3
              go_wp2_with fail
              go_roundw
              case rel => exact ⟨j + 1, by omega, by go_num, B4.out, E9.out⟩
              case measure => simp [intOf]; omega
          · obtain rfl : j = cs.length := by omega
            as_aux_lemma =>
              have E1 : Hid ((cs.all okCd && dupB [] cs) = true) := by
                have e := C.out.2
                rw [List.drop_length] at e
                exact e.trans (by simp [dupB])
              have HB2 : Hid (Below w.heap.size w wr ∧ CBlk wr w.heap.size i n (.slice a1 ws.length c1) (.slice a2 cs.length c2) (.slice a3 ss.length c3) (.slice a4 ms.length c4) ∧ CRows wr a1 a2 a3 a4 ws cs ss ms) := ⟨HB.out.1.trans (C.out.1.mono HB.out.1.size), HB.out.2.1.later C.out.1, HB.out.2.2.later C.out.1⟩
              obtain ⟨p0, p1, p2, p3, p4, p5⟩ := HB2.out.2.1.cells
              have KB2 : Hid (clientB i n ws cs ss ms = (okSs n 0 ss && okMs ss [] ms)) := Hid.mk' (by rw [KB.out, E1.out]; simp)
              clear KB E1
              have KB := KB2
              clear KB2
              go_wp2_with fail
              clear p0 p1 p2 p3 p4 p5
              clear HB C
              have HB := HB2
              clear HB2
              obtain ⟨w2, hw2⟩ : ∃ u, u = wr := ⟨_, rfl⟩
              subst hw2
              go_loopw [7] (fun q wr => ∃ (j : Nat), j ≤ ss.length ∧ q = .int .i64 j ∧ Hid (Below w2.heap.size w2 wr ∧ okSs n 0 ss = okSs n (lastS ss j) (ss.drop j) ∧ 0 ≤ lastS ss j)) (fun q _ => ss.length - (intOf q).toNat)
              case atStart => exact ⟨0, Nat.zero_le _, rfl, Below.refl _ _, by rw [lastS_zero, List.drop_zero], by rw [lastS_zero]; exact Int.le_refl _⟩
              case round =>
                obtain ⟨j, hj, rfl, C⟩ := hrel
                by_cases hlt : j < ss.length
                · as_aux_lemma =>
                    obtain ⟨x, hs⟩ : ∃ x, ss[j]? = some x := ⟨ss[j], List.getElem?_eq_getElem hlt⟩
                    have HR := (HB.out.2.2.later C.out.1).w3
                    rcases HR with HR | ⟨b, off, rfl, hl, HR⟩
                    · simp [HR] at hlt
                    have E : Hid (okSs n 0 ss = (inB x.p 4 5 && inB x.k 10 60 && inB x.t 0 100 && decide (lastS ss j < x.n) && decide (x.n ≤ n) && okSs n x.n (ss.drop (j + 1))) ∧ 0 ≤ lastS ss j ∧ lastS ss (j + 1) = x.n) := by
                      have e := C.out.2.1
                      rw [drop_at hs] at e
                      exact ⟨e, C.out.2.2, lastS_succ hs⟩
                    have PV0 : Hid (0 < j → ∃ y : Ca, NumsAt wr b (off + (j - 1) * 4) (celC.cs y) ∧ lastS ss j = y.n) := Hid.mk' (fun h0 => by
                      obtain ⟨y, hy⟩ : ∃ y, ss[j - 1]? = some y := ⟨ss[j - 1], List.getElem?_eq_getElem (by omega)⟩
                      refine ⟨y, HR (j - 1) y hy, ?_⟩
                      have e := lastS_succ hy
                      rwa [show j - 1 + 1 = j from by omega] at e)
                    have CB : Hid (CBlk wr w.heap.size i n (.slice a1 ws.length c1) (.slice a2 cs.length c2) (.slice (some ⟨b, off, none⟩) ss.length c3) (.slice a4 ms.length c4) ∧ NumsAt wr b (off + j * 4) (celC.cs x) ∧ Below w2.heap.size w2 wr) := ⟨HB.out.2.1.later C.out.1, HR j x hs, C.out.1⟩
                    have hl9 : b < wr.heap.size := hl
                    obtain ⟨p0, p1, p2, p3, p4, p5⟩ := CB.out.1.cells
                    clear HR hs C hl
                    go_wp2_with fail
                    clear p0 p1 p2 p3 p4 p5
                    obtain ⟨W, hW⟩ : ∃ W, W = wr := ⟨_, rfl⟩
                    subst hW
                    refine wp_region_held_drew (S := fun w' => Below W.heap.size W w') (by kernel_rfl) (Below.refl _ _).drew (fun hS => ?_)
                    generalize W.drew = W1 at hS ⊢
                    cases t0 : okCa n x
                    · have E9 : Hid (clientB i n ws cs ss ms = false) := Hid.mk' (by
                        rw [KB.out, E.out.1]
                        have e1 := E.out.2.1
                        by_cases e2 : inB x.p 4 5 = true
                        · by_cases e3 : inB x.k 10 60 = true
                          · by_cases e4 : inB x.t 0 100 = true
                            · have e5 : ¬ (lastS ss j < x.n ∧ x.n ≤ n) := fun h => by
                                have e6 : inB x.n 1 n = true := by simp [inB]; omega
                                simp [okCa, e2, e3, e4, e6] at t0
                              by_cases e6 : lastS ss j < x.n
                              · have e7 : ¬ x.n ≤ n := fun h => e5 ⟨e6, h⟩
                                simp [e7]
                              · simp [e6]
                            · simp [e4]
                          · simp [e3]
                        · simp [e2])
                      clear E KB
                      refine take1 0 108 (Value.pointer (some ⟨w.heap.size, 4, none⟩)) rfl rfl (by kernel_rfl) (by kernel_rfl) (by kernel_rfl) (by rfl) (fun _ _ _ h => h) hS (fun w' hS' => ?_) ?_
                      · (go_simp) <;> (intro hx9; omega)
                      simp only [Act.put, List.setIfInBounds_toArray, List.set_cons_zero, List.set_cons_succ]
                      refine take1 1 109 (Value.slice (some ⟨b, off, none⟩) ss.length c3) rfl rfl (by kernel_rfl) (by kernel_rfl) (by kernel_rfl) (by rfl) (fun _ _ _ h => h) hS (fun w' hS' => ?_) ?_
                      · obtain ⟨p0, p1, p2, p3, p4, p5⟩ := (CB.out.1.later hS').cells
                        (go_simp) <;> (intro hx9; omega)
                      simp only [Act.put, List.setIfInBounds_toArray, List.set_cons_zero, List.set_cons_succ]
                      refine take1 2 110 (Value.int .i64 j) rfl rfl (by kernel_rfl) (by kernel_rfl) (by kernel_rfl) (by rfl) (fun _ _ _ h => h) hS (fun w' hS' => ?_) ?_
                      · (go_simp) <;> (intro hx9; omega)
                      simp only [Act.put, List.setIfInBounds_toArray, List.set_cons_zero, List.set_cons_succ]
                      refine take1 3 111 (Value.pointer (some ⟨b, off + j * 4, none⟩)) rfl rfl (by kernel_rfl) (by kernel_rfl) (by kernel_rfl) (by rfl) (fun _ _ _ h => h) hS (fun w' hS' => ?_) ?_
                      · (go_simp) <;> (intro hx9; omega)
                      simp only [Act.put, List.setIfInBounds_toArray, List.set_cons_zero, List.set_cons_succ]
                      refine take1 4 112 (Value.agg #[.int .i64 x.p, .int .i64 x.k, .int .i64 x.t, .int .i64 x.n]) rfl rfl (by kernel_rfl) (by kernel_rfl) (by kernel_rfl) (by rfl) (fun _ _ _ h => h) hS (fun w' hS' => ?_) ?_
                      · obtain ⟨d0, d1, d2, d3⟩ := celC.at (CB.out.2.1.later hS' hl9)
                        (go_simp) <;> (intro hx9; omega)
                      simp only [Act.put, List.setIfInBounds_toArray, List.set_cons_zero, List.set_cons_succ]
                      refine take1 5 113 (Value.pointer (some ⟨w.heap.size, 1, none⟩)) rfl rfl (by kernel_rfl) (by kernel_rfl) (by kernel_rfl) (by rfl) (fun _ _ _ h => h) hS (fun w' hS' => ?_) ?_
                      · (go_simp) <;> (intro hx9; omega)
                      simp only [Act.put, List.setIfInBounds_toArray, List.set_cons_zero, List.set_cons_succ]
                      refine take1 6 114 (Value.int .i64 n) rfl rfl (by kernel_rfl) (by kernel_rfl) (by kernel_rfl) (by rfl) (fun _ _ _ h => h) hS (fun w' hS' => ?_) ?_
                      · obtain ⟨p0, p1, p2, p3, p4, p5⟩ := (CB.out.1.later hS').cells
                        (go_simp) <;> (intro hx9; omega)
                      simp only [Act.put, List.setIfInBounds_toArray, List.set_cons_zero, List.set_cons_succ]
                      refine wpAnyH_ready (rs := [7]) (by kernel_rfl) (by simp) ?_
                      refine AllReadyH.cons rfl (fun K hK => ?_) AllReadyH.nil
                      go_simp
                      refine (l12Call_any x n _).mono ?_
                      rintro r W2 ⟨rfl, b9⟩
                      have S9 : Below W.heap.size W W2 := hS.trans (b9.mono hS.size)
                      clear b9
                      refine hK.out _ _ S9 (fun hS => ?_)
                      clear hK K S9
                      simp only [t0]
                      refine take1 8 116 (.bool true) rfl rfl (by kernel_rfl) (by kernel_rfl) (by kernel_rfl) (by rfl) (fun _ _ _ h => h) hS (fun w' hS' => ?_) ?_
                      · (go_simp) <;> (intro hx9; omega)
                      simp only [Act.put, List.setIfInBounds_toArray, List.set_cons_zero, List.set_cons_succ]
                      refine take1 9 117 (.bool true) rfl rfl (by kernel_rfl) (by kernel_rfl) (by kernel_rfl) (by rfl) (fun _ _ _ h => h) hS (fun w' hS' => ?_) ?_
                      · (go_simp) <;> (intro hx9; omega)
                      simp only [Act.put, List.setIfInBounds_toArray, List.set_cons_zero, List.set_cons_succ]
                      refine skip1 10 118 rfl rfl (by kernel_rfl) (by kernel_rfl) (by kernel_rfl) (by rfl) (fun _ _ _ h => h) hS ?_
                      simp only [Act.put, List.setIfInBounds_toArray, List.set_cons_zero, List.set_cons_succ]
                      refine skip1 11 119 rfl rfl (by kernel_rfl) (by kernel_rfl) (by kernel_rfl) (by rfl) (fun _ _ _ h => h) hS ?_
                      simp only [Act.put, List.setIfInBounds_toArray, List.set_cons_zero, List.set_cons_succ]
                      refine skip1 12 120 rfl rfl (by kernel_rfl) (by kernel_rfl) (by kernel_rfl) (by rfl) (fun _ _ _ h => h) hS ?_
                      simp only [Act.put, List.setIfInBounds_toArray, List.set_cons_zero, List.set_cons_succ]
                      refine skip1 13 121 rfl rfl (by kernel_rfl) (by kernel_rfl) (by kernel_rfl) (by rfl) (fun _ _ _ h => h) hS ?_
                      simp only [Act.put, List.setIfInBounds_toArray, List.set_cons_zero, List.set_cons_succ]
                      refine skip1 14 122 rfl rfl (by kernel_rfl) (by kernel_rfl) (by kernel_rfl) (by rfl) (fun _ _ _ h => h) hS ?_
                      simp only [Act.put, List.setIfInBounds_toArray, List.set_cons_zero, List.set_cons_succ]
                      refine skip1 15 123 rfl rfl (by kernel_rfl) (by kernel_rfl) (by kernel_rfl) (by rfl) (fun _ _ _ h => h) hS ?_
                      simp only [Act.put, List.setIfInBounds_toArray, List.set_cons_zero, List.set_cons_succ]
                      refine skip1 16 124 rfl rfl (by kernel_rfl) (by kernel_rfl) (by kernel_rfl) (by rfl) (fun _ _ _ h => h) hS ?_
                      simp only [Act.put, List.setIfInBounds_toArray, List.set_cons_zero, List.set_cons_succ]
                      refine skip1 17 125 rfl rfl (by kernel_rfl) (by kernel_rfl) (by kernel_rfl) (by rfl) (fun _ _ _ h => h) hS ?_
                      simp only [Act.put, List.setIfInBounds_toArray, List.set_cons_zero, List.set_cons_succ]
                      refine skip1 18 126 rfl rfl (by kernel_rfl) (by kernel_rfl) (by kernel_rfl) (by rfl) (fun _ _ _ h => h) hS ?_
                      simp only [Act.put, List.setIfInBounds_toArray, List.set_cons_zero, List.set_cons_succ]
                      refine skip1 19 127 rfl rfl (by kernel_rfl) (by kernel_rfl) (by kernel_rfl) (by rfl) (fun _ _ _ h => h) hS ?_
                      simp only [Act.put, List.setIfInBounds_toArray, List.set_cons_zero, List.set_cons_succ]
                      refine skip1 20 128 rfl rfl (by kernel_rfl) (by kernel_rfl) (by kernel_rfl) (by rfl) (fun _ _ _ h => h) hS ?_
                      simp only [Act.put, List.setIfInBounds_toArray, List.set_cons_zero, List.set_cons_succ]
                      refine skip1 21 129 rfl rfl (by kernel_rfl) (by kernel_rfl) (by kernel_rfl) (by rfl) (fun _ _ _ h => h) hS ?_
                      simp only [Act.put, List.setIfInBounds_toArray, List.set_cons_zero, List.set_cons_succ]
                      refine skip1 22 130 rfl rfl (by kernel_rfl) (by kernel_rfl) (by kernel_rfl) (by rfl) (fun _ _ _ h => h) hS ?_
                      simp only [Act.put, List.setIfInBounds_toArray, List.set_cons_zero, List.set_cons_succ]
                      refine skip1 23 131 rfl rfl (by kernel_rfl) (by kernel_rfl) (by kernel_rfl) (by rfl) (fun _ _ _ h => h) hS ?_
                      simp only [Act.put, List.setIfInBounds_toArray, List.set_cons_zero, List.set_cons_succ]
                      refine skip1 24 132 rfl rfl (by kernel_rfl) (by kernel_rfl) (by kernel_rfl) (by rfl) (fun _ _ _ h => h) hS ?_
                      simp only [Act.put, List.setIfInBounds_toArray, List.set_cons_zero, List.set_cons_succ]
                      refine skip1 25 133 rfl rfl (by kernel_rfl) (by kernel_rfl) (by kernel_rfl) (by rfl) (fun _ _ _ h => h) hS ?_
                      simp only [Act.put, List.setIfInBounds_toArray, List.set_cons_zero, List.set_cons_succ]
                      refine skip1 26 134 rfl rfl (by kernel_rfl) (by kernel_rfl) (by kernel_rfl) (by rfl) (fun _ _ _ h => h) hS ?_
                      simp only [Act.put, List.setIfInBounds_toArray, List.set_cons_zero, List.set_cons_succ]
                      refine skip1 27 135 rfl rfl (by kernel_rfl) (by kernel_rfl) (by kernel_rfl) (by rfl) (fun _ _ _ h => h) hS ?_
                      simp only [Act.put, List.setIfInBounds_toArray, List.set_cons_zero, List.set_cons_succ]
                      refine take1 28 136 (.bool true) rfl rfl (by kernel_rfl) (by kernel_rfl) (by kernel_rfl) (by rfl) (fun _ _ _ h => h) hS (fun w' hS' => ?_) ?_
                      · (go_simp) <;> (intro hx9; omega)
                      simp only [Act.put, List.setIfInBounds_toArray, List.set_cons_zero, List.set_cons_succ]
                      refine wpAnyH_done (by kernel_rfl) ?_ _
                      have B9 : Hid (Below w.heap.size w W2) := HB.out.1.trans ((CB.out.2.2.trans (hS.mono CB.out.2.2.size)).mono HB.out.1.size)
                      clear hS CB PV0 t0 HB
                      go_wp2_with fail
                      go_ret
                      exact ⟨ret_bool E9.out.symm, B9.out⟩
                    have hca : inB x.p 4 5 = true ∧ inB x.k 10 60 = true ∧ inB x.t 0 100 = true ∧ 1 ≤ x.n ∧ x.n ≤ n := by
                      simp only [okCa, Bool.and_eq_true] at t0
                      obtain ⟨⟨⟨q1, q2⟩, q3⟩, q4⟩ := t0
                      simp [inB] at q4
                      exact ⟨q1, q2, q3, q4.1, q4.2⟩
                    have HCA : Hid (inB x.p 4 5 = true ∧ inB x.k 10 60 = true ∧ inB x.t 0 100 = true ∧ 1 ≤ x.n ∧ x.n ≤ n) := hca
                    clear hca
                    by_cases hj0 : j = 0
                    · have E9 : Hid (okSs n 0 ss = okSs n (lastS ss (j + 1)) (ss.drop (j + 1)) ∧ 0 ≤ lastS ss (j + 1)) := Hid.mk' (by
                        have e1 := E.out.1
                        rw [hj0, lastS_zero] at e1
                        rw [hj0]
                        have e3 := E.out.2.2
                        rw [hj0] at e3
                        obtain ⟨q1, q2, q3, q4, q5⟩ := HCA.out
                        rw [e3, e1]
                        have e4 : (0 : Int) < x.n := by omega
                        exact ⟨by simp [q1, q2, q3, q5, e4], by omega⟩)
                      have HJ : Hid (j = 0) := hj0
                      clear E HCA hj0
                      refine take1 0 108 (Value.pointer (some ⟨w.heap.size, 4, none⟩)) rfl rfl (by kernel_rfl) (by kernel_rfl) (by kernel_rfl) (by rfl) (fun _ _ _ h => h) hS (fun w' hS' => ?_) ?_
                      · (go_simp) <;> (intro hx9; omega)
                      simp only [Act.put, List.setIfInBounds_toArray, List.set_cons_zero, List.set_cons_succ]
                      refine take1 1 109 (Value.slice (some ⟨b, off, none⟩) ss.length c3) rfl rfl (by kernel_rfl) (by kernel_rfl) (by kernel_rfl) (by rfl) (fun _ _ _ h => h) hS (fun w' hS' => ?_) ?_
                      · obtain ⟨p0, p1, p2, p3, p4, p5⟩ := (CB.out.1.later hS').cells
                        (go_simp) <;> (intro hx9; omega)
                      simp only [Act.put, List.setIfInBounds_toArray, List.set_cons_zero, List.set_cons_succ]
                      refine take1 2 110 (Value.int .i64 j) rfl rfl (by kernel_rfl) (by kernel_rfl) (by kernel_rfl) (by rfl) (fun _ _ _ h => h) hS (fun w' hS' => ?_) ?_
                      · (go_simp) <;> (intro hx9; omega)
                      simp only [Act.put, List.setIfInBounds_toArray, List.set_cons_zero, List.set_cons_succ]
                      refine take1 3 111 (Value.pointer (some ⟨b, off + j * 4, none⟩)) rfl rfl (by kernel_rfl) (by kernel_rfl) (by kernel_rfl) (by rfl) (fun _ _ _ h => h) hS (fun w' hS' => ?_) ?_
                      · (go_simp) <;> (intro hx9; omega)
                      simp only [Act.put, List.setIfInBounds_toArray, List.set_cons_zero, List.set_cons_succ]
                      refine take1 4 112 (Value.agg #[.int .i64 x.p, .int .i64 x.k, .int .i64 x.t, .int .i64 x.n]) rfl rfl (by kernel_rfl) (by kernel_rfl) (by kernel_rfl) (by rfl) (fun _ _ _ h => h) hS (fun w' hS' => ?_) ?_
                      · obtain ⟨d0, d1, d2, d3⟩ := celC.at (CB.out.2.1.later hS' hl9)
                        (go_simp) <;> (intro hx9; omega)
                      simp only [Act.put, List.setIfInBounds_toArray, List.set_cons_zero, List.set_cons_succ]
                      refine take1 5 113 (Value.pointer (some ⟨w.heap.size, 1, none⟩)) rfl rfl (by kernel_rfl) (by kernel_rfl) (by kernel_rfl) (by rfl) (fun _ _ _ h => h) hS (fun w' hS' => ?_) ?_
                      · (go_simp) <;> (intro hx9; omega)
                      simp only [Act.put, List.setIfInBounds_toArray, List.set_cons_zero, List.set_cons_succ]
                      refine take1 6 114 (Value.int .i64 n) rfl rfl (by kernel_rfl) (by kernel_rfl) (by kernel_rfl) (by rfl) (fun _ _ _ h => h) hS (fun w' hS' => ?_) ?_
                      · obtain ⟨p0, p1, p2, p3, p4, p5⟩ := (CB.out.1.later hS').cells
                        (go_simp) <;> (intro hx9; omega)
                      simp only [Act.put, List.setIfInBounds_toArray, List.set_cons_zero, List.set_cons_succ]
                      refine wpAnyH_ready (rs := [7]) (by kernel_rfl) (by simp) ?_
                      refine AllReadyH.cons rfl (fun K hK => ?_) AllReadyH.nil
                      go_simp
                      refine (l12Call_any x n _).mono ?_
                      rintro r W2 ⟨rfl, b9⟩
                      have S9 : Below W.heap.size W W2 := hS.trans (b9.mono hS.size)
                      clear b9
                      refine hK.out _ _ S9 (fun hS => ?_)
                      clear hK K S9
                      simp only [t0]
                      refine take1 8 116 (.bool false) rfl rfl (by kernel_rfl) (by kernel_rfl) (by kernel_rfl) (by rfl) (fun _ _ _ h => h) hS (fun w' hS' => ?_) ?_
                      · (go_simp) <;> (intro hx9; omega)
                      simp only [Act.put, List.setIfInBounds_toArray, List.set_cons_zero, List.set_cons_succ]
                      refine take1 9 117 (.bool false) rfl rfl (by kernel_rfl) (by kernel_rfl) (by kernel_rfl) (by rfl) (fun _ _ _ h => h) hS (fun w' hS' => ?_) ?_
                      · (go_simp) <;> (intro hx9; omega)
                      simp only [Act.put, List.setIfInBounds_toArray, List.set_cons_zero, List.set_cons_succ]
                      refine take1 10 118 (Value.int .i64 j) rfl rfl (by kernel_rfl) (by kernel_rfl) (by kernel_rfl) (by rfl) (fun _ _ _ h => h) hS (fun w' hS' => ?_) ?_
                      · (go_simp) <;> (intro hx9; omega)
                      simp only [Act.put, List.setIfInBounds_toArray, List.set_cons_zero, List.set_cons_succ]
                      refine take1 11 119 (.bool false) rfl rfl (by kernel_rfl) (by kernel_rfl) (by kernel_rfl) (by rfl) (fun _ _ _ h => h) hS (fun w' hS' => ?_) ?_
                      · have hj0 := HJ.out
                        subst hj0
                        (go_simp) <;> (first | omega | (intro hx9; omega))
                      simp only [Act.put, List.setIfInBounds_toArray, List.set_cons_zero, List.set_cons_succ]
                      refine take1 12 120 (.bool false) rfl rfl (by kernel_rfl) (by kernel_rfl) (by kernel_rfl) (by rfl) (fun _ _ _ h => h) hS (fun w' hS' => ?_) ?_
                      · (go_simp) <;> (intro hx9; omega)
                      simp only [Act.put, List.setIfInBounds_toArray, List.set_cons_zero, List.set_cons_succ]
                      refine skip1 13 121 rfl rfl (by kernel_rfl) (by kernel_rfl) (by kernel_rfl) (by rfl) (fun _ _ _ h => h) hS ?_
                      simp only [Act.put, List.setIfInBounds_toArray, List.set_cons_zero, List.set_cons_succ]
                      refine skip1 14 122 rfl rfl (by kernel_rfl) (by kernel_rfl) (by kernel_rfl) (by rfl) (fun _ _ _ h => h) hS ?_
                      simp only [Act.put, List.setIfInBounds_toArray, List.set_cons_zero, List.set_cons_succ]
                      refine skip1 15 123 rfl rfl (by kernel_rfl) (by kernel_rfl) (by kernel_rfl) (by rfl) (fun _ _ _ h => h) hS ?_
                      simp only [Act.put, List.setIfInBounds_toArray, List.set_cons_zero, List.set_cons_succ]
                      refine skip1 16 124 rfl rfl (by kernel_rfl) (by kernel_rfl) (by kernel_rfl) (by rfl) (fun _ _ _ h => h) hS ?_
                      simp only [Act.put, List.setIfInBounds_toArray, List.set_cons_zero, List.set_cons_succ]
                      refine skip1 17 125 rfl rfl (by kernel_rfl) (by kernel_rfl) (by kernel_rfl) (by rfl) (fun _ _ _ h => h) hS ?_
                      simp only [Act.put, List.setIfInBounds_toArray, List.set_cons_zero, List.set_cons_succ]
                      refine skip1 18 126 rfl rfl (by kernel_rfl) (by kernel_rfl) (by kernel_rfl) (by rfl) (fun _ _ _ h => h) hS ?_
                      simp only [Act.put, List.setIfInBounds_toArray, List.set_cons_zero, List.set_cons_succ]
                      refine skip1 19 127 rfl rfl (by kernel_rfl) (by kernel_rfl) (by kernel_rfl) (by rfl) (fun _ _ _ h => h) hS ?_
                      simp only [Act.put, List.setIfInBounds_toArray, List.set_cons_zero, List.set_cons_succ]
                      refine skip1 20 128 rfl rfl (by kernel_rfl) (by kernel_rfl) (by kernel_rfl) (by rfl) (fun _ _ _ h => h) hS ?_
                      simp only [Act.put, List.setIfInBounds_toArray, List.set_cons_zero, List.set_cons_succ]
                      refine skip1 21 129 rfl rfl (by kernel_rfl) (by kernel_rfl) (by kernel_rfl) (by rfl) (fun _ _ _ h => h) hS ?_
                      simp only [Act.put, List.setIfInBounds_toArray, List.set_cons_zero, List.set_cons_succ]
                      refine skip1 22 130 rfl rfl (by kernel_rfl) (by kernel_rfl) (by kernel_rfl) (by rfl) (fun _ _ _ h => h) hS ?_
                      simp only [Act.put, List.setIfInBounds_toArray, List.set_cons_zero, List.set_cons_succ]
                      refine skip1 23 131 rfl rfl (by kernel_rfl) (by kernel_rfl) (by kernel_rfl) (by rfl) (fun _ _ _ h => h) hS ?_
                      simp only [Act.put, List.setIfInBounds_toArray, List.set_cons_zero, List.set_cons_succ]
                      refine skip1 24 132 rfl rfl (by kernel_rfl) (by kernel_rfl) (by kernel_rfl) (by rfl) (fun _ _ _ h => h) hS ?_
                      simp only [Act.put, List.setIfInBounds_toArray, List.set_cons_zero, List.set_cons_succ]
                      refine skip1 25 133 rfl rfl (by kernel_rfl) (by kernel_rfl) (by kernel_rfl) (by rfl) (fun _ _ _ h => h) hS ?_
                      simp only [Act.put, List.setIfInBounds_toArray, List.set_cons_zero, List.set_cons_succ]
                      refine skip1 26 134 rfl rfl (by kernel_rfl) (by kernel_rfl) (by kernel_rfl) (by rfl) (fun _ _ _ h => h) hS ?_
                      simp only [Act.put, List.setIfInBounds_toArray, List.set_cons_zero, List.set_cons_succ]
                      refine take1 27 135 (.bool false) rfl rfl (by kernel_rfl) (by kernel_rfl) (by kernel_rfl) (by rfl) (fun _ _ _ h => h) hS (fun w' hS' => ?_) ?_
                      · (go_simp) <;> (intro hx9; omega)
                      simp only [Act.put, List.setIfInBounds_toArray, List.set_cons_zero, List.set_cons_succ]
                      refine take1 28 136 (.bool false) rfl rfl (by kernel_rfl) (by kernel_rfl) (by kernel_rfl) (by rfl) (fun _ _ _ h => h) hS (fun w' hS' => ?_) ?_
                      · (go_simp) <;> (intro hx9; omega)
                      simp only [Act.put, List.setIfInBounds_toArray, List.set_cons_zero, List.set_cons_succ]
                      refine wpAnyH_done (by kernel_rfl) ?_ _
                      have B9 : Hid (Below w2.heap.size w2 W2) := CB.out.2.2.trans (hS.mono CB.out.2.2.size)
                      clear hS CB PV0 t0 HJ
                      go_wp2_with fail
                      go_roundw
                      case rel => exact ⟨j + 1, by omega, by go_num, B9.out, E9.out⟩
                      case measure => simp [intOf]; omega
                    obtain ⟨y, PVy, hly⟩ := PV0.out (by omega)
                    have PV : Hid (NumsAt W b (off + (j - 1) * 4) (celC.cs y)) := PVy
                    clear PV0 PVy
                    by_cases hasc : y.n < x.n
                    · have E9 : Hid (okSs n 0 ss = okSs n (lastS ss (j + 1)) (ss.drop (j + 1)) ∧ 0 ≤ lastS ss (j + 1)) := Hid.mk' (by
                        have e1 := E.out.1
                        obtain ⟨q1, q2, q3, q4, q5⟩ := HCA.out
                        rw [E.out.2.2, e1, hly]
                        exact ⟨by simp [q1, q2, q3, q5, hasc], by omega⟩)
                      clear E HCA hly
                      refine take1 0 108 (Value.pointer (some ⟨w.heap.size, 4, none⟩)) rfl rfl (by kernel_rfl) (by kernel_rfl) (by kernel_rfl) (by rfl) (fun _ _ _ h => h) hS (fun w' hS' => ?_) ?_
                      · (go_simp) <;> (intro hx9; omega)
                      simp only [Act.put, List.setIfInBounds_toArray, List.set_cons_zero, List.set_cons_succ]
                      refine take1 1 109 (Value.slice (some ⟨b, off, none⟩) ss.length c3) rfl rfl (by kernel_rfl) (by kernel_rfl) (by kernel_rfl) (by rfl) (fun _ _ _ h => h) hS (fun w' hS' => ?_) ?_
                      · obtain ⟨p0, p1, p2, p3, p4, p5⟩ := (CB.out.1.later hS').cells
                        (go_simp) <;> (intro hx9; omega)
                      simp only [Act.put, List.setIfInBounds_toArray, List.set_cons_zero, List.set_cons_succ]
                      refine take1 2 110 (Value.int .i64 j) rfl rfl (by kernel_rfl) (by kernel_rfl) (by kernel_rfl) (by rfl) (fun _ _ _ h => h) hS (fun w' hS' => ?_) ?_
                      · (go_simp) <;> (intro hx9; omega)
                      simp only [Act.put, List.setIfInBounds_toArray, List.set_cons_zero, List.set_cons_succ]
                      refine take1 3 111 (Value.pointer (some ⟨b, off + j * 4, none⟩)) rfl rfl (by kernel_rfl) (by kernel_rfl) (by kernel_rfl) (by rfl) (fun _ _ _ h => h) hS (fun w' hS' => ?_) ?_
                      · (go_simp) <;> (intro hx9; omega)
                      simp only [Act.put, List.setIfInBounds_toArray, List.set_cons_zero, List.set_cons_succ]
                      refine take1 4 112 (Value.agg #[.int .i64 x.p, .int .i64 x.k, .int .i64 x.t, .int .i64 x.n]) rfl rfl (by kernel_rfl) (by kernel_rfl) (by kernel_rfl) (by rfl) (fun _ _ _ h => h) hS (fun w' hS' => ?_) ?_
                      · obtain ⟨d0, d1, d2, d3⟩ := celC.at (CB.out.2.1.later hS' hl9)
                        (go_simp) <;> (intro hx9; omega)
                      simp only [Act.put, List.setIfInBounds_toArray, List.set_cons_zero, List.set_cons_succ]
                      refine take1 5 113 (Value.pointer (some ⟨w.heap.size, 1, none⟩)) rfl rfl (by kernel_rfl) (by kernel_rfl) (by kernel_rfl) (by rfl) (fun _ _ _ h => h) hS (fun w' hS' => ?_) ?_
                      · (go_simp) <;> (intro hx9; omega)
                      simp only [Act.put, List.setIfInBounds_toArray, List.set_cons_zero, List.set_cons_succ]
                      refine take1 6 114 (Value.int .i64 n) rfl rfl (by kernel_rfl) (by kernel_rfl) (by kernel_rfl) (by rfl) (fun _ _ _ h => h) hS (fun w' hS' => ?_) ?_
                      · obtain ⟨p0, p1, p2, p3, p4, p5⟩ := (CB.out.1.later hS').cells
                        (go_simp) <;> (intro hx9; omega)
                      simp only [Act.put, List.setIfInBounds_toArray, List.set_cons_zero, List.set_cons_succ]
                      refine wpAnyH_ready (rs := [7]) (by kernel_rfl) (by simp) ?_
                      refine AllReadyH.cons rfl (fun K hK => ?_) AllReadyH.nil
                      go_simp
                      refine (l12Call_any x n _).mono ?_
                      rintro r W2 ⟨rfl, b9⟩
                      have S9 : Below W.heap.size W W2 := hS.trans (b9.mono hS.size)
                      clear b9
                      refine hK.out _ _ S9 (fun hS => ?_)
                      clear hK K S9
                      simp only [t0]
                      refine take1 8 116 (.bool false) rfl rfl (by kernel_rfl) (by kernel_rfl) (by kernel_rfl) (by rfl) (fun _ _ _ h => h) hS (fun w' hS' => ?_) ?_
                      · (go_simp) <;> (intro hx9; omega)
                      simp only [Act.put, List.setIfInBounds_toArray, List.set_cons_zero, List.set_cons_succ]
                      refine take1 9 117 (.bool false) rfl rfl (by kernel_rfl) (by kernel_rfl) (by kernel_rfl) (by rfl) (fun _ _ _ h => h) hS (fun w' hS' => ?_) ?_
                      · (go_simp) <;> (intro hx9; omega)
                      simp only [Act.put, List.setIfInBounds_toArray, List.set_cons_zero, List.set_cons_succ]
                      refine take1 10 118 (Value.int .i64 j) rfl rfl (by kernel_rfl) (by kernel_rfl) (by kernel_rfl) (by rfl) (fun _ _ _ h => h) hS (fun w' hS' => ?_) ?_
                      · (go_simp) <;> (intro hx9; omega)
                      simp only [Act.put, List.setIfInBounds_toArray, List.set_cons_zero, List.set_cons_succ]
                      refine take1 11 119 (.bool true) rfl rfl (by kernel_rfl) (by kernel_rfl) (by kernel_rfl) (by rfl) (fun _ _ _ h => h) hS (fun w' hS' => ?_) ?_
                      · have h9 : (0 : Int) < (j : Int) := by omega
                        (go_simp) <;> (first | omega | (intro hx9; omega))
                      simp only [Act.put, List.setIfInBounds_toArray, List.set_cons_zero, List.set_cons_succ]
                      refine take1 12 120 (.bool true) rfl rfl (by kernel_rfl) (by kernel_rfl) (by kernel_rfl) (by rfl) (fun _ _ _ h => h) hS (fun w' hS' => ?_) ?_
                      · (go_simp) <;> (intro hx9; omega)
                      simp only [Act.put, List.setIfInBounds_toArray, List.set_cons_zero, List.set_cons_succ]
                      refine take1 13 121 (Value.pointer (some ⟨w.heap.size, 4, none⟩)) rfl rfl (by kernel_rfl) (by kernel_rfl) (by kernel_rfl) (by rfl) (fun _ _ _ h => h) hS (fun w' hS' => ?_) ?_
                      · (go_simp) <;> (intro hx9; omega)
                      simp only [Act.put, List.setIfInBounds_toArray, List.set_cons_zero, List.set_cons_succ]
                      refine take1 14 122 (Value.slice (some ⟨b, off, none⟩) ss.length c3) rfl rfl (by kernel_rfl) (by kernel_rfl) (by kernel_rfl) (by rfl) (fun _ _ _ h => h) hS (fun w' hS' => ?_) ?_
                      · obtain ⟨p0, p1, p2, p3, p4, p5⟩ := (CB.out.1.later hS').cells
                        (go_simp) <;> (intro hx9; omega)
                      simp only [Act.put, List.setIfInBounds_toArray, List.set_cons_zero, List.set_cons_succ]
                      refine take1 15 123 (Value.int .i64 j) rfl rfl (by kernel_rfl) (by kernel_rfl) (by kernel_rfl) (by rfl) (fun _ _ _ h => h) hS (fun w' hS' => ?_) ?_
                      · (go_simp) <;> (intro hx9; omega)
                      simp only [Act.put, List.setIfInBounds_toArray, List.set_cons_zero, List.set_cons_succ]
                      refine take1 16 124 (Value.int .i64 ((j : Int) - 1)) rfl rfl (by kernel_rfl) (by kernel_rfl) (by kernel_rfl) (by rfl) (fun _ _ _ h => h) hS (fun w' hS' => ?_) ?_
                      · have h9 : IntKind.i64.wrap ((j : Int) - 1) = (j : Int) - 1 := wrapM (by omega) (by omega)
                        (go_simp) <;> (first | omega | (intro hx9; omega))
                      simp only [Act.put, List.setIfInBounds_toArray, List.set_cons_zero, List.set_cons_succ]
                      refine take1 17 125 (Value.pointer (some ⟨b, off + (j - 1) * 4, none⟩)) rfl rfl (by kernel_rfl) (by kernel_rfl) (by kernel_rfl) (by rfl) (fun _ _ _ h => h) hS (fun w' hS' => ?_) ?_
                      · have h9 : ((j : Int) - 1).toNat = j - 1 := by omega
                        have h8 : (0 : Int) ≤ (j : Int) - 1 := by omega
                        have h7 : (j : Int) - 1 < (ss.length : Int) := by omega
                        (go_simp) <;> (first | omega | (intro hx9; omega))
                      simp only [Act.put, List.setIfInBounds_toArray, List.set_cons_zero, List.set_cons_succ]
                      refine take1 18 126 (Value.pointer (some ⟨b, off + (j - 1) * 4 + 3, none⟩)) rfl rfl (by kernel_rfl) (by kernel_rfl) (by kernel_rfl) (by rfl) (fun _ _ _ h => h) hS (fun w' hS' => ?_) ?_
                      · (go_simp) <;> (intro hx9; omega)
                      simp only [Act.put, List.setIfInBounds_toArray, List.set_cons_zero, List.set_cons_succ]
                      refine take1 19 127 (Value.int .i64 y.n) rfl rfl (by kernel_rfl) (by kernel_rfl) (by kernel_rfl) (by rfl) (fun _ _ _ h => h) hS (fun w' hS' => ?_) ?_
                      · obtain ⟨e0, e1, e2, e3⟩ := celC.at (PV.out.later hS' hl9)
                        (go_simp) <;> (intro hx9; omega)
                      simp only [Act.put, List.setIfInBounds_toArray, List.set_cons_zero, List.set_cons_succ]
                      refine take1 20 128 (Value.pointer (some ⟨w.heap.size, 4, none⟩)) rfl rfl (by kernel_rfl) (by kernel_rfl) (by kernel_rfl) (by rfl) (fun _ _ _ h => h) hS (fun w' hS' => ?_) ?_
                      · (go_simp) <;> (intro hx9; omega)
                      simp only [Act.put, List.setIfInBounds_toArray, List.set_cons_zero, List.set_cons_succ]
                      refine take1 21 129 (Value.slice (some ⟨b, off, none⟩) ss.length c3) rfl rfl (by kernel_rfl) (by kernel_rfl) (by kernel_rfl) (by rfl) (fun _ _ _ h => h) hS (fun w' hS' => ?_) ?_
                      · obtain ⟨p0, p1, p2, p3, p4, p5⟩ := (CB.out.1.later hS').cells
                        (go_simp) <;> (intro hx9; omega)
                      simp only [Act.put, List.setIfInBounds_toArray, List.set_cons_zero, List.set_cons_succ]
                      refine take1 22 130 (Value.int .i64 j) rfl rfl (by kernel_rfl) (by kernel_rfl) (by kernel_rfl) (by rfl) (fun _ _ _ h => h) hS (fun w' hS' => ?_) ?_
                      · (go_simp) <;> (intro hx9; omega)
                      simp only [Act.put, List.setIfInBounds_toArray, List.set_cons_zero, List.set_cons_succ]
                      refine take1 23 131 (Value.pointer (some ⟨b, off + j * 4, none⟩)) rfl rfl (by kernel_rfl) (by kernel_rfl) (by kernel_rfl) (by rfl) (fun _ _ _ h => h) hS (fun w' hS' => ?_) ?_
                      · (go_simp) <;> (intro hx9; omega)
                      simp only [Act.put, List.setIfInBounds_toArray, List.set_cons_zero, List.set_cons_succ]
                      refine take1 24 132 (Value.pointer (some ⟨b, off + j * 4 + 3, none⟩)) rfl rfl (by kernel_rfl) (by kernel_rfl) (by kernel_rfl) (by rfl) (fun _ _ _ h => h) hS (fun w' hS' => ?_) ?_
                      · (go_simp) <;> (intro hx9; omega)
                      simp only [Act.put, List.setIfInBounds_toArray, List.set_cons_zero, List.set_cons_succ]
                      refine take1 25 133 (Value.int .i64 x.n) rfl rfl (by kernel_rfl) (by kernel_rfl) (by kernel_rfl) (by rfl) (fun _ _ _ h => h) hS (fun w' hS' => ?_) ?_
                      · obtain ⟨d0, d1, d2, d3⟩ := celC.at (CB.out.2.1.later hS' hl9)
                        (go_simp) <;> (intro hx9; omega)
                      simp only [Act.put, List.setIfInBounds_toArray, List.set_cons_zero, List.set_cons_succ]
                      refine take1 26 134 (.bool false) rfl rfl (by kernel_rfl) (by kernel_rfl) (by kernel_rfl) (by rfl) (fun _ _ _ h => h) hS (fun w' hS' => ?_) ?_
                      · (go_simp) <;> (first | omega | (intro hx9; omega))
                      simp only [Act.put, List.setIfInBounds_toArray, List.set_cons_zero, List.set_cons_succ]
                      refine take1 27 135 (.bool false) rfl rfl (by kernel_rfl) (by kernel_rfl) (by kernel_rfl) (by rfl) (fun _ _ _ h => h) hS (fun w' hS' => ?_) ?_
                      · (go_simp) <;> (intro hx9; omega)
                      simp only [Act.put, List.setIfInBounds_toArray, List.set_cons_zero, List.set_cons_succ]
                      refine take1 28 136 (.bool false) rfl rfl (by kernel_rfl) (by kernel_rfl) (by kernel_rfl) (by rfl) (fun _ _ _ h => h) hS (fun w' hS' => ?_) ?_
                      · (go_simp) <;> (intro hx9; omega)
                      simp only [Act.put, List.setIfInBounds_toArray, List.set_cons_zero, List.set_cons_succ]
                      refine wpAnyH_done (by kernel_rfl) ?_ _
                      have B9 : Hid (Below w2.heap.size w2 W2) := CB.out.2.2.trans (hS.mono CB.out.2.2.size)
                      clear hS CB PV t0 hj0 hasc
                      go_wp2_with fail
                      go_roundw
                      case rel => exact ⟨j + 1, by omega, by go_num, B9.out, E9.out⟩
                      case measure => simp [intOf]; omega
                    · have E9 : Hid (clientB i n ws cs ss ms = false) := Hid.mk' (by
                        rw [KB.out, E.out.1, hly]
                        simp [hasc])
                      clear E KB hly HCA
                      refine take1 0 108 (Value.pointer (some ⟨w.heap.size, 4, none⟩)) rfl rfl (by kernel_rfl) (by kernel_rfl) (by kernel_rfl) (by rfl) (fun _ _ _ h => h) hS (fun w' hS' => ?_) ?_
                      · (go_simp) <;> (intro hx9; omega)
                      simp only [Act.put, List.setIfInBounds_toArray, List.set_cons_zero, List.set_cons_succ]
                      refine take1 1 109 (Value.slice (some ⟨b, off, none⟩) ss.length c3) rfl rfl (by kernel_rfl) (by kernel_rfl) (by kernel_rfl) (by rfl) (fun _ _ _ h => h) hS (fun w' hS' => ?_) ?_
                      · obtain ⟨p0, p1, p2, p3, p4, p5⟩ := (CB.out.1.later hS').cells
                        (go_simp) <;> (intro hx9; omega)
                      simp only [Act.put, List.setIfInBounds_toArray, List.set_cons_zero, List.set_cons_succ]
                      refine take1 2 110 (Value.int .i64 j) rfl rfl (by kernel_rfl) (by kernel_rfl) (by kernel_rfl) (by rfl) (fun _ _ _ h => h) hS (fun w' hS' => ?_) ?_
                      · (go_simp) <;> (intro hx9; omega)
                      simp only [Act.put, List.setIfInBounds_toArray, List.set_cons_zero, List.set_cons_succ]
                      refine take1 3 111 (Value.pointer (some ⟨b, off + j * 4, none⟩)) rfl rfl (by kernel_rfl) (by kernel_rfl) (by kernel_rfl) (by rfl) (fun _ _ _ h => h) hS (fun w' hS' => ?_) ?_
                      · (go_simp) <;> (intro hx9; omega)
                      simp only [Act.put, List.setIfInBounds_toArray, List.set_cons_zero, List.set_cons_succ]
                      refine take1 4 112 (Value.agg #[.int .i64 x.p, .int .i64 x.k, .int .i64 x.t, .int .i64 x.n]) rfl rfl (by kernel_rfl) (by kernel_rfl) (by kernel_rfl) (by rfl) (fun _ _ _ h => h) hS (fun w' hS' => ?_) ?_
                      · obtain ⟨d0, d1, d2, d3⟩ := celC.at (CB.out.2.1.later hS' hl9)
                        (go_simp) <;> (intro hx9; omega)
                      simp only [Act.put, List.setIfInBounds_toArray, List.set_cons_zero, List.set_cons_succ]
                      refine take1 5 113 (Value.pointer (some ⟨w.heap.size, 1, none⟩)) rfl rfl (by kernel_rfl) (by kernel_rfl) (by kernel_rfl) (by rfl) (fun _ _ _ h => h) hS (fun w' hS' => ?_) ?_
                      · (go_simp) <;> (intro hx9; omega)
                      simp only [Act.put, List.setIfInBounds_toArray, List.set_cons_zero, List.set_cons_succ]
                      refine take1 6 114 (Value.int .i64 n) rfl rfl (by kernel_rfl) (by kernel_rfl) (by kernel_rfl) (by rfl) (fun _ _ _ h => h) hS (fun w' hS' => ?_) ?_
                      · obtain ⟨p0, p1, p2, p3, p4, p5⟩ := (CB.out.1.later hS').cells
                        (go_simp) <;> (intro hx9; omega)
                      simp only [Act.put, List.setIfInBounds_toArray, List.set_cons_zero, List.set_cons_succ]
                      refine wpAnyH_ready (rs := [7]) (by kernel_rfl) (by simp) ?_
                      refine AllReadyH.cons rfl (fun K hK => ?_) AllReadyH.nil
                      go_simp
                      refine (l12Call_any x n _).mono ?_
                      rintro r W2 ⟨rfl, b9⟩
                      have S9 : Below W.heap.size W W2 := hS.trans (b9.mono hS.size)
                      clear b9
                      refine hK.out _ _ S9 (fun hS => ?_)
                      clear hK K S9
                      simp only [t0]
                      refine take1 8 116 (.bool false) rfl rfl (by kernel_rfl) (by kernel_rfl) (by kernel_rfl) (by rfl) (fun _ _ _ h => h) hS (fun w' hS' => ?_) ?_
                      · (go_simp) <;> (intro hx9; omega)
                      simp only [Act.put, List.setIfInBounds_toArray, List.set_cons_zero, List.set_cons_succ]
                      refine take1 9 117 (.bool false) rfl rfl (by kernel_rfl) (by kernel_rfl) (by kernel_rfl) (by rfl) (fun _ _ _ h => h) hS (fun w' hS' => ?_) ?_
                      · (go_simp) <;> (intro hx9; omega)
                      simp only [Act.put, List.setIfInBounds_toArray, List.set_cons_zero, List.set_cons_succ]
                      refine take1 10 118 (Value.int .i64 j) rfl rfl (by kernel_rfl) (by kernel_rfl) (by kernel_rfl) (by rfl) (fun _ _ _ h => h) hS (fun w' hS' => ?_) ?_
                      · (go_simp) <;> (intro hx9; omega)
                      simp only [Act.put, List.setIfInBounds_toArray, List.set_cons_zero, List.set_cons_succ]
                      refine take1 11 119 (.bool true) rfl rfl (by kernel_rfl) (by kernel_rfl) (by kernel_rfl) (by rfl) (fun _ _ _ h => h) hS (fun w' hS' => ?_) ?_
                      · have h9 : (0 : Int) < (j : Int) := by omega
                        (go_simp) <;> (first | omega | (intro hx9; omega))
                      simp only [Act.put, List.setIfInBounds_toArray, List.set_cons_zero, List.set_cons_succ]
                      refine take1 12 120 (.bool true) rfl rfl (by kernel_rfl) (by kernel_rfl) (by kernel_rfl) (by rfl) (fun _ _ _ h => h) hS (fun w' hS' => ?_) ?_
                      · (go_simp) <;> (intro hx9; omega)
                      simp only [Act.put, List.setIfInBounds_toArray, List.set_cons_zero, List.set_cons_succ]
                      refine take1 13 121 (Value.pointer (some ⟨w.heap.size, 4, none⟩)) rfl rfl (by kernel_rfl) (by kernel_rfl) (by kernel_rfl) (by rfl) (fun _ _ _ h => h) hS (fun w' hS' => ?_) ?_
                      · (go_simp) <;> (intro hx9; omega)
                      simp only [Act.put, List.setIfInBounds_toArray, List.set_cons_zero, List.set_cons_succ]
                      refine take1 14 122 (Value.slice (some ⟨b, off, none⟩) ss.length c3) rfl rfl (by kernel_rfl) (by kernel_rfl) (by kernel_rfl) (by rfl) (fun _ _ _ h => h) hS (fun w' hS' => ?_) ?_
                      · obtain ⟨p0, p1, p2, p3, p4, p5⟩ := (CB.out.1.later hS').cells
                        (go_simp) <;> (intro hx9; omega)
                      simp only [Act.put, List.setIfInBounds_toArray, List.set_cons_zero, List.set_cons_succ]
                      refine take1 15 123 (Value.int .i64 j) rfl rfl (by kernel_rfl) (by kernel_rfl) (by kernel_rfl) (by rfl) (fun _ _ _ h => h) hS (fun w' hS' => ?_) ?_
                      · (go_simp) <;> (intro hx9; omega)
                      simp only [Act.put, List.setIfInBounds_toArray, List.set_cons_zero, List.set_cons_succ]
                      refine take1 16 124 (Value.int .i64 ((j : Int) - 1)) rfl rfl (by kernel_rfl) (by kernel_rfl) (by kernel_rfl) (by rfl) (fun _ _ _ h => h) hS (fun w' hS' => ?_) ?_
                      · have h9 : IntKind.i64.wrap ((j : Int) - 1) = (j : Int) - 1 := wrapM (by omega) (by omega)
                        (go_simp) <;> (first | omega | (intro hx9; omega))
                      simp only [Act.put, List.setIfInBounds_toArray, List.set_cons_zero, List.set_cons_succ]
                      refine take1 17 125 (Value.pointer (some ⟨b, off + (j - 1) * 4, none⟩)) rfl rfl (by kernel_rfl) (by kernel_rfl) (by kernel_rfl) (by rfl) (fun _ _ _ h => h) hS (fun w' hS' => ?_) ?_
                      · have h9 : ((j : Int) - 1).toNat = j - 1 := by omega
                        have h8 : (0 : Int) ≤ (j : Int) - 1 := by omega
                        have h7 : (j : Int) - 1 < (ss.length : Int) := by omega
                        (go_simp) <;> (first | omega | (intro hx9; omega))
                      simp only [Act.put, List.setIfInBounds_toArray, List.set_cons_zero, List.set_cons_succ]
                      refine take1 18 126 (Value.pointer (some ⟨b, off + (j - 1) * 4 + 3, none⟩)) rfl rfl (by kernel_rfl) (by kernel_rfl) (by kernel_rfl) (by rfl) (fun _ _ _ h => h) hS (fun w' hS' => ?_) ?_
                      · (go_simp) <;> (intro hx9; omega)
                      simp only [Act.put, List.setIfInBounds_toArray, List.set_cons_zero, List.set_cons_succ]
                      refine take1 19 127 (Value.int .i64 y.n) rfl rfl (by kernel_rfl) (by kernel_rfl) (by kernel_rfl) (by rfl) (fun _ _ _ h => h) hS (fun w' hS' => ?_) ?_
                      · obtain ⟨e0, e1, e2, e3⟩ := celC.at (PV.out.later hS' hl9)
                        (go_simp) <;> (intro hx9; omega)
                      simp only [Act.put, List.setIfInBounds_toArray, List.set_cons_zero, List.set_cons_succ]
                      refine take1 20 128 (Value.pointer (some ⟨w.heap.size, 4, none⟩)) rfl rfl (by kernel_rfl) (by kernel_rfl) (by kernel_rfl) (by rfl) (fun _ _ _ h => h) hS (fun w' hS' => ?_) ?_
                      · (go_simp) <;> (intro hx9; omega)
                      simp only [Act.put, List.setIfInBounds_toArray, List.set_cons_zero, List.set_cons_succ]
                      refine take1 21 129 (Value.slice (some ⟨b, off, none⟩) ss.length c3) rfl rfl (by kernel_rfl) (by kernel_rfl) (by kernel_rfl) (by rfl) (fun _ _ _ h => h) hS (fun w' hS' => ?_) ?_
                      · obtain ⟨p0, p1, p2, p3, p4, p5⟩ := (CB.out.1.later hS').cells
                        (go_simp) <;> (intro hx9; omega)
                      simp only [Act.put, List.setIfInBounds_toArray, List.set_cons_zero, List.set_cons_succ]
                      refine take1 22 130 (Value.int .i64 j) rfl rfl (by kernel_rfl) (by kernel_rfl) (by kernel_rfl) (by rfl) (fun _ _ _ h => h) hS (fun w' hS' => ?_) ?_
                      · (go_simp) <;> (intro hx9; omega)
                      simp only [Act.put, List.setIfInBounds_toArray, List.set_cons_zero, List.set_cons_succ]
                      refine take1 23 131 (Value.pointer (some ⟨b, off + j * 4, none⟩)) rfl rfl (by kernel_rfl) (by kernel_rfl) (by kernel_rfl) (by rfl) (fun _ _ _ h => h) hS (fun w' hS' => ?_) ?_
                      · (go_simp) <;> (intro hx9; omega)
                      simp only [Act.put, List.setIfInBounds_toArray, List.set_cons_zero, List.set_cons_succ]
                      refine take1 24 132 (Value.pointer (some ⟨b, off + j * 4 + 3, none⟩)) rfl rfl (by kernel_rfl) (by kernel_rfl) (by kernel_rfl) (by rfl) (fun _ _ _ h => h) hS (fun w' hS' => ?_) ?_
                      · (go_simp) <;> (intro hx9; omega)
                      simp only [Act.put, List.setIfInBounds_toArray, List.set_cons_zero, List.set_cons_succ]
                      refine take1 25 133 (Value.int .i64 x.n) rfl rfl (by kernel_rfl) (by kernel_rfl) (by kernel_rfl) (by rfl) (fun _ _ _ h => h) hS (fun w' hS' => ?_) ?_
                      · obtain ⟨d0, d1, d2, d3⟩ := celC.at (CB.out.2.1.later hS' hl9)
                        (go_simp) <;> (intro hx9; omega)
                      simp only [Act.put, List.setIfInBounds_toArray, List.set_cons_zero, List.set_cons_succ]
                      refine take1 26 134 (.bool true) rfl rfl (by kernel_rfl) (by kernel_rfl) (by kernel_rfl) (by rfl) (fun _ _ _ h => h) hS (fun w' hS' => ?_) ?_
                      · (go_simp) <;> (first | omega | (intro hx9; omega))
                      simp only [Act.put, List.setIfInBounds_toArray, List.set_cons_zero, List.set_cons_succ]
                      refine take1 27 135 (.bool true) rfl rfl (by kernel_rfl) (by kernel_rfl) (by kernel_rfl) (by rfl) (fun _ _ _ h => h) hS (fun w' hS' => ?_) ?_
                      · (go_simp) <;> (intro hx9; omega)
                      simp only [Act.put, List.setIfInBounds_toArray, List.set_cons_zero, List.set_cons_succ]
                      refine take1 28 136 (.bool true) rfl rfl (by kernel_rfl) (by kernel_rfl) (by kernel_rfl) (by rfl) (fun _ _ _ h => h) hS (fun w' hS' => ?_) ?_
                      · (go_simp) <;> (intro hx9; omega)
                      simp only [Act.put, List.setIfInBounds_toArray, List.set_cons_zero, List.set_cons_succ]
                      refine wpAnyH_done (by kernel_rfl) ?_ _
                      have B9 : Hid (Below w.heap.size w W2) := HB.out.1.trans ((CB.out.2.2.trans (hS.mono CB.out.2.2.size)).mono HB.out.1.size)
                      clear hS CB PV t0 hj0 hasc HB
                      go_wp2_with fail
                      go_ret
                      exact ⟨ret_bool E9.out.symm, B9.out⟩
                · obtain rfl : j = ss.length := by omega
                  as_aux_lemma =>
                    have E1 : Hid (okSs n 0 ss = true) := by
                      have e := C.out.2.1
                      rw [List.drop_length] at e
                      exact e
                    have HB2 : Hid (Below w.heap.size w wr ∧ CBlk wr w.heap.size i n (.slice a1 ws.length c1) (.slice a2 cs.length c2) (.slice a3 ss.length c3) (.slice a4 ms.length c4) ∧ CRows wr a1 a2 a3 a4 ws cs ss ms) := ⟨HB.out.1.trans (C.out.1.mono HB.out.1.size), HB.out.2.1.later C.out.1, HB.out.2.2.later C.out.1⟩
                    obtain ⟨p0, p1, p2, p3, p4, p5⟩ := HB2.out.2.1.cells
                    have KB2 : Hid (clientB i n ws cs ss ms = (okMs ss [] ms)) := Hid.mk' (by rw [KB.out, E1.out]; simp)
                    clear KB E1
                    have KB := KB2
                    clear KB2
                    go_wp2_with fail
                    clear p0 p1 p2 p3 p4 p5
                    clear HB C
                    have HB := HB2
                    clear HB2
                    obtain ⟨w2, hw2⟩ : ∃ u, u = wr := ⟨_, rfl⟩
                    subst hw2
                    go_loopw [8] (fun q wr => ∃ (j : Nat), j ≤ ms.length ∧ q = .int .i64 j ∧ Hid (Below w2.heap.size w2 wr ∧ okMs ss [] ms = okMs ss (ms.take j) (ms.drop j))) (fun q _ => ms.length - (intOf q).toNat)
                    case atStart => exact ⟨0, Nat.zero_le _, rfl, Below.refl _ _, by rw [List.drop_zero, List.take_zero]⟩
                    case round =>
                      obtain ⟨j, hj, rfl, C⟩ := hrel
                      by_cases hlt : j < ms.length
                      · as_aux_lemma =>
                          obtain ⟨x, hs⟩ : ∃ x, ms[j]? = some x := ⟨ms[j], List.getElem?_eq_getElem hlt⟩
                          have HR := (HB.out.2.2.later C.out.1).w4
                          have HT0 : Hid (NRow celC wr a4 (ms.take j)) := HR.take j
                          rcases HR with HR | ⟨b, off, rfl, hl, HR⟩
                          · simp [HR] at hlt
                          have HT : Hid (NRow celC wr (some ⟨b, off, none⟩) (ms.take j)) := HT0
                          clear HT0
                          have E : Hid (okMs ss [] ms = (inC x ss && !inC x (ms.take j) && okMs ss (ms.take (j + 1)) (ms.drop (j + 1)))) := by
                            have e := C.out.2
                            rw [drop_at hs] at e
                            rw [take_at hs]
                            exact e
                          have HC2 : Hid (∀ u : World, NRow celC u (some ⟨b, off, none⟩) (ms.take j) → Calls Try.prog 52 #[.slice (some ⟨b, off, none⟩) j c4, Value.agg #[.int .i64 x.p, .int .i64 x.k, .int .i64 x.t, .int .i64 x.n]] u fun r w' => r = .returned (.bool (inC x (ms.take j))) ∧ Below u.heap.size u w') := by
                            intro u hu
                            have e := called_any (some ⟨b, off, none⟩) c4 (ms.take j) x u hu (by simp; omega)
                            rw [show (ms.take j).length = j from by simp; omega] at e
                            exact e
                          have CB : Hid (CBlk wr w.heap.size i n (.slice a1 ws.length c1) (.slice a2 cs.length c2) (.slice a3 ss.length c3) (.slice (some ⟨b, off, none⟩) ms.length c4) ∧ NumsAt wr b (off + j * 4) (celC.cs x) ∧ Below w2.heap.size w2 wr ∧ NRow celC wr a3 ss) := ⟨HB.out.2.1.later C.out.1, HR j x hs, C.out.1, (HB.out.2.2.later C.out.1).w3⟩
                          have hl9 : b < wr.heap.size := hl
                          obtain ⟨p0, p1, p2, p3, p4, p5⟩ := CB.out.1.cells
                          clear HR hs C hl
                          go_wp2_with fail
                          clear p0 p1 p2 p3 p4 p5
                          obtain ⟨W, hW⟩ : ∃ W, W = wr := ⟨_, rfl⟩
                          subst hW
                          refine wp_region_held_drew (S := fun w' => Below W.heap.size W w') (by kernel_rfl) (Below.refl _ _).drew (fun hS => ?_)
                          generalize W.drew = W1 at hS ⊢
                          cases HI : inC x ss
                          · have E9 : Hid (clientB i n ws cs ss ms = false) := Hid.mk' (by rw [KB.out, E.out]; simp [HI])
                            clear E KB
                            refine take1 0 144 (Value.pointer (some ⟨w.heap.size, 4, none⟩)) rfl rfl (by kernel_rfl) (by kernel_rfl) (by kernel_rfl) (by rfl) (fun _ _ _ h => h) hS (fun w' hS' => ?_) ?_
                            · (go_simp) <;> (intro hx9; omega)
                            simp only [Act.put, List.setIfInBounds_toArray, List.set_cons_zero, List.set_cons_succ]
                            refine take1 1 145 (Value.slice a3 ss.length c3) rfl rfl (by kernel_rfl) (by kernel_rfl) (by kernel_rfl) (by rfl) (fun _ _ _ h => h) hS (fun w' hS' => ?_) ?_
                            · obtain ⟨p0, p1, p2, p3, p4, p5⟩ := (CB.out.1.later hS').cells
                              (go_simp) <;> (intro hx9; omega)
                            simp only [Act.put, List.setIfInBounds_toArray, List.set_cons_zero, List.set_cons_succ]
                            refine take1 2 146 (Value.pointer (some ⟨w.heap.size, 5, none⟩)) rfl rfl (by kernel_rfl) (by kernel_rfl) (by kernel_rfl) (by rfl) (fun _ _ _ h => h) hS (fun w' hS' => ?_) ?_
                            · (go_simp) <;> (intro hx9; omega)
                            simp only [Act.put, List.setIfInBounds_toArray, List.set_cons_zero, List.set_cons_succ]
                            refine take1 3 147 (Value.slice (some ⟨b, off, none⟩) ms.length c4) rfl rfl (by kernel_rfl) (by kernel_rfl) (by kernel_rfl) (by rfl) (fun _ _ _ h => h) hS (fun w' hS' => ?_) ?_
                            · obtain ⟨p0, p1, p2, p3, p4, p5⟩ := (CB.out.1.later hS').cells
                              (go_simp) <;> (intro hx9; omega)
                            simp only [Act.put, List.setIfInBounds_toArray, List.set_cons_zero, List.set_cons_succ]
                            refine take1 4 148 (Value.int .i64 j) rfl rfl (by kernel_rfl) (by kernel_rfl) (by kernel_rfl) (by rfl) (fun _ _ _ h => h) hS (fun w' hS' => ?_) ?_
                            · (go_simp) <;> (intro hx9; omega)
                            simp only [Act.put, List.setIfInBounds_toArray, List.set_cons_zero, List.set_cons_succ]
                            refine take1 5 149 (Value.pointer (some ⟨b, off + j * 4, none⟩)) rfl rfl (by kernel_rfl) (by kernel_rfl) (by kernel_rfl) (by rfl) (fun _ _ _ h => h) hS (fun w' hS' => ?_) ?_
                            · (go_simp) <;> (intro hx9; omega)
                            simp only [Act.put, List.setIfInBounds_toArray, List.set_cons_zero, List.set_cons_succ]
                            refine take1 6 150 (Value.agg #[.int .i64 x.p, .int .i64 x.k, .int .i64 x.t, .int .i64 x.n]) rfl rfl (by kernel_rfl) (by kernel_rfl) (by kernel_rfl) (by rfl) (fun _ _ _ h => h) hS (fun w' hS' => ?_) ?_
                            · obtain ⟨d0, d1, d2, d3⟩ := celC.at (CB.out.2.1.later hS' hl9)
                              (go_simp) <;> (intro hx9; omega)
                            simp only [Act.put, List.setIfInBounds_toArray, List.set_cons_zero, List.set_cons_succ]
                            refine wpAnyH_ready (rs := [7]) (by kernel_rfl) (by simp) ?_
                            refine AllReadyH.cons rfl (fun K hK => ?_) AllReadyH.nil
                            go_simp
                            refine (called_any a3 c3 ss x _ (CB.out.2.2.2.later hS) (by omega)).mono ?_
                            rintro r W2 ⟨rfl, b9⟩
                            have S9 : Below W.heap.size W W2 := hS.trans (b9.mono hS.size)
                            clear b9
                            refine hK.out _ _ S9 (fun hS => ?_)
                            clear hK K S9
                            simp only [HI]
                            refine take1 8 152 (.bool true) rfl rfl (by kernel_rfl) (by kernel_rfl) (by kernel_rfl) (by rfl) (fun _ _ _ h => h) hS (fun w' hS' => ?_) ?_
                            · (go_simp) <;> (intro hx9; omega)
                            simp only [Act.put, List.setIfInBounds_toArray, List.set_cons_zero, List.set_cons_succ]
                            refine take1 9 153 (.bool true) rfl rfl (by kernel_rfl) (by kernel_rfl) (by kernel_rfl) (by rfl) (fun _ _ _ h => h) hS (fun w' hS' => ?_) ?_
                            · (go_simp) <;> (intro hx9; omega)
                            simp only [Act.put, List.setIfInBounds_toArray, List.set_cons_zero, List.set_cons_succ]
                            refine skip1 10 154 rfl rfl (by kernel_rfl) (by kernel_rfl) (by kernel_rfl) (by rfl) (fun _ _ _ h => h) hS ?_
                            simp only [Act.put, List.setIfInBounds_toArray, List.set_cons_zero, List.set_cons_succ]
                            refine skip1 11 155 rfl rfl (by kernel_rfl) (by kernel_rfl) (by kernel_rfl) (by rfl) (fun _ _ _ h => h) hS ?_
                            simp only [Act.put, List.setIfInBounds_toArray, List.set_cons_zero, List.set_cons_succ]
                            refine skip1 12 156 rfl rfl (by kernel_rfl) (by kernel_rfl) (by kernel_rfl) (by rfl) (fun _ _ _ h => h) hS ?_
                            simp only [Act.put, List.setIfInBounds_toArray, List.set_cons_zero, List.set_cons_succ]
                            refine skip1 13 157 rfl rfl (by kernel_rfl) (by kernel_rfl) (by kernel_rfl) (by rfl) (fun _ _ _ h => h) hS ?_
                            simp only [Act.put, List.setIfInBounds_toArray, List.set_cons_zero, List.set_cons_succ]
                            refine skip1 14 158 rfl rfl (by kernel_rfl) (by kernel_rfl) (by kernel_rfl) (by rfl) (fun _ _ _ h => h) hS ?_
                            simp only [Act.put, List.setIfInBounds_toArray, List.set_cons_zero, List.set_cons_succ]
                            refine skip1 15 159 rfl rfl (by kernel_rfl) (by kernel_rfl) (by kernel_rfl) (by rfl) (fun _ _ _ h => h) hS ?_
                            simp only [Act.put, List.setIfInBounds_toArray, List.set_cons_zero, List.set_cons_succ]
                            refine skip1 16 160 rfl rfl (by kernel_rfl) (by kernel_rfl) (by kernel_rfl) (by rfl) (fun _ _ _ h => h) hS ?_
                            simp only [Act.put, List.setIfInBounds_toArray, List.set_cons_zero, List.set_cons_succ]
                            refine skip1 17 161 rfl rfl (by kernel_rfl) (by kernel_rfl) (by kernel_rfl) (by rfl) (fun _ _ _ h => h) hS ?_
                            simp only [Act.put, List.setIfInBounds_toArray, List.set_cons_zero, List.set_cons_succ]
                            refine skip1 18 162 rfl rfl (by kernel_rfl) (by kernel_rfl) (by kernel_rfl) (by rfl) (fun _ _ _ h => h) hS ?_
                            simp only [Act.put, List.setIfInBounds_toArray, List.set_cons_zero, List.set_cons_succ]
                            refine skip1 19 163 rfl rfl (by kernel_rfl) (by kernel_rfl) (by kernel_rfl) (by rfl) (fun _ _ _ h => h) hS ?_
                            simp only [Act.put, List.setIfInBounds_toArray, List.set_cons_zero, List.set_cons_succ]
                            refine take1 20 164 (.bool true) rfl rfl (by kernel_rfl) (by kernel_rfl) (by kernel_rfl) (by rfl) (fun _ _ _ h => h) hS (fun w' hS' => ?_) ?_
                            · (go_simp) <;> (intro hx9; omega)
                            simp only [Act.put, List.setIfInBounds_toArray, List.set_cons_zero, List.set_cons_succ]
                            refine wpAnyH_done (by kernel_rfl) ?_ _
                            have B9 : Hid (Below w.heap.size w W2) := HB.out.1.trans ((CB.out.2.2.1.trans (hS.mono CB.out.2.2.1.size)).mono HB.out.1.size)
                            clear hS CB HI HB HC2 HT
                            go_wp2_with fail
                            go_ret
                            exact ⟨ret_bool E9.out.symm, B9.out⟩
                          cases HI2 : inC x (ms.take j)
                          · have E9 : Hid (okMs ss [] ms = okMs ss (ms.take (j + 1)) (ms.drop (j + 1))) := Hid.mk' (by rw [E.out]; simp [HI, HI2])
                            clear E
                            refine take1 0 144 (Value.pointer (some ⟨w.heap.size, 4, none⟩)) rfl rfl (by kernel_rfl) (by kernel_rfl) (by kernel_rfl) (by rfl) (fun _ _ _ h => h) hS (fun w' hS' => ?_) ?_
                            · (go_simp) <;> (intro hx9; omega)
                            simp only [Act.put, List.setIfInBounds_toArray, List.set_cons_zero, List.set_cons_succ]
                            refine take1 1 145 (Value.slice a3 ss.length c3) rfl rfl (by kernel_rfl) (by kernel_rfl) (by kernel_rfl) (by rfl) (fun _ _ _ h => h) hS (fun w' hS' => ?_) ?_
                            · obtain ⟨p0, p1, p2, p3, p4, p5⟩ := (CB.out.1.later hS').cells
                              (go_simp) <;> (intro hx9; omega)
                            simp only [Act.put, List.setIfInBounds_toArray, List.set_cons_zero, List.set_cons_succ]
                            refine take1 2 146 (Value.pointer (some ⟨w.heap.size, 5, none⟩)) rfl rfl (by kernel_rfl) (by kernel_rfl) (by kernel_rfl) (by rfl) (fun _ _ _ h => h) hS (fun w' hS' => ?_) ?_
                            · (go_simp) <;> (intro hx9; omega)
                            simp only [Act.put, List.setIfInBounds_toArray, List.set_cons_zero, List.set_cons_succ]
                            refine take1 3 147 (Value.slice (some ⟨b, off, none⟩) ms.length c4) rfl rfl (by kernel_rfl) (by kernel_rfl) (by kernel_rfl) (by rfl) (fun _ _ _ h => h) hS (fun w' hS' => ?_) ?_
                            · obtain ⟨p0, p1, p2, p3, p4, p5⟩ := (CB.out.1.later hS').cells
                              (go_simp) <;> (intro hx9; omega)
                            simp only [Act.put, List.setIfInBounds_toArray, List.set_cons_zero, List.set_cons_succ]
                            refine take1 4 148 (Value.int .i64 j) rfl rfl (by kernel_rfl) (by kernel_rfl) (by kernel_rfl) (by rfl) (fun _ _ _ h => h) hS (fun w' hS' => ?_) ?_
                            · (go_simp) <;> (intro hx9; omega)
                            simp only [Act.put, List.setIfInBounds_toArray, List.set_cons_zero, List.set_cons_succ]
                            refine take1 5 149 (Value.pointer (some ⟨b, off + j * 4, none⟩)) rfl rfl (by kernel_rfl) (by kernel_rfl) (by kernel_rfl) (by rfl) (fun _ _ _ h => h) hS (fun w' hS' => ?_) ?_
                            · (go_simp) <;> (intro hx9; omega)
                            simp only [Act.put, List.setIfInBounds_toArray, List.set_cons_zero, List.set_cons_succ]
                            refine take1 6 150 (Value.agg #[.int .i64 x.p, .int .i64 x.k, .int .i64 x.t, .int .i64 x.n]) rfl rfl (by kernel_rfl) (by kernel_rfl) (by kernel_rfl) (by rfl) (fun _ _ _ h => h) hS (fun w' hS' => ?_) ?_
                            · obtain ⟨d0, d1, d2, d3⟩ := celC.at (CB.out.2.1.later hS' hl9)
                              (go_simp) <;> (intro hx9; omega)
                            simp only [Act.put, List.setIfInBounds_toArray, List.set_cons_zero, List.set_cons_succ]
                            refine wpAnyH_ready (rs := [7]) (by kernel_rfl) (by simp) ?_
                            refine AllReadyH.cons rfl (fun K hK => ?_) AllReadyH.nil
                            go_simp
                            refine (called_any a3 c3 ss x _ (CB.out.2.2.2.later hS) (by omega)).mono ?_
                            rintro r W2 ⟨rfl, b9⟩
                            have S9 : Below W.heap.size W W2 := hS.trans (b9.mono hS.size)
                            clear b9
                            refine hK.out _ _ S9 (fun hS => ?_)
                            clear hK K S9
                            simp only [HI]
                            refine take1 8 152 (.bool false) rfl rfl (by kernel_rfl) (by kernel_rfl) (by kernel_rfl) (by rfl) (fun _ _ _ h => h) hS (fun w' hS' => ?_) ?_
                            · (go_simp) <;> (intro hx9; omega)
                            simp only [Act.put, List.setIfInBounds_toArray, List.set_cons_zero, List.set_cons_succ]
                            refine take1 9 153 (.bool false) rfl rfl (by kernel_rfl) (by kernel_rfl) (by kernel_rfl) (by rfl) (fun _ _ _ h => h) hS (fun w' hS' => ?_) ?_
                            · (go_simp) <;> (intro hx9; omega)
                            simp only [Act.put, List.setIfInBounds_toArray, List.set_cons_zero, List.set_cons_succ]
                            refine take1 10 154 (Value.pointer (some ⟨w.heap.size, 5, none⟩)) rfl rfl (by kernel_rfl) (by kernel_rfl) (by kernel_rfl) (by rfl) (fun _ _ _ h => h) hS (fun w' hS' => ?_) ?_
                            · (go_simp) <;> (intro hx9; omega)
                            simp only [Act.put, List.setIfInBounds_toArray, List.set_cons_zero, List.set_cons_succ]
                            refine take1 11 155 (Value.slice (some ⟨b, off, none⟩) ms.length c4) rfl rfl (by kernel_rfl) (by kernel_rfl) (by kernel_rfl) (by rfl) (fun _ _ _ h => h) hS (fun w' hS' => ?_) ?_
                            · obtain ⟨p0, p1, p2, p3, p4, p5⟩ := (CB.out.1.later hS').cells
                              (go_simp) <;> (intro hx9; omega)
                            simp only [Act.put, List.setIfInBounds_toArray, List.set_cons_zero, List.set_cons_succ]
                            refine take1 12 156 (Value.int .i64 j) rfl rfl (by kernel_rfl) (by kernel_rfl) (by kernel_rfl) (by rfl) (fun _ _ _ h => h) hS (fun w' hS' => ?_) ?_
                            · (go_simp) <;> (intro hx9; omega)
                            simp only [Act.put, List.setIfInBounds_toArray, List.set_cons_zero, List.set_cons_succ]
                            refine take1 13 157 (Value.slice (some ⟨b, off, none⟩) j c4) rfl rfl (by kernel_rfl) (by kernel_rfl) (by kernel_rfl) (by rfl) (fun _ _ _ h => h) hS (fun w' hS' => ?_) ?_
                            · (go_simp) <;> (intro hx9; omega)
                            simp only [Act.put, List.setIfInBounds_toArray, List.set_cons_zero, List.set_cons_succ]
                            refine take1 14 158 (Value.pointer (some ⟨w.heap.size, 5, none⟩)) rfl rfl (by kernel_rfl) (by kernel_rfl) (by kernel_rfl) (by rfl) (fun _ _ _ h => h) hS (fun w' hS' => ?_) ?_
                            · (go_simp) <;> (intro hx9; omega)
                            simp only [Act.put, List.setIfInBounds_toArray, List.set_cons_zero, List.set_cons_succ]
                            refine take1 15 159 (Value.slice (some ⟨b, off, none⟩) ms.length c4) rfl rfl (by kernel_rfl) (by kernel_rfl) (by kernel_rfl) (by rfl) (fun _ _ _ h => h) hS (fun w' hS' => ?_) ?_
                            · obtain ⟨p0, p1, p2, p3, p4, p5⟩ := (CB.out.1.later hS').cells
                              (go_simp) <;> (intro hx9; omega)
                            simp only [Act.put, List.setIfInBounds_toArray, List.set_cons_zero, List.set_cons_succ]
                            refine take1 16 160 (Value.int .i64 j) rfl rfl (by kernel_rfl) (by kernel_rfl) (by kernel_rfl) (by rfl) (fun _ _ _ h => h) hS (fun w' hS' => ?_) ?_
                            · (go_simp) <;> (intro hx9; omega)
                            simp only [Act.put, List.setIfInBounds_toArray, List.set_cons_zero, List.set_cons_succ]
                            refine take1 17 161 (Value.pointer (some ⟨b, off + j * 4, none⟩)) rfl rfl (by kernel_rfl) (by kernel_rfl) (by kernel_rfl) (by rfl) (fun _ _ _ h => h) hS (fun w' hS' => ?_) ?_
                            · (go_simp) <;> (intro hx9; omega)
                            simp only [Act.put, List.setIfInBounds_toArray, List.set_cons_zero, List.set_cons_succ]
                            refine take1 18 162 (Value.agg #[.int .i64 x.p, .int .i64 x.k, .int .i64 x.t, .int .i64 x.n]) rfl rfl (by kernel_rfl) (by kernel_rfl) (by kernel_rfl) (by rfl) (fun _ _ _ h => h) hS (fun w' hS' => ?_) ?_
                            · obtain ⟨d0, d1, d2, d3⟩ := celC.at (CB.out.2.1.later hS' hl9)
                              (go_simp) <;> (intro hx9; omega)
                            simp only [Act.put, List.setIfInBounds_toArray, List.set_cons_zero, List.set_cons_succ]
                            refine wpAnyH_ready (rs := [19]) (by kernel_rfl) (by simp) ?_
                            refine AllReadyH.cons rfl (fun K hK => ?_) AllReadyH.nil
                            go_simp
                            refine (HC2.out W2 (HT.out.later hS)).mono ?_
                            rintro r W3 ⟨rfl, b9⟩
                            have S9 : Below W.heap.size W W3 := hS.trans (b9.mono hS.size)
                            clear b9
                            refine hK.out _ _ S9 (fun hS => ?_)
                            clear hK K S9
                            simp only [HI2]
                            refine take1 20 164 (.bool false) rfl rfl (by kernel_rfl) (by kernel_rfl) (by kernel_rfl) (by rfl) (fun _ _ _ h => h) hS (fun w' hS' => ?_) ?_
                            · (go_simp) <;> (intro hx9; omega)
                            simp only [Act.put, List.setIfInBounds_toArray, List.set_cons_zero, List.set_cons_succ]
                            refine wpAnyH_done (by kernel_rfl) ?_ _
                            have B9 : Hid (Below w2.heap.size w2 W3) := CB.out.2.2.1.trans (hS.mono CB.out.2.2.1.size)
                            clear hS CB HI HI2 HC2 HT
                            go_wp2_with fail
                            go_roundw
                            case rel => exact ⟨j + 1, by omega, by go_num, B9.out, E9.out⟩
                            case measure => simp [intOf]; omega
                          · have E9 : Hid (clientB i n ws cs ss ms = false) := Hid.mk' (by rw [KB.out, E.out]; simp [HI, HI2])
                            clear E KB
                            refine take1 0 144 (Value.pointer (some ⟨w.heap.size, 4, none⟩)) rfl rfl (by kernel_rfl) (by kernel_rfl) (by kernel_rfl) (by rfl) (fun _ _ _ h => h) hS (fun w' hS' => ?_) ?_
                            · (go_simp) <;> (intro hx9; omega)
                            simp only [Act.put, List.setIfInBounds_toArray, List.set_cons_zero, List.set_cons_succ]
                            refine take1 1 145 (Value.slice a3 ss.length c3) rfl rfl (by kernel_rfl) (by kernel_rfl) (by kernel_rfl) (by rfl) (fun _ _ _ h => h) hS (fun w' hS' => ?_) ?_
                            · obtain ⟨p0, p1, p2, p3, p4, p5⟩ := (CB.out.1.later hS').cells
                              (go_simp) <;> (intro hx9; omega)
                            simp only [Act.put, List.setIfInBounds_toArray, List.set_cons_zero, List.set_cons_succ]
                            refine take1 2 146 (Value.pointer (some ⟨w.heap.size, 5, none⟩)) rfl rfl (by kernel_rfl) (by kernel_rfl) (by kernel_rfl) (by rfl) (fun _ _ _ h => h) hS (fun w' hS' => ?_) ?_
                            · (go_simp) <;> (intro hx9; omega)
                            simp only [Act.put, List.setIfInBounds_toArray, List.set_cons_zero, List.set_cons_succ]
                            refine take1 3 147 (Value.slice (some ⟨b, off, none⟩) ms.length c4) rfl rfl (by kernel_rfl) (by kernel_rfl) (by kernel_rfl) (by rfl) (fun _ _ _ h => h) hS (fun w' hS' => ?_) ?_
                            · obtain ⟨p0, p1, p2, p3, p4, p5⟩ := (CB.out.1.later hS').cells
                              (go_simp) <;> (intro hx9; omega)
                            simp only [Act.put, List.setIfInBounds_toArray, List.set_cons_zero, List.set_cons_succ]
                            refine take1 4 148 (Value.int .i64 j) rfl rfl (by kernel_rfl) (by kernel_rfl) (by kernel_rfl) (by rfl) (fun _ _ _ h => h) hS (fun w' hS' => ?_) ?_
                            · (go_simp) <;> (intro hx9; omega)
                            simp only [Act.put, List.setIfInBounds_toArray, List.set_cons_zero, List.set_cons_succ]
                            refine take1 5 149 (Value.pointer (some ⟨b, off + j * 4, none⟩)) rfl rfl (by kernel_rfl) (by kernel_rfl) (by kernel_rfl) (by rfl) (fun _ _ _ h => h) hS (fun w' hS' => ?_) ?_
                            · (go_simp) <;> (intro hx9; omega)
                            simp only [Act.put, List.setIfInBounds_toArray, List.set_cons_zero, List.set_cons_succ]
                            refine take1 6 150 (Value.agg #[.int .i64 x.p, .int .i64 x.k, .int .i64 x.t, .int .i64 x.n]) rfl rfl (by kernel_rfl) (by kernel_rfl) (by kernel_rfl) (by rfl) (fun _ _ _ h => h) hS (fun w' hS' => ?_) ?_
                            · obtain ⟨d0, d1, d2, d3⟩ := celC.at (CB.out.2.1.later hS' hl9)
                              (go_simp) <;> (intro hx9; omega)
                            simp only [Act.put, List.setIfInBounds_toArray, List.set_cons_zero, List.set_cons_succ]
                            refine wpAnyH_ready (rs := [7]) (by kernel_rfl) (by simp) ?_
                            refine AllReadyH.cons rfl (fun K hK => ?_) AllReadyH.nil
                            go_simp
                            refine (called_any a3 c3 ss x _ (CB.out.2.2.2.later hS) (by omega)).mono ?_
                            rintro r W2 ⟨rfl, b9⟩
                            have S9 : Below W.heap.size W W2 := hS.trans (b9.mono hS.size)
                            clear b9
                            refine hK.out _ _ S9 (fun hS => ?_)
                            clear hK K S9
                            simp only [HI]
                            refine take1 8 152 (.bool false) rfl rfl (by kernel_rfl) (by kernel_rfl) (by kernel_rfl) (by rfl) (fun _ _ _ h => h) hS (fun w' hS' => ?_) ?_
                            · (go_simp) <;> (intro hx9; omega)
                            simp only [Act.put, List.setIfInBounds_toArray, List.set_cons_zero, List.set_cons_succ]
                            refine take1 9 153 (.bool false) rfl rfl (by kernel_rfl) (by kernel_rfl) (by kernel_rfl) (by rfl) (fun _ _ _ h => h) hS (fun w' hS' => ?_) ?_
                            · (go_simp) <;> (intro hx9; omega)
                            simp only [Act.put, List.setIfInBounds_toArray, List.set_cons_zero, List.set_cons_succ]
                            refine take1 10 154 (Value.pointer (some ⟨w.heap.size, 5, none⟩)) rfl rfl (by kernel_rfl) (by kernel_rfl) (by kernel_rfl) (by rfl) (fun _ _ _ h => h) hS (fun w' hS' => ?_) ?_
                            · (go_simp) <;> (intro hx9; omega)
                            simp only [Act.put, List.setIfInBounds_toArray, List.set_cons_zero, List.set_cons_succ]
                            refine take1 11 155 (Value.slice (some ⟨b, off, none⟩) ms.length c4) rfl rfl (by kernel_rfl) (by kernel_rfl) (by kernel_rfl) (by rfl) (fun _ _ _ h => h) hS (fun w' hS' => ?_) ?_
                            · obtain ⟨p0, p1, p2, p3, p4, p5⟩ := (CB.out.1.later hS').cells
                              (go_simp) <;> (intro hx9; omega)
                            simp only [Act.put, List.setIfInBounds_toArray, List.set_cons_zero, List.set_cons_succ]
                            refine take1 12 156 (Value.int .i64 j) rfl rfl (by kernel_rfl) (by kernel_rfl) (by kernel_rfl) (by rfl) (fun _ _ _ h => h) hS (fun w' hS' => ?_) ?_
                            · (go_simp) <;> (intro hx9; omega)
                            simp only [Act.put, List.setIfInBounds_toArray, List.set_cons_zero, List.set_cons_succ]
                            refine take1 13 157 (Value.slice (some ⟨b, off, none⟩) j c4) rfl rfl (by kernel_rfl) (by kernel_rfl) (by kernel_rfl) (by rfl) (fun _ _ _ h => h) hS (fun w' hS' => ?_) ?_
                            · (go_simp) <;> (intro hx9; omega)
                            simp only [Act.put, List.setIfInBounds_toArray, List.set_cons_zero, List.set_cons_succ]
                            refine take1 14 158 (Value.pointer (some ⟨w.heap.size, 5, none⟩)) rfl rfl (by kernel_rfl) (by kernel_rfl) (by kernel_rfl) (by rfl) (fun _ _ _ h => h) hS (fun w' hS' => ?_) ?_
                            · (go_simp) <;> (intro hx9; omega)
                            simp only [Act.put, List.setIfInBounds_toArray, List.set_cons_zero, List.set_cons_succ]
                            refine take1 15 159 (Value.slice (some ⟨b, off, none⟩) ms.length c4) rfl rfl (by kernel_rfl) (by kernel_rfl) (by kernel_rfl) (by rfl) (fun _ _ _ h => h) hS (fun w' hS' => ?_) ?_
                            · obtain ⟨p0, p1, p2, p3, p4, p5⟩ := (CB.out.1.later hS').cells
                              (go_simp) <;> (intro hx9; omega)
                            simp only [Act.put, List.setIfInBounds_toArray, List.set_cons_zero, List.set_cons_succ]
                            refine take1 16 160 (Value.int .i64 j) rfl rfl (by kernel_rfl) (by kernel_rfl) (by kernel_rfl) (by rfl) (fun _ _ _ h => h) hS (fun w' hS' => ?_) ?_
                            · (go_simp) <;> (intro hx9; omega)
                            simp only [Act.put, List.setIfInBounds_toArray, List.set_cons_zero, List.set_cons_succ]
                            refine take1 17 161 (Value.pointer (some ⟨b, off + j * 4, none⟩)) rfl rfl (by kernel_rfl) (by kernel_rfl) (by kernel_rfl) (by rfl) (fun _ _ _ h => h) hS (fun w' hS' => ?_) ?_
                            · (go_simp) <;> (intro hx9; omega)
                            simp only [Act.put, List.setIfInBounds_toArray, List.set_cons_zero, List.set_cons_succ]
                            refine take1 18 162 (Value.agg #[.int .i64 x.p, .int .i64 x.k, .int .i64 x.t, .int .i64 x.n]) rfl rfl (by kernel_rfl) (by kernel_rfl) (by kernel_rfl) (by rfl) (fun _ _ _ h => h) hS (fun w' hS' => ?_) ?_
                            · obtain ⟨d0, d1, d2, d3⟩ := celC.at (CB.out.2.1.later hS' hl9)
                              (go_simp) <;> (intro hx9; omega)
                            simp only [Act.put, List.setIfInBounds_toArray, List.set_cons_zero, List.set_cons_succ]
                            refine wpAnyH_ready (rs := [19]) (by kernel_rfl) (by simp) ?_
                            refine AllReadyH.cons rfl (fun K hK => ?_) AllReadyH.nil
                            go_simp
                            refine (HC2.out W2 (HT.out.later hS)).mono ?_
                            rintro r W3 ⟨rfl, b9⟩
                            have S9 : Below W.heap.size W W3 := hS.trans (b9.mono hS.size)
                            clear b9
                            refine hK.out _ _ S9 (fun hS => ?_)
                            clear hK K S9
                            simp only [HI2]
                            refine take1 20 164 (.bool true) rfl rfl (by kernel_rfl) (by kernel_rfl) (by kernel_rfl) (by rfl) (fun _ _ _ h => h) hS (fun w' hS' => ?_) ?_
                            · (go_simp) <;> (intro hx9; omega)
                            simp only [Act.put, List.setIfInBounds_toArray, List.set_cons_zero, List.set_cons_succ]
                            refine wpAnyH_done (by kernel_rfl) ?_ _
                            have B9 : Hid (Below w.heap.size w W3) := HB.out.1.trans ((CB.out.2.2.1.trans (hS.mono CB.out.2.2.1.size)).mono HB.out.1.size)
                            clear hS CB HI HI2 HB HC2 HT
                            go_wp2_with fail
                            go_ret
                            exact ⟨ret_bool E9.out.symm, B9.out⟩
                      · obtain rfl : j = ms.length := by omega
                        as_aux_lemma =>
                          have E1 : Hid (okMs ss [] ms = true) := by
                            have e := C.out.2
                            rw [List.drop_length] at e
                            exact e
                          have HB2 : Hid (Below w.heap.size w wr ∧ CBlk wr w.heap.size i n (.slice a1 ws.length c1) (.slice a2 cs.length c2) (.slice a3 ss.length c3) (.slice a4 ms.length c4) ∧ CRows wr a1 a2 a3 a4 ws cs ss ms) := ⟨HB.out.1.trans (C.out.1.mono HB.out.1.size), HB.out.2.1.later C.out.1, HB.out.2.2.later C.out.1⟩
                          obtain ⟨p0, p1, p2, p3, p4, p5⟩ := HB2.out.2.1.cells
                          have E9 : Hid (clientB i n ws cs ss ms = true) := Hid.mk' (by rw [KB.out, E1.out])
                          clear KB E1 C HB
                          go_wp2_with fail
                          go_ret
                          exact ⟨ret_bool E9.out.symm, HB2.out.1⟩

end Go.Proofs.Ythkngdbhddedpaa
