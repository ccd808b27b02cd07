/-
  The law on what is full, walked.
-/
import Derived.Test.YtnaoopkahcadmaaCacheHead
namespace Go.Proofs.Ytnaoopkahcadmaa
open Go.RowKit
attribute [local go_sem ↓] Go.wp_at_zero Go.wp_at_succ

set_option maxHeartbeats 8000000 in
set_option maxRecDepth 100000 in
theorem cacheFull_short (a : Option Addr) (n c : Nat) (w : World) (g : (n : Int) ≤ 1048576) (h : Code w a n c) :
    Calls Try.prog 8 #[.slice a n c] w fun r w' => r = .returned (.bool true) ∧ Below w.heap.size w w' := by
  go_enter Try.func8, Try.ntmps8
  go_wp2_with fail
  refine (drawCache_any a n c _ h).mono ?_
  rintro r w1 ⟨a1, c1, xs, s, now, rfl, D⟩
  have H1 : Hid (SBlk (w1.alloc (.cells #[.int .i64 s.k, .int .i64 s.t, .int .i64 s.a, .int .i64 s.b, .int .i64 s.c, .int .i64 s.d, .int .i64 s.e] 25)) w1.heap.size s ∧ SRow (w1.alloc (.cells #[.int .i64 s.k, .int .i64 s.t, .int .i64 s.a, .int .i64 s.b, .int .i64 s.c, .int .i64 s.d, .int .i64 s.e] 25)) a1 xs ∧ Below w.heap.size w (w1.alloc (.cells #[.int .i64 s.k, .int .i64 s.t, .int .i64 s.a, .int .i64 s.b, .int .i64 s.c, .int .i64 s.d, .int .i64 s.e] 25))) := ⟨SBlk.new _ _, D.row.later (Below.alloc_ _ _), D.below.alloc D.below.size _⟩
  have hxl := D.len
  have hxc := D.cap
  have hcl := cwL_short now xs s
  clear D h
  go_wp2_with fail
  refine (specWith_any a1 c1 xs s now _ H1.out.2.1 hxc (by omega)).mono ?_
  rintro r w3 ⟨⟨v3, rfl, o3⟩, b3⟩
  obtain ⟨aw, cw, rfl, i3⟩ := o3.row
  have H3 : Hid (SBlk w3 w1.heap.size s ∧ SRow w3 a1 xs ∧ Below w.heap.size w w3 ∧ SRow w3 aw (cwL now xs s)) := ⟨H1.out.1.later b3, H1.out.2.1.later b3, H1.out.2.2.trans (b3.mono H1.out.2.2.size), i3⟩
  clear H1 b3 o3 i3
  obtain ⟨e0, e1, e2, e3, e4, e5, e6⟩ := H3.out.1.cells.1
  simp only [Nat.zero_add] at e1 e2 e3 e4 e5 e6
  go_wp2_with fail
  refine (implWith_any a1 c1 xs s now _ H3.out.2.1 hxc).mono ?_
  rintro r w4 ⟨⟨v4, rfl, o4⟩, b4⟩
  obtain ⟨ax, cx, rfl, hcx, i4, _⟩ := own_row o4
  have HH : Hid (Hd w a1 c1 xs w1.heap.size s ax cx aw (cwL now xs s) w4) := ⟨H3.out.2.1.later b4, hxc, hxl, i4, hcx, H3.out.2.2.2.later b4, H3.out.1.later b4, H3.out.2.2.1.trans (b4.mono H3.out.2.2.1.size)⟩
  clear H3 b4 o4 i4 e0 e1 e2 e3 e4 e5 e6
  generalize w1.heap.size = ab at HH ⊢
  go_wp2_with fail
  refine (lbSeals_any ax aw cx cw (cwL now xs s) (cwL now xs s) _ HH.out.x HH.out.want (by omega) (by omega)).mono ?_
  rintro r w5 ⟨rfl, b5⟩
  rw [eqS_true rfl]
  replace HH : Hid (Hd w a1 c1 xs ab s ax cx aw (cwL now xs s) w5) := HH.out.later b5
  clear b5
  cases hcb : cwB now xs s
  · go_wp2_with fail
    refine (lbSeals_any ax aw cx cw (cwL now xs s) (cwL now xs s) _ HH.out.x HH.out.want (by omega) (by omega)).mono ?_
    rintro r w6 ⟨rfl, b6⟩
    rw [eqS_true rfl]
    replace HH : Hid (Hd w a1 c1 xs ab s ax cx aw (cwL now xs s) w6) := HH.out.later b6
    clear b6
    go_wp2_with fail
    go_ret
    exact ⟨rfl, HH.out.below⟩
  · obtain ⟨q1, q2, q3, q4, q5, q6, q7⟩ := cwB_parts hcb
    by_cases hlt : now + 4 ≤ 100
    · have hw1 : IntKind.i64.wrap (now + 3) = now + 3 := wrapM (by omega) (by omega)
      have hw2 : IntKind.i64.wrap (now + 3 + 1) = now + 3 + 1 := wrapM (by omega) (by omega)
      have ha1 : (⟨s.k, s.t, s.a, s.b, 1, s.d, s.e⟩ : Sl).auth = true := auth_one q2
      have ha2 : (⟨s.k, s.t, s.a, now + 3 + 1, 1, s.d, s.e⟩ : Sl).auth = true := auth_at (s := ⟨s.k, s.t, s.a, s.b, 1, s.d, s.e⟩) ha1 (by omega) (by omega)
      obtain ⟨k1, k2⟩ := cw_full ha1 q3 q4
      obtain ⟨k3, k4⟩ := cw_later (full_cache q3 q4) (fun u hu => Int.le_of_eq (fullL_mem hu).1) ha2 rfl q3 (by omega)
      have HK : Hid (cwB now (fullL now 20) ⟨s.k, s.t, s.a, s.b, 1, s.d, s.e⟩ = false ∧ cwL now (fullL now 20) ⟨s.k, s.t, s.a, s.b, 1, s.d, s.e⟩ = fullL now 20 ∧ cwB (now + 3 + 1) (fullL now 20) ⟨s.k, s.t, s.a, now + 3 + 1, 1, s.d, s.e⟩ = true ∧ cwL (now + 3 + 1) (fullL now 20) ⟨s.k, s.t, s.a, now + 3 + 1, 1, s.d, s.e⟩ = [⟨s.k, s.t, s.a, now + 3 + 1, 1, s.d, s.e⟩]) := ⟨k1, k2, k3, k4⟩
      have hlt2 : ¬ (100 : Int) < now + 3 + 1 := by omega
      clear q1 q2 q5 q6 q7 ha1 ha2 k1 k2 k3 k4
      obtain ⟨i0, hi, hz0, hz1, hz2⟩ := info_parts infoSealM
      have T0 : Hid (Below w5.heap.size w5 (w5.alloc (.cells #[] 25)) ∧ OwnS (w5.alloc (.cells #[] 25)) w5.heap.size (.slice (some ⟨w5.heap.size, 0, none⟩) 0 0) (fullL now 0)) := ⟨Below.alloc_ _ _, OwnS.zero _ (Nat.le_refl _)⟩
      go_wp2_with fail
      go_loopw [10, 11] (fun v i wr => ∃ (j : Nat), j ≤ 20 ∧ i = .int .i64 j ∧ Hid (Below w5.heap.size w5 wr ∧ OwnS wr w5.heap.size v (fullL now j))) (fun _ i _ => 20 - (intOf i).toNat)
      case atStart => exact ⟨0, Nat.zero_le _, rfl, T0⟩
      case round =>
        clear T0
        obtain ⟨j, hj, rfl, C⟩ := hrel
        have hfl := fullL_len now j
        by_cases hj2 : j < 20
        · have hwj : IntKind.i64.wrap (10 + (j : Int)) = 10 + j := wrapM (by omega) (by omega)
          obtain ⟨u, hu⟩ : ∃ u : Sl, u = ⟨10 + (j : Int), 3, 1, now, 60, 0, 0⟩ := ⟨_, rfl⟩
          have HS : Hid (u = ⟨10 + (j : Int), 3, 1, now, 60, 0, 0⟩) := hu
          have hcs : u.cs = [.int .i64 (10 + (j : Int)), .int .i64 3, .int .i64 1, .int .i64 now, .int .i64 60, .int .i64 0, .int .i64 0] := by rw [hu]; rfl
          have hsz := C.out.1.size
          have HFL : Hid ((fullL now j).length = j) := hfl
          clear hu hfl
          go_wp2_with (first
            | (at_builtin; refine wpList_append_own_at _ rfl _ _ 23 rfl (w5.heap.size) 25 i0 (.agg #[.int .i64 0, .int .i64 0, .int .i64 0, .int .i64 0, .int .i64 0, .int .i64 0, .int .i64 0]) 7 56 Try.underlying23 hi hz0 hz1 hz2 rfl (by decide) _ _ _ rfl (C.out.2.alloc _) ⟨wr.heap.size, 0, none⟩ 1 1 u.cs rfl (by rw [hcs]; rfl) (cs_at ⟨by go_simp; rw [HS.out], by go_simp; rw [HS.out], by go_simp; rw [HS.out], by go_simp; rw [HS.out], by go_simp; rw [HS.out], by go_simp; rw [HS.out], by go_simp; rw [HS.out]⟩) (cs_one u) (by rw [HFL.out]; unfold maxLen; omega) (by rw [HFL.out]; omega) (by simp; omega) ?_; intro v' w6 hown' hgrow hnil hloc)
            | go_in)
          have C2 : Hid (Below w5.heap.size w5 w6 ∧ OwnS w6 w5.heap.size v' (fullL now (j + 1))) := by
            have hal := (World.grownBy_alloc wr (.cells #[.int .i64 (10 + (j : Int)), .int .i64 3, .int .i64 1, .int .i64 now, .int .i64 60, .int .i64 0, .int .i64 0] 25) u10.ownBlock).trans hgrow
            refine ⟨C.out.1.grown hal C.out.1.size (fun k hk => (World.ownsRow.lt C.out.2 k hk).1), ?_⟩
            unfold OwnS
            rw [fullL_succ, ← HS.out, cellsL_add, List.length_append, List.length_singleton]
            exact hown'
          exact ⟨⟨j + 1, by omega, by go_num, C2⟩, by simp [intOf]; omega⟩
        · obtain rfl : j = 20 := by omega
          obtain ⟨af, cf, rfl, hcf, rf, _⟩ := own_row C.out.2
          have hfl2 : (fullL now 20).length = 20 := fullL_len now 20
          have HFL : Hid ((fullL now 20).length = 20) := hfl2
          have hfk : (fullL now 20).length ≤ 20 := by omega
          have KF : Hid (SRow wr af (fullL now 20) ∧ (fullL now 20).length ≤ cf) := ⟨rf, hcf⟩
          replace HH : Hid (Hd w a1 c1 xs ab s ax cx aw (cwL now xs s) wr) := HH.out.later C.out.1
          clear C rf hfl hcf hfl2
          obtain ⟨e0, e1, e2, e3, e4, e5, e6⟩ := HH.out.auth.cells.1
          simp only [Nat.zero_add] at e1 e2 e3 e4 e5 e6
          have KO : Hid (SBlk (wr.alloc (.cells #[.int .i64 s.k, .int .i64 s.t, .int .i64 s.a, .int .i64 s.b, .int .i64 1, .int .i64 s.d, .int .i64 s.e] 25)) wr.heap.size ⟨s.k, s.t, s.a, s.b, 1, s.d, s.e⟩ ∧ SRow (wr.alloc (.cells #[.int .i64 s.k, .int .i64 s.t, .int .i64 s.a, .int .i64 s.b, .int .i64 1, .int .i64 s.d, .int .i64 s.e] 25)) af (fullL now 20) ∧ Below w.heap.size w (wr.alloc (.cells #[.int .i64 s.k, .int .i64 s.t, .int .i64 s.a, .int .i64 s.b, .int .i64 1, .int .i64 s.d, .int .i64 s.e] 25))) := ⟨SBlk.new wr ⟨s.k, s.t, s.a, s.b, 1, s.d, s.e⟩, KF.out.1.later (Below.alloc_ _ _), HH.out.below.alloc HH.out.below.size _⟩
          have hcf := KF.out.2
          go_wp2_with fail
          refine (implWith_any af cf (fullL now 20) ⟨s.k, s.t, s.a, s.b, 1, s.d, s.e⟩ now _ KO.out.2.1 hcf).mono ?_
          rintro r w6 ⟨⟨v6, rfl, o6⟩, b6⟩
          rw [HK.out.2.1] at o6
          rw [HK.out.1]
          obtain ⟨ay, cy, rfl, i6⟩ := o6.row
          have H6 : Hid (SRow w6 ay (fullL now 20) ∧ SBlk w6 wr.heap.size ⟨s.k, s.t, s.a, s.b, 1, s.d, s.e⟩ ∧ SRow w6 af (fullL now 20) ∧ Below w.heap.size w w6) := ⟨i6, KO.out.1.later b6, KO.out.2.1.later b6, KO.out.2.2.trans (b6.mono KO.out.2.2.size)⟩
          clear o6 i6 b6 KO KF HH e0 e1 e2 e3 e4 e5 e6
          obtain ⟨e0, e1, e2, e3, e4, e5, e6⟩ := H6.out.2.1.cells.1
          simp only [Nat.zero_add] at e1 e2 e3 e4 e5 e6
          have KO : Hid (SBlk (w6.alloc (.cells #[.int .i64 s.k, .int .i64 s.t, .int .i64 s.a, .int .i64 (now + 3 + 1), .int .i64 1, .int .i64 s.d, .int .i64 s.e] 25)) w6.heap.size ⟨s.k, s.t, s.a, now + 3 + 1, 1, s.d, s.e⟩ ∧ SRow (w6.alloc (.cells #[.int .i64 s.k, .int .i64 s.t, .int .i64 s.a, .int .i64 (now + 3 + 1), .int .i64 1, .int .i64 s.d, .int .i64 s.e] 25)) af (fullL now 20) ∧ Below w.heap.size w (w6.alloc (.cells #[.int .i64 s.k, .int .i64 s.t, .int .i64 s.a, .int .i64 (now + 3 + 1), .int .i64 1, .int .i64 s.d, .int .i64 s.e] 25)) ∧ SRow (w6.alloc (.cells #[.int .i64 s.k, .int .i64 s.t, .int .i64 s.a, .int .i64 (now + 3 + 1), .int .i64 1, .int .i64 s.d, .int .i64 s.e] 25)) ay (fullL now 20)) := ⟨SBlk.new w6 ⟨s.k, s.t, s.a, now + 3 + 1, 1, s.d, s.e⟩, H6.out.2.2.1.later (Below.alloc_ _ _), H6.out.2.2.2.alloc H6.out.2.2.2.size _, H6.out.1.later (Below.alloc_ _ _)⟩
          go_wp2_with fail
          refine (implWith_any af cf (fullL now 20) ⟨s.k, s.t, s.a, now + 3 + 1, 1, s.d, s.e⟩ (now + 3 + 1) _ KO.out.2.1 hcf).mono ?_
          rintro r w7 ⟨⟨v7, rfl, o7⟩, b7⟩
          rw [HK.out.2.2.2] at o7
          rw [HK.out.2.2.1]
          obtain ⟨az, cz, rfl, i7⟩ := o7.row
          have H7 : Hid (SRow w7 ay (fullL now 20) ∧ SRow w7 af (fullL now 20) ∧ SRow w7 az [⟨s.k, s.t, s.a, now + 3 + 1, 1, s.d, s.e⟩] ∧ SBlk w7 w6.heap.size ⟨s.k, s.t, s.a, now + 3 + 1, 1, s.d, s.e⟩ ∧ Below w.heap.size w w7) := ⟨KO.out.2.2.2.later b7, KO.out.2.1.later b7, i7, KO.out.1.later b7, KO.out.2.2.1.trans (b7.mono KO.out.2.2.1.size)⟩
          clear o7 i7 b7 KO H6 e0 e1 e2 e3 e4 e5 e6
          go_wp2_with fail
          refine (lbSeals_any ay af cy cf (fullL now 20) (fullL now 20) _ H7.out.1 H7.out.2.1 (by omega) (by omega)).mono ?_
          rintro r w8 ⟨rfl, b8⟩
          rw [eqS_true rfl]
          have H8 : Hid (SRow w8 az [⟨s.k, s.t, s.a, now + 3 + 1, 1, s.d, s.e⟩] ∧ SBlk w8 w6.heap.size ⟨s.k, s.t, s.a, now + 3 + 1, 1, s.d, s.e⟩ ∧ Below w.heap.size w w8) := ⟨H7.out.2.2.1.later b8, H7.out.2.2.2.1.later b8, H7.out.2.2.2.2.trans (b8.mono H7.out.2.2.2.2.size)⟩
          clear H7 b8
          obtain ⟨e0, e1, e2, e3, e4, e5, e6⟩ := H8.out.2.1.cells.1
          simp only [Nat.zero_add] at e1 e2 e3 e4 e5 e6
          have KR : Hid (SRow (w8.alloc (.cells #[.int .i64 s.k, .int .i64 s.t, .int .i64 s.a, .int .i64 (now + 3 + 1), .int .i64 1, .int .i64 s.d, .int .i64 s.e] 25)) (some ⟨w8.heap.size, 0, none⟩) [⟨s.k, s.t, s.a, now + 3 + 1, 1, s.d, s.e⟩]) := one_row (SBlk.new w8 ⟨s.k, s.t, s.a, now + 3 + 1, 1, s.d, s.e⟩)
          go_wp2_with fail
          refine (lbSeals_any az (some ⟨w8.heap.size, 0, none⟩) cz 1 [⟨s.k, s.t, s.a, now + 3 + 1, 1, s.d, s.e⟩] [⟨s.k, s.t, s.a, now + 3 + 1, 1, s.d, s.e⟩] _ (H8.out.1.later (Below.alloc_ _ _)) KR.out (by simp) (by simp)).mono ?_
          rintro r w9 ⟨rfl, b9⟩
          rw [eqS_true rfl]
          have H9 : Hid (Below w.heap.size w w9) := (H8.out.2.2.alloc H8.out.2.2.size _).trans (b9.mono (by have := H8.out.2.2.size; simp; omega))
          clear b9 H8 KR e0 e1 e2 e3 e4 e5 e6
          go_wp2_with fail
          go_ret
          exact ⟨rfl, H9.out⟩
    · have hw1 : IntKind.i64.wrap (now + 3) = now + 3 := wrapM (by omega) (by omega)
      have hw2 : IntKind.i64.wrap (now + 3 + 1) = now + 3 + 1 := wrapM (by omega) (by omega)
      have hlt2 : (100 : Int) < now + 3 + 1 := by omega
      clear q1 q2 q5 q6 q7
      go_wp2_with fail
      refine (lbSeals_any ax aw cx cw (cwL now xs s) (cwL now xs s) _ HH.out.x HH.out.want (by omega) (by omega)).mono ?_
      rintro r w6 ⟨rfl, b6⟩
      rw [eqS_true rfl]
      replace HH : Hid (Hd w a1 c1 xs ab s ax cx aw (cwL now xs s) w6) := HH.out.later b6
      clear b6
      go_wp2_with fail
      go_ret
      exact ⟨rfl, HH.out.below⟩

set_option maxHeartbeats 1000000 in
theorem cacheFull_long (a : Option Addr) (n c : Nat) (w : World) (g : ¬ (n : Int) ≤ 1048576) :
    Calls Try.prog 8 #[.slice a n c] w fun r w' => r = .returned (.bool true) ∧ Below w.heap.size w w' := by
  have g' : (1048576 : Int) < n := by omega
  go_enter Try.func8, Try.ntmps8
  go_wp2_with fail
  go_ret
  exact ⟨rfl, Below.refl _ _⟩

end Go.Proofs.Ytnaoopkahcadmaa
