/-
  The law on what is fresh, walked.
-/
import Derived.Test.YtnaoopkahcadmaaCacheHead
namespace Go.Proofs.Ytnaoopkahcadmaa
open Go.RowKit
attribute [local go_sem ↓] Go.wp_at_zero Go.wp_at_succ

set_option maxHeartbeats 8000000 in
set_option maxRecDepth 100000 in
theorem cacheKeeps_short (a : Option Addr) (n c : Nat) (w : World) (g : (n : Int) ≤ 1048576) (h : Code w a n c) :
    Calls Try.prog 5 #[.slice a n c] w fun r w' => r = .returned (.bool true) ∧ Below w.heap.size w w' := by
  go_enter Try.func5, Try.ntmps5
  go_wp2_with fail
  refine (drawCache_any a n c _ h).mono ?_
  rintro r w1 ⟨a1, c1, xs, s, now, rfl, D⟩
  have H1 : Hid (SBlk (w1.alloc (.cells #[.int .i64 s.k, .int .i64 s.t, .int .i64 s.a, .int .i64 s.b, .int .i64 s.c, .int .i64 s.d, .int .i64 s.e] 25)) w1.heap.size s ∧ SRow (w1.alloc (.cells #[.int .i64 s.k, .int .i64 s.t, .int .i64 s.a, .int .i64 s.b, .int .i64 s.c, .int .i64 s.d, .int .i64 s.e] 25)) a1 xs ∧ Below w.heap.size w (w1.alloc (.cells #[.int .i64 s.k, .int .i64 s.t, .int .i64 s.a, .int .i64 s.b, .int .i64 s.c, .int .i64 s.d, .int .i64 s.e] 25))) := ⟨SBlk.new _ _, D.row.later (Below.alloc_ _ _), D.below.alloc D.below.size _⟩
  have hxl := D.len
  have hxc := D.cap
  have hcl := cwL_short now xs s
  clear D h
  go_wp2_with fail
  refine (specWith_any a1 c1 xs s now _ H1.out.2.1 hxc (by omega)).mono ?_
  rintro r w3 ⟨⟨v3, rfl, o3⟩, b3⟩
  obtain ⟨aw, cw, rfl, i3⟩ := o3.row
  have H3 : Hid (SBlk w3 w1.heap.size s ∧ SRow w3 a1 xs ∧ Below w.heap.size w w3 ∧ SRow w3 aw (cwL now xs s)) := ⟨H1.out.1.later b3, H1.out.2.1.later b3, H1.out.2.2.trans (b3.mono H1.out.2.2.size), i3⟩
  clear H1 b3 o3 i3
  obtain ⟨e0, e1, e2, e3, e4, e5, e6⟩ := H3.out.1.cells.1
  simp only [Nat.zero_add] at e1 e2 e3 e4 e5 e6
  go_wp2_with fail
  refine (implWith_any a1 c1 xs s now _ H3.out.2.1 hxc).mono ?_
  rintro r w4 ⟨⟨v4, rfl, o4⟩, b4⟩
  obtain ⟨ax, cx, rfl, hcx, i4, _⟩ := own_row o4
  have HH : Hid (Hd w a1 c1 xs w1.heap.size s ax cx aw (cwL now xs s) w4) := ⟨H3.out.2.1.later b4, hxc, hxl, i4, hcx, H3.out.2.2.2.later b4, H3.out.1.later b4, H3.out.2.2.1.trans (b4.mono H3.out.2.2.1.size)⟩
  clear H3 b4 o4 i4 e0 e1 e2 e3 e4 e5 e6
  generalize w1.heap.size = ab at HH ⊢
  go_wp2_with fail
  refine (lbSeals_any ax aw cx cw (cwL now xs s) (cwL now xs s) _ HH.out.x HH.out.want (by omega) (by omega)).mono ?_
  rintro r w5 ⟨rfl, b5⟩
  rw [eqS_true rfl]
  replace HH : Hid (Hd w a1 c1 xs ab s ax cx aw (cwL now xs s) w5) := HH.out.later b5
  clear b5
  cases hcb : cwB now xs s
  · go_wp2_with fail
    refine (lbSeals_any ax aw cx cw (cwL now xs s) (cwL now xs s) _ HH.out.x HH.out.want (by omega) (by omega)).mono ?_
    rintro r w6 ⟨rfl, b6⟩
    rw [eqS_true rfl]
    replace HH : Hid (Hd w a1 c1 xs ab s ax cx aw (cwL now xs s) w6) := HH.out.later b6
    clear b6
    go_wp2_with fail
    go_ret
    exact ⟨rfl, HH.out.below⟩
  · obtain ⟨q1, q2, q3, q4, q5, q6, q7⟩ := cwB_parts hcb
    have HQ : Hid (cacheB xs = true ∧ s.auth = true ∧ takes now xs s = true ∧ cwL now xs s = keep now xs ++ [s]) := ⟨q1, q2, q5, q6⟩
    clear q1 q2 q5 q6 q7
    obtain ⟨i0, hi, hz0, hz1, hz2⟩ := info_parts infoSealM
    have T0 : Hid (Below w5.heap.size w5 (w5.alloc (.cells #[] 25)) ∧ OwnS (w5.alloc (.cells #[] 25)) w5.heap.size (.slice (some ⟨w5.heap.size, 0, none⟩) 0 0) []) := ⟨Below.alloc_ _ _, OwnS.zero _ (Nat.le_refl _)⟩
    go_wp2_with fail
    go_loopw [10, 11] (fun v i wr => ∃ (j : Nat), j ≤ xs.length ∧ i = .int .i64 j ∧ Hid (Below w5.heap.size w5 wr ∧ OwnS wr w5.heap.size v (keep now (xs.take j)))) (fun _ i _ => xs.length - (intOf i).toNat)
    case atStart => exact ⟨0, Nat.zero_le _, rfl, T0⟩
    case round =>
      clear T0
      obtain ⟨j, hj, rfl, C⟩ := hrel
      by_cases hlt : j < xs.length
      · obtain ⟨u, hu⟩ : ∃ u, xs[j]? = some u := ⟨xs[j], List.getElem?_eq_getElem hlt⟩
        have HU : Hid (xs[j]? = some u) := hu
        have hub : 0 ≤ u.b ∧ u.b ≤ 100 := by have := auth_parts (cacheB_auth HQ.out.1 u (List.mem_of_getElem? hu)); omega
        rcases HH.out.cache.later C.out.1 with hz | ⟨b, off, rfl, hlb, hat⟩
        · simp [hz] at hlt
        obtain ⟨g0, g1, g2, g3, g4, g5, g6⟩ := hat j u hu
        clear hat hu
        have hws : IntKind.i64.wrap (now - u.b) = now - u.b := wrapM (by omega) (by omega)
        have hkl := keep_len now (xs.take j)
        rw [List.length_take] at hkl
        have hcs : u.cs = [.int .i64 u.k, .int .i64 u.t, .int .i64 u.a, .int .i64 u.b, .int .i64 u.c, .int .i64 u.d, .int .i64 u.e] := rfl
        have hsz := C.out.1.size
        by_cases y1 : u.b ≤ now
        · by_cases y2 : now - u.b ≤ 3
          ·
            go_wp2_with (first
              | (at_builtin; refine wpList_append_own_at _ rfl _ _ 23 rfl (w5.heap.size) 25 i0 (.agg #[.int .i64 0, .int .i64 0, .int .i64 0, .int .i64 0, .int .i64 0, .int .i64 0, .int .i64 0]) 7 56 Try.underlying23 hi hz0 hz1 hz2 rfl (by decide) _ _ _ rfl (C.out.2.alloc _) ⟨wr.heap.size, 0, none⟩ 1 1 u.cs rfl (by rw [hcs]; rfl) (cs_at ⟨by go_simp, by go_simp, by go_simp, by go_simp, by go_simp, by go_simp, by go_simp⟩) (cs_one u) (by unfold maxLen; omega) (by omega) (by simp; omega) ?_; intro v' w6 hown' hgrow hnil hloc)
              | go_in)
            have C2 : Hid (Below w5.heap.size w5 w6 ∧ OwnS w6 w5.heap.size v' (keep now (xs.take (j + 1)))) := by
              have hal := (World.grownBy_alloc wr (.cells #[.int .i64 u.k, .int .i64 u.t, .int .i64 u.a, .int .i64 u.b, .int .i64 u.c, .int .i64 u.d, .int .i64 u.e] 25) u10.ownBlock).trans hgrow
              refine ⟨C.out.1.grown hal C.out.1.size (fun k hk => (World.ownsRow.lt C.out.2 k hk).1), ?_⟩
              unfold OwnS
              rw [keep_take HU.out, freshB_iff.2 ⟨y1, y2⟩, if_pos rfl, cellsL_add, List.length_append, List.length_singleton]
              exact hown'
            exact ⟨⟨j + 1, by omega, by go_num, C2⟩, by simp [intOf]; omega⟩
          · have C2 : Hid (Below w5.heap.size w5 wr ∧ OwnS wr w5.heap.size u10 (keep now (xs.take (j + 1)))) := by
              refine ⟨C.out.1, ?_⟩
              have : freshB u.b now = false := by simp [freshB, y2]
              rw [keep_take HU.out, this]
              simpa using C.out.2
            have y3 : (3 : Int) < now - u.b := by omega
            clear C
            go_wp2_with fail
            exact ⟨⟨j + 1, by omega, by go_num, C2⟩, by simp [intOf]; omega⟩
        · have C2 : Hid (Below w5.heap.size w5 wr ∧ OwnS wr w5.heap.size u10 (keep now (xs.take (j + 1)))) := by
            refine ⟨C.out.1, ?_⟩
            have : freshB u.b now = false := by simp [freshB, y1]
            rw [keep_take HU.out, this]
            simpa using C.out.2
          clear C
          go_wp2_with fail
          exact ⟨⟨j + 1, by omega, by go_num, C2⟩, by simp [intOf]; omega⟩
      · obtain rfl : j = xs.length := by omega
        have HE : Hid (Below w5.heap.size w5 wr ∧ OwnS wr w5.heap.size u10 (keep now xs)) := ⟨C.out.1, by have := C.out.2; rwa [List.take_length] at this⟩
        clear C
        have hsz := HE.out.1.size
        have hkl := keep_len now xs
        have hcs : s.cs = [.int .i64 s.k, .int .i64 s.t, .int .i64 s.a, .int .i64 s.b, .int .i64 s.c, .int .i64 s.d, .int .i64 s.e] := rfl
        obtain ⟨e0, e1, e2, e3, e4, e5, e6⟩ := (HH.out.auth.later HE.out.1).cells.1
        simp only [Nat.zero_add] at e1 e2 e3 e4 e5 e6
        go_wp2_with (first
          | (at_builtin; refine wpList_append_own_at _ rfl _ _ 23 rfl (w5.heap.size) 25 i0 (.agg #[.int .i64 0, .int .i64 0, .int .i64 0, .int .i64 0, .int .i64 0, .int .i64 0, .int .i64 0]) 7 56 Try.underlying23 hi hz0 hz1 hz2 rfl (by decide) _ _ _ rfl (HE.out.2.alloc _) ⟨wr.heap.size, 0, none⟩ 1 1 s.cs rfl (by rw [hcs]; rfl) (cs_at ⟨by go_simp, by go_simp, by go_simp, by go_simp, by go_simp, by go_simp, by go_simp⟩) (cs_one s) (by unfold maxLen; omega) (by omega) (by simp; omega) ?_; intro v' w6 hown' hgrow hnil hloc)
          | fail)
        have hal := (World.grownBy_alloc wr (.cells #[.int .i64 s.k, .int .i64 s.t, .int .i64 s.a, .int .i64 s.b, .int .i64 s.c, .int .i64 s.d, .int .i64 s.e] 25) u10.ownBlock).trans hgrow
        have b6 : Below w5.heap.size w5 w6 := HE.out.1.grown hal HE.out.1.size (fun k hk => (World.ownsRow.lt HE.out.2 k hk).1)
        have o6 : OwnS w6 w5.heap.size v' (keep now xs ++ [s]) := by
          unfold OwnS
          rw [cellsL_add, List.length_append, List.length_singleton]
          exact hown'
        obtain ⟨a6, c6, rfl, i6⟩ := o6.row
        rw [← HQ.out.2.2.2] at i6 ⊢
        replace HH : Hid (Hd w a1 c1 xs ab s ax cx aw (cwL now xs s) w6) := HH.out.later b6
        have I6 : Hid (SRow w6 a6 (cwL now xs s)) := i6
        clear hal b6 o6 i6 hown' hgrow hnil hloc HE e0 e1 e2 e3 e4 e5 e6
        try go_wp2_with fail
        refine (lbSeals_any ax a6 cx c6 (cwL now xs s) (cwL now xs s) _ HH.out.x I6.out (by omega) (by omega)).mono ?_
        rintro r w7 ⟨rfl, b7⟩
        rw [eqS_true rfl]
        replace HH : Hid (Hd w a1 c1 xs ab s ax cx aw (cwL now xs s) w7) := HH.out.later b7
        clear b7 I6
        obtain ⟨e0, e1, e2, e3, e4, e5, e6⟩ := HH.out.auth.cells.1
        simp only [Nat.zero_add] at e1 e2 e3 e4 e5 e6
        go_wp2_with fail
        refine (lbAmong_any a1 c1 xs s _ HH.out.cache (by omega)).mono ?_
        rintro r w8 ⟨rfl, b8⟩
        rw [not_in HQ.out.2.2.1]
        have H8 : Hid (Below w.heap.size w w8) := HH.out.below.trans (b8.mono HH.out.below.size)
        clear HH b8 e0 e1 e2 e3 e4 e5 e6
        go_wp2_with fail
        go_ret
        exact ⟨rfl, H8.out⟩

set_option maxHeartbeats 1000000 in
theorem cacheKeeps_long (a : Option Addr) (n c : Nat) (w : World) (g : ¬ (n : Int) ≤ 1048576) :
    Calls Try.prog 5 #[.slice a n c] w fun r w' => r = .returned (.bool true) ∧ Below w.heap.size w w' := by
  have g' : (1048576 : Int) < n := by omega
  go_enter Try.func5, Try.ntmps5
  go_wp2_with fail
  go_ret
  exact ⟨rfl, Below.refl _ _⟩

end Go.Proofs.Ytnaoopkahcadmaa
