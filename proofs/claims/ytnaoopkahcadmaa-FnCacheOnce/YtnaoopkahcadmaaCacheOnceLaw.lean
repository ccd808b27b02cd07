/-
  The law on what is told twice, walked.
-/
import Derived.Test.YtnaoopkahcadmaaCacheHead
namespace Go.Proofs.Ytnaoopkahcadmaa
open Go.RowKit
attribute [local go_sem ↓] Go.wp_at_zero Go.wp_at_succ

set_option maxHeartbeats 8000000 in
set_option maxRecDepth 100000 in
theorem cacheOnce_short (a a2 : Option Addr) (n c n2 c2 : Nat) (w : World) (g : (n : Int) ≤ 1048576) (g2 : (n2 : Int) ≤ 1048576) (h : Code w a n c) (_h2 : Code w a2 n2 c2) :
    Calls Try.prog 3 #[.slice a n c, .slice a2 n2 c2] w fun r w' => r = .returned (.bool true) ∧ Below w.heap.size w w' := by
  go_enter Try.func3, Try.ntmps3
  go_wp2_with fail
  refine (drawCache_any a n c _ h).mono ?_
  rintro r w1 ⟨a1, c1, xs, s, now, rfl, D⟩
  have H1 : Hid (SBlk (w1.alloc (.cells #[.int .i64 s.k, .int .i64 s.t, .int .i64 s.a, .int .i64 s.b, .int .i64 s.c, .int .i64 s.d, .int .i64 s.e] 25)) w1.heap.size s ∧ SRow (w1.alloc (.cells #[.int .i64 s.k, .int .i64 s.t, .int .i64 s.a, .int .i64 s.b, .int .i64 s.c, .int .i64 s.d, .int .i64 s.e] 25)) a1 xs ∧ Below w.heap.size w (w1.alloc (.cells #[.int .i64 s.k, .int .i64 s.t, .int .i64 s.a, .int .i64 s.b, .int .i64 s.c, .int .i64 s.d, .int .i64 s.e] 25))) := ⟨SBlk.new _ _, D.row.later (Below.alloc_ _ _), D.below.alloc D.below.size _⟩
  have hxl := D.len
  have hxc := D.cap
  have hcl := cwL_short now xs s
  clear D h
  go_wp2_with fail
  refine (specWith_any a1 c1 xs s now _ H1.out.2.1 hxc (by omega)).mono ?_
  rintro r w3 ⟨⟨v3, rfl, o3⟩, b3⟩
  obtain ⟨aw, cw, rfl, i3⟩ := o3.row
  have H3 : Hid (SBlk w3 w1.heap.size s ∧ SRow w3 a1 xs ∧ Below w.heap.size w w3 ∧ SRow w3 aw (cwL now xs s)) := ⟨H1.out.1.later b3, H1.out.2.1.later b3, H1.out.2.2.trans (b3.mono H1.out.2.2.size), i3⟩
  clear H1 b3 o3 i3
  obtain ⟨e0, e1, e2, e3, e4, e5, e6⟩ := H3.out.1.cells.1
  simp only [Nat.zero_add] at e1 e2 e3 e4 e5 e6
  go_wp2_with fail
  refine (implWith_any a1 c1 xs s now _ H3.out.2.1 hxc).mono ?_
  rintro r w4 ⟨⟨v4, rfl, o4⟩, b4⟩
  obtain ⟨ax, cx, rfl, hcx, i4, _⟩ := own_row o4
  have HH : Hid (Hd w a1 c1 xs w1.heap.size s ax cx aw (cwL now xs s) w4) := ⟨H3.out.2.1.later b4, hxc, hxl, i4, hcx, H3.out.2.2.2.later b4, H3.out.1.later b4, H3.out.2.2.1.trans (b4.mono H3.out.2.2.1.size)⟩
  clear H3 b4 o4 i4 e0 e1 e2 e3 e4 e5 e6
  generalize w1.heap.size = ab at HH ⊢
  go_wp2_with fail
  refine (lbSeals_any ax aw cx cw (cwL now xs s) (cwL now xs s) _ HH.out.x HH.out.want (by omega) (by omega)).mono ?_
  rintro r w5 ⟨rfl, b5⟩
  rw [eqS_true rfl]
  replace HH : Hid (Hd w a1 c1 xs ab s ax cx aw (cwL now xs s) w5) := HH.out.later b5
  clear b5
  cases hcb : cwB now xs s
  · go_wp2_with fail
    refine (lbSeals_any ax aw cx cw (cwL now xs s) (cwL now xs s) _ HH.out.x HH.out.want (by omega) (by omega)).mono ?_
    rintro r w6 ⟨rfl, b6⟩
    rw [eqS_true rfl]
    replace HH : Hid (Hd w a1 c1 xs ab s ax cx aw (cwL now xs s) w6) := HH.out.later b6
    clear b6
    go_wp2_with fail
    go_ret
    exact ⟨rfl, HH.out.below⟩
  · obtain ⟨q1, q2, q3, q4, q5, q6, q7⟩ := cwB_parts hcb
    have HQ : Hid (s.auth = true ∧ s ∈ cwL now xs s ∧ cacheB (cwL now xs s) = true) := ⟨q2, by rw [q6]; simp, by rw [q6]; exact q7⟩
    clear q1 q2 q5 q6 q7
    obtain ⟨m, hm⟩ : ∃ m : Nat, m = n2 % 8 := ⟨_, rfl⟩
    have hm8 : m < 8 := by omega
    have hw1 : ((n2 : Int)).tmod 8 = (m : Int) := by rw [hm, Int.tmod_eq_emod_of_nonneg (by omega)]; omega
    have hw2 : IntKind.i64.wrap (m : Int) = m := wrapM (by omega) (by omega)
    have hw3 : IntKind.i64.wrap (now + (m : Int)) = now + m := wrapM (by omega) (by omega)
    clear hm
    obtain ⟨e0, e1, e2, e3, e4, e5, e6⟩ := HH.out.auth.cells.1
    simp only [Nat.zero_add] at e1 e2 e3 e4 e5 e6
    by_cases hlt : now + (m : Int) < 100
    ·
      have hq : askB (now + (m : Int)) (cwL now xs s) s = true := by
        unfold askB
        rw [HQ.out.2.2, HQ.out.1, inB_is.2 ⟨by omega, by omega⟩]
        rfl
      have HK : Hid (cwB (now + (m : Int)) (cwL now xs s) s = false ∧ cwB (now + (m : Int)) (cwL (now + (m : Int)) (cwL now xs s) s) s = false) := ⟨cw_again HQ.out.2.1, cw_third HQ.out.2.1 hq⟩
      clear hq
      have hl2 := cwL_short (now + (m : Int)) (cwL now xs s) s
      go_wp2_with fail
      refine (implWith_any ax cx (cwL now xs s) s (now + (m : Int)) _ HH.out.x HH.out.capx).mono ?_
      rintro r w6 ⟨⟨v6, rfl, o6⟩, b6⟩
      rw [HK.out.1]
      obtain ⟨ay, cy, rfl, hcy, i6, _⟩ := own_row o6
      have I6 : Hid (SRow w6 ay (cwL (now + (m : Int)) (cwL now xs s) s)) := i6
      replace HH : Hid (Hd w a1 c1 xs ab s ax cx aw (cwL now xs s) w6) := HH.out.later b6
      clear o6 i6 b6 e0 e1 e2 e3 e4 e5 e6
      obtain ⟨e0, e1, e2, e3, e4, e5, e6⟩ := HH.out.auth.cells.1
      simp only [Nat.zero_add] at e1 e2 e3 e4 e5 e6
      go_wp2_with fail
      refine (implWith_any ay cy (cwL (now + (m : Int)) (cwL now xs s) s) s (now + (m : Int)) _ I6.out hcy).mono ?_
      rintro r w7 ⟨⟨v7, rfl, o7⟩, b7⟩
      rw [HK.out.2]
      obtain ⟨a7, c7, rfl, i7⟩ := o7.row
      replace HH : Hid (Hd w a1 c1 xs ab s ax cx aw (cwL now xs s) w7) := HH.out.later b7
      clear o7 i7 b7 I6 e0 e1 e2 e3 e4 e5 e6
      obtain ⟨e0, e1, e2, e3, e4, e5, e6⟩ := HH.out.auth.cells.1
      simp only [Nat.zero_add] at e1 e2 e3 e4 e5 e6
      go_wp2_with fail
      refine (lbAmong_any ax cx (cwL now xs s) s _ HH.out.x (by omega)).mono ?_
      rintro r w8 ⟨rfl, b8⟩
      rw [inS_true HQ.out.2.1]
      have H8 : Hid (Below w.heap.size w w8) := HH.out.below.trans (b8.mono HH.out.below.size)
      clear HH b8 e0 e1 e2 e3 e4 e5 e6
      go_wp2_with fail
      go_ret
      exact ⟨rfl, H8.out⟩
    · by_cases hlt2 : (100 : Int) < now + (m : Int)
      ·
        have hq : askB (100) (cwL now xs s) s = true := by
          unfold askB
          rw [HQ.out.2.2, HQ.out.1, inB_is.2 ⟨by omega, by omega⟩]
          rfl
        have HK : Hid (cwB (100) (cwL now xs s) s = false ∧ cwB (100) (cwL (100) (cwL now xs s) s) s = false) := ⟨cw_again HQ.out.2.1, cw_third HQ.out.2.1 hq⟩
        clear hq
        have hl2 := cwL_short (100) (cwL now xs s) s
        go_wp2_with fail
        refine (implWith_any ax cx (cwL now xs s) s (100) _ HH.out.x HH.out.capx).mono ?_
        rintro r w6 ⟨⟨v6, rfl, o6⟩, b6⟩
        rw [HK.out.1]
        obtain ⟨ay, cy, rfl, hcy, i6, _⟩ := own_row o6
        have I6 : Hid (SRow w6 ay (cwL (100) (cwL now xs s) s)) := i6
        replace HH : Hid (Hd w a1 c1 xs ab s ax cx aw (cwL now xs s) w6) := HH.out.later b6
        clear o6 i6 b6 e0 e1 e2 e3 e4 e5 e6
        obtain ⟨e0, e1, e2, e3, e4, e5, e6⟩ := HH.out.auth.cells.1
        simp only [Nat.zero_add] at e1 e2 e3 e4 e5 e6
        go_wp2_with fail
        refine (implWith_any ay cy (cwL (100) (cwL now xs s) s) s (100) _ I6.out hcy).mono ?_
        rintro r w7 ⟨⟨v7, rfl, o7⟩, b7⟩
        rw [HK.out.2]
        obtain ⟨a7, c7, rfl, i7⟩ := o7.row
        replace HH : Hid (Hd w a1 c1 xs ab s ax cx aw (cwL now xs s) w7) := HH.out.later b7
        clear o7 i7 b7 I6 e0 e1 e2 e3 e4 e5 e6
        obtain ⟨e0, e1, e2, e3, e4, e5, e6⟩ := HH.out.auth.cells.1
        simp only [Nat.zero_add] at e1 e2 e3 e4 e5 e6
        go_wp2_with fail
        refine (lbAmong_any ax cx (cwL now xs s) s _ HH.out.x (by omega)).mono ?_
        rintro r w8 ⟨rfl, b8⟩
        rw [inS_true HQ.out.2.1]
        have H8 : Hid (Below w.heap.size w w8) := HH.out.below.trans (b8.mono HH.out.below.size)
        clear HH b8 e0 e1 e2 e3 e4 e5 e6
        go_wp2_with fail
        go_ret
        exact ⟨rfl, H8.out⟩
      · have hme : now + (m : Int) = 100 := by omega
        have hlt3 : ¬ (100 : Int) < 100 := by omega
        have hq : askB (100) (cwL now xs s) s = true := by
          unfold askB
          rw [HQ.out.2.2, HQ.out.1, inB_is.2 ⟨by omega, by omega⟩]
          rfl
        have HK : Hid (cwB (100) (cwL now xs s) s = false ∧ cwB (100) (cwL (100) (cwL now xs s) s) s = false) := ⟨cw_again HQ.out.2.1, cw_third HQ.out.2.1 hq⟩
        clear hq
        have hl2 := cwL_short (100) (cwL now xs s) s
        go_wp2_with fail
        refine (implWith_any ax cx (cwL now xs s) s (100) _ HH.out.x HH.out.capx).mono ?_
        rintro r w6 ⟨⟨v6, rfl, o6⟩, b6⟩
        rw [HK.out.1]
        obtain ⟨ay, cy, rfl, hcy, i6, _⟩ := own_row o6
        have I6 : Hid (SRow w6 ay (cwL (100) (cwL now xs s) s)) := i6
        replace HH : Hid (Hd w a1 c1 xs ab s ax cx aw (cwL now xs s) w6) := HH.out.later b6
        clear o6 i6 b6 e0 e1 e2 e3 e4 e5 e6
        obtain ⟨e0, e1, e2, e3, e4, e5, e6⟩ := HH.out.auth.cells.1
        simp only [Nat.zero_add] at e1 e2 e3 e4 e5 e6
        go_wp2_with fail
        refine (implWith_any ay cy (cwL (100) (cwL now xs s) s) s (100) _ I6.out hcy).mono ?_
        rintro r w7 ⟨⟨v7, rfl, o7⟩, b7⟩
        rw [HK.out.2]
        obtain ⟨a7, c7, rfl, i7⟩ := o7.row
        replace HH : Hid (Hd w a1 c1 xs ab s ax cx aw (cwL now xs s) w7) := HH.out.later b7
        clear o7 i7 b7 I6 e0 e1 e2 e3 e4 e5 e6
        obtain ⟨e0, e1, e2, e3, e4, e5, e6⟩ := HH.out.auth.cells.1
        simp only [Nat.zero_add] at e1 e2 e3 e4 e5 e6
        go_wp2_with fail
        refine (lbAmong_any ax cx (cwL now xs s) s _ HH.out.x (by omega)).mono ?_
        rintro r w8 ⟨rfl, b8⟩
        rw [inS_true HQ.out.2.1]
        have H8 : Hid (Below w.heap.size w w8) := HH.out.below.trans (b8.mono HH.out.below.size)
        clear HH b8 e0 e1 e2 e3 e4 e5 e6
        go_wp2_with fail
        go_ret
        exact ⟨rfl, H8.out⟩

set_option maxHeartbeats 1000000 in
theorem cacheOnce_long1 (a a2 : Option Addr) (n c n2 c2 : Nat) (w : World) (g : ¬ (n : Int) ≤ 1048576) :
    Calls Try.prog 3 #[.slice a n c, .slice a2 n2 c2] w fun r w' => r = .returned (.bool true) ∧ Below w.heap.size w w' := by
  have g' : (1048576 : Int) < n := by omega
  go_enter Try.func3, Try.ntmps3
  go_wp2_with fail
  go_ret
  exact ⟨rfl, Below.refl _ _⟩
set_option maxHeartbeats 1000000 in
theorem cacheOnce_long2 (a a2 : Option Addr) (n c n2 c2 : Nat) (w : World) (g : (n : Int) ≤ 1048576) (g2 : ¬ (n2 : Int) ≤ 1048576) :
    Calls Try.prog 3 #[.slice a n c, .slice a2 n2 c2] w fun r w' => r = .returned (.bool true) ∧ Below w.heap.size w w' := by
  have g' : (1048576 : Int) < n2 := by omega
  go_enter Try.func3, Try.ntmps3
  go_wp2_with fail
  go_ret
  exact ⟨rfl, Below.refl _ _⟩
theorem cacheOnce_long (a a2 : Option Addr) (n c n2 c2 : Nat) (w : World) (g : ¬ ((n : Int) ≤ 1048576 ∧ (n2 : Int) ≤ 1048576)) :
    Calls Try.prog 3 #[.slice a n c, .slice a2 n2 c2] w fun r w' => r = .returned (.bool true) ∧ Below w.heap.size w w' := by
  by_cases g1 : (n : Int) ≤ 1048576
  · exact cacheOnce_long2 a a2 n c n2 c2 w g1 (fun g2 => g ⟨g1, g2⟩)
  · exact cacheOnce_long1 a a2 n c n2 c2 w g1

end Go.Proofs.Ytnaoopkahcadmaa
