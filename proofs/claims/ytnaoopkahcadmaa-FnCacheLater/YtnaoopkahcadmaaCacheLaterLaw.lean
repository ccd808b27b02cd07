/-
  The law on what is old, walked.
-/
import Derived.Test.YtnaoopkahcadmaaCacheHead
namespace Go.Proofs.Ytnaoopkahcadmaa
open Go.RowKit
attribute [local go_sem ↓] Go.wp_at_zero Go.wp_at_succ

set_option maxHeartbeats 8000000 in
set_option maxRecDepth 100000 in
theorem cacheLater_short (a : Option Addr) (n c : Nat) (w : World) (g : (n : Int) ≤ 1048576) (h : Code w a n c) :
    Calls Try.prog 6 #[.slice a n c] w fun r w' => r = .returned (.bool true) ∧ Below w.heap.size w w' := by
  go_enter Try.func6, Try.ntmps6
  go_wp2_with fail
  refine (drawCache_any a n c _ h).mono ?_
  rintro r w1 ⟨a1, c1, xs, s, now, rfl, D⟩
  have H1 : Hid (SBlk (w1.alloc (.cells #[.int .i64 s.k, .int .i64 s.t, .int .i64 s.a, .int .i64 s.b, .int .i64 s.c, .int .i64 s.d, .int .i64 s.e] 25)) w1.heap.size s ∧ SRow (w1.alloc (.cells #[.int .i64 s.k, .int .i64 s.t, .int .i64 s.a, .int .i64 s.b, .int .i64 s.c, .int .i64 s.d, .int .i64 s.e] 25)) a1 xs ∧ Below w.heap.size w (w1.alloc (.cells #[.int .i64 s.k, .int .i64 s.t, .int .i64 s.a, .int .i64 s.b, .int .i64 s.c, .int .i64 s.d, .int .i64 s.e] 25))) := ⟨SBlk.new _ _, D.row.later (Below.alloc_ _ _), D.below.alloc D.below.size _⟩
  have hxl := D.len
  have hxc := D.cap
  have hcl := cwL_short now xs s
  clear D h
  go_wp2_with fail
  refine (specWith_any a1 c1 xs s now _ H1.out.2.1 hxc (by omega)).mono ?_
  rintro r w3 ⟨⟨v3, rfl, o3⟩, b3⟩
  obtain ⟨aw, cw, rfl, i3⟩ := o3.row
  have H3 : Hid (SBlk w3 w1.heap.size s ∧ SRow w3 a1 xs ∧ Below w.heap.size w w3 ∧ SRow w3 aw (cwL now xs s)) := ⟨H1.out.1.later b3, H1.out.2.1.later b3, H1.out.2.2.trans (b3.mono H1.out.2.2.size), i3⟩
  clear H1 b3 o3 i3
  obtain ⟨e0, e1, e2, e3, e4, e5, e6⟩ := H3.out.1.cells.1
  simp only [Nat.zero_add] at e1 e2 e3 e4 e5 e6
  go_wp2_with fail
  refine (implWith_any a1 c1 xs s now _ H3.out.2.1 hxc).mono ?_
  rintro r w4 ⟨⟨v4, rfl, o4⟩, b4⟩
  obtain ⟨ax, cx, rfl, hcx, i4, _⟩ := own_row o4
  have HH : Hid (Hd w a1 c1 xs w1.heap.size s ax cx aw (cwL now xs s) w4) := ⟨H3.out.2.1.later b4, hxc, hxl, i4, hcx, H3.out.2.2.2.later b4, H3.out.1.later b4, H3.out.2.2.1.trans (b4.mono H3.out.2.2.1.size)⟩
  clear H3 b4 o4 i4 e0 e1 e2 e3 e4 e5 e6
  generalize w1.heap.size = ab at HH ⊢
  go_wp2_with fail
  refine (lbSeals_any ax aw cx cw (cwL now xs s) (cwL now xs s) _ HH.out.x HH.out.want (by omega) (by omega)).mono ?_
  rintro r w5 ⟨rfl, b5⟩
  rw [eqS_true rfl]
  replace HH : Hid (Hd w a1 c1 xs ab s ax cx aw (cwL now xs s) w5) := HH.out.later b5
  clear b5
  cases hcb : cwB now xs s
  · go_wp2_with fail
    refine (lbSeals_any ax aw cx cw (cwL now xs s) (cwL now xs s) _ HH.out.x HH.out.want (by omega) (by omega)).mono ?_
    rintro r w6 ⟨rfl, b6⟩
    rw [eqS_true rfl]
    replace HH : Hid (Hd w a1 c1 xs ab s ax cx aw (cwL now xs s) w6) := HH.out.later b6
    clear b6
    go_wp2_with fail
    go_ret
    exact ⟨rfl, HH.out.below⟩
  · obtain ⟨q1, q2, q3, q4, q5, q6, q7⟩ := cwB_parts hcb
    by_cases hlt : now + 4 ≤ 100
    · have hw1 : IntKind.i64.wrap (now + 3) = now + 3 := wrapM (by omega) (by omega)
      have hw2 : IntKind.i64.wrap (now + 3 + 1) = now + 3 + 1 := wrapM (by omega) (by omega)
      have HQ : Hid (cacheB xs = true ∧ s.auth = true ∧ takes now xs s = true ∧ cwL now xs s = keep now xs ++ [s] ∧ cacheB (keep now xs ++ [s]) = true) := ⟨q1, q2, q5, q6, q7⟩
      have hlt2 : ¬ (100 : Int) < now + 3 + 1 := by omega
      clear q1 q2 q5 q6 q7
      obtain ⟨e0, e1, e2, e3, e4, e5, e6⟩ := HH.out.auth.cells.1
      simp only [Nat.zero_add] at e1 e2 e3 e4 e5 e6
      have hya : (⟨s.k, s.t, s.a, now + 3 + 1, s.c, s.d, s.e⟩ : Sl).auth = true := by
        exact auth_at HQ.out.2.1 (by omega) (by omega)
      obtain ⟨k1, k2⟩ := cw_later (now := now) (xs := cwL now xs s) (y := ⟨s.k, s.t, s.a, now + 3 + 1, s.c, s.d, s.e⟩) (by rw [HQ.out.2.2.2.1]; exact HQ.out.2.2.2.2) (fun u hu => (cwL_mem hu).2.1) hya rfl q3 (by omega)
      have HK : Hid (cwB (now + 3 + 1) (cwL now xs s) ⟨s.k, s.t, s.a, now + 3 + 1, s.c, s.d, s.e⟩ = true ∧ cwL (now + 3 + 1) (cwL now xs s) ⟨s.k, s.t, s.a, now + 3 + 1, s.c, s.d, s.e⟩ = [⟨s.k, s.t, s.a, now + 3 + 1, s.c, s.d, s.e⟩]) := ⟨k1, k2⟩
      clear k1 k2 hya
      have KB : Hid (SBlk (w5.alloc (.cells #[.int .i64 s.k, .int .i64 s.t, .int .i64 s.a, .int .i64 (now + 3 + 1), .int .i64 s.c, .int .i64 s.d, .int .i64 s.e] 25)) w5.heap.size ⟨s.k, s.t, s.a, now + 3 + 1, s.c, s.d, s.e⟩) := SBlk.new w5 ⟨s.k, s.t, s.a, now + 3 + 1, s.c, s.d, s.e⟩
      have HB : Hid (Hd w a1 c1 xs ab s ax cx aw (cwL now xs s) (w5.alloc (.cells #[.int .i64 s.k, .int .i64 s.t, .int .i64 s.a, .int .i64 (now + 3 + 1), .int .i64 s.c, .int .i64 s.d, .int .i64 s.e] 25))) := HH.out.later (Below.alloc_ _ _)
      go_wp2_with fail
      refine (implWith_any ax cx (cwL now xs s) ⟨s.k, s.t, s.a, now + 3 + 1, s.c, s.d, s.e⟩ (now + 3 + 1) _ HB.out.x HB.out.capx).mono ?_
      rintro r w6 ⟨⟨v6, rfl, o6⟩, b6⟩
      rw [HK.out.2] at o6
      rw [HK.out.1]
      obtain ⟨az, cz, rfl, i6⟩ := o6.row
      have H6 : Hid (SRow w6 az [⟨s.k, s.t, s.a, now + 3 + 1, s.c, s.d, s.e⟩] ∧ SBlk w6 w5.heap.size ⟨s.k, s.t, s.a, now + 3 + 1, s.c, s.d, s.e⟩ ∧ Below w.heap.size w w6) := ⟨i6, KB.out.later b6, HB.out.below.trans (b6.mono HB.out.below.size)⟩
      clear o6 i6 b6 HK KB HB HH e0 e1 e2 e3 e4 e5 e6
      obtain ⟨e0, e1, e2, e3, e4, e5, e6⟩ := H6.out.2.1.cells.1
      simp only [Nat.zero_add] at e1 e2 e3 e4 e5 e6
      have KN := SBlk.new w6 ⟨s.k, s.t, s.a, now + 3 + 1, s.c, s.d, s.e⟩
      have KR : Hid (SRow (w6.alloc (.cells #[.int .i64 s.k, .int .i64 s.t, .int .i64 s.a, .int .i64 (now + 3 + 1), .int .i64 s.c, .int .i64 s.d, .int .i64 s.e] 25)) (some ⟨w6.heap.size, 0, none⟩) [⟨s.k, s.t, s.a, now + 3 + 1, s.c, s.d, s.e⟩]) := one_row KN
      clear KN
      go_wp2_with fail
      refine (lbSeals_any az (some ⟨w6.heap.size, 0, none⟩) cz 1 [⟨s.k, s.t, s.a, now + 3 + 1, s.c, s.d, s.e⟩] [⟨s.k, s.t, s.a, now + 3 + 1, s.c, s.d, s.e⟩] _ (H6.out.1.later (Below.alloc_ _ _)) KR.out (by simp) (by simp)).mono ?_
      rintro r w7 ⟨rfl, b7⟩
      rw [eqS_true rfl]
      have H7 : Hid (Below w.heap.size w w7) := (H6.out.2.2.alloc H6.out.2.2.size _).trans (b7.mono (by have := H6.out.2.2.size; simp; omega))
      clear b7 H6 KR e0 e1 e2 e3 e4 e5 e6
      go_wp2_with fail
      go_ret
      exact ⟨rfl, H7.out⟩
    · have hw1 : IntKind.i64.wrap (now + 3) = now + 3 := wrapM (by omega) (by omega)
      have hw2 : IntKind.i64.wrap (now + 3 + 1) = now + 3 + 1 := wrapM (by omega) (by omega)
      have hlt2 : (100 : Int) < now + 3 + 1 := by omega
      clear q1 q2 q5 q6 q7
      go_wp2_with fail
      refine (lbSeals_any ax aw cx cw (cwL now xs s) (cwL now xs s) _ HH.out.x HH.out.want (by omega) (by omega)).mono ?_
      rintro r w6 ⟨rfl, b6⟩
      rw [eqS_true rfl]
      replace HH : Hid (Hd w a1 c1 xs ab s ax cx aw (cwL now xs s) w6) := HH.out.later b6
      clear b6
      go_wp2_with fail
      go_ret
      exact ⟨rfl, HH.out.below⟩

set_option maxHeartbeats 1000000 in
theorem cacheLater_long (a : Option Addr) (n c : Nat) (w : World) (g : ¬ (n : Int) ≤ 1048576) :
    Calls Try.prog 6 #[.slice a n c] w fun r w' => r = .returned (.bool true) ∧ Below w.heap.size w w' := by
  have g' : (1048576 : Int) < n := by omega
  go_enter Try.func6, Try.ntmps6
  go_wp2_with fail
  go_ret
  exact ⟨rfl, Below.refl _ _⟩

end Go.Proofs.Ytnaoopkahcadmaa
