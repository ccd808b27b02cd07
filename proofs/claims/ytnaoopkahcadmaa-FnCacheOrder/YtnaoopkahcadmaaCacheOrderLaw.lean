/-
  The law on two that differ, walked.
-/
import Derived.Test.YtnaoopkahcadmaaCacheHead
import Derived.Test.YtnaoopkahcadmaaKdcMath3
namespace Go.Proofs.Ytnaoopkahcadmaa
open Go.RowKit
attribute [local go_sem ↓] Go.wp_at_zero Go.wp_at_succ

set_option maxHeartbeats 8000000 in
set_option maxRecDepth 100000 in
theorem cacheOrder_short (a a2 : Option Addr) (n c n2 c2 : Nat) (w : World) (g : (n : Int) ≤ 1048576) (g2 : (n2 : Int) ≤ 1048576) (h : Code w a n c) (h2 : Code w a2 n2 c2) :
    Calls Try.prog 7 #[.slice a n c, .slice a2 n2 c2] w fun r w' => r = .returned (.bool true) ∧ Below w.heap.size w w' := by
  go_enter Try.func7, Try.ntmps7
  go_wp2_with fail
  refine (drawCache_any a n c _ h).mono ?_
  rintro r w1 ⟨a1, c1, xs, s, now, rfl, D⟩
  have H1 : Hid (SBlk (w1.alloc (.cells #[.int .i64 s.k, .int .i64 s.t, .int .i64 s.a, .int .i64 s.b, .int .i64 s.c, .int .i64 s.d, .int .i64 s.e] 25)) w1.heap.size s ∧ SRow (w1.alloc (.cells #[.int .i64 s.k, .int .i64 s.t, .int .i64 s.a, .int .i64 s.b, .int .i64 s.c, .int .i64 s.d, .int .i64 s.e] 25)) a1 xs ∧ Below w.heap.size w (w1.alloc (.cells #[.int .i64 s.k, .int .i64 s.t, .int .i64 s.a, .int .i64 s.b, .int .i64 s.c, .int .i64 s.d, .int .i64 s.e] 25))) := ⟨SBlk.new _ _, D.row.later (Below.alloc_ _ _), D.below.alloc D.below.size _⟩
  have hxl := D.len
  have hxc := D.cap
  have hcl := cwL_short now xs s
  have H2 : Hid (Code (w1.alloc (.cells #[.int .i64 s.k, .int .i64 s.t, .int .i64 s.a, .int .i64 s.b, .int .i64 s.c, .int .i64 s.d, .int .i64 s.e] 25)) a2 n2 c2) := h2.below (H1.out.2.2)
  clear D h h2
  go_wp2_with fail
  refine (drawCache_any a2 n2 c2 _ H2.out).mono ?_
  rintro r w2 ⟨a2', c2', xs2, o, now2, rfl, D⟩
  have L2 : w1.heap.size < w2.heap.size := by have := D.below.size; simp at this; omega
  have H3 : Hid (SBlk (w2.alloc (.cells #[.int .i64 o.k, .int .i64 o.t, .int .i64 o.a, .int .i64 o.b, .int .i64 o.c, .int .i64 o.d, .int .i64 o.e] 25)) w1.heap.size s ∧ SRow (w2.alloc (.cells #[.int .i64 o.k, .int .i64 o.t, .int .i64 o.a, .int .i64 o.b, .int .i64 o.c, .int .i64 o.d, .int .i64 o.e] 25)) a1 xs ∧ Below w.heap.size w (w2.alloc (.cells #[.int .i64 o.k, .int .i64 o.t, .int .i64 o.a, .int .i64 o.b, .int .i64 o.c, .int .i64 o.d, .int .i64 o.e] 25)) ∧ SBlk (w2.alloc (.cells #[.int .i64 o.k, .int .i64 o.t, .int .i64 o.a, .int .i64 o.b, .int .i64 o.c, .int .i64 o.d, .int .i64 o.e] 25)) w2.heap.size o) := by
    have bb := D.below.trans ((Below.alloc_ w2 (.cells #[.int .i64 o.k, .int .i64 o.t, .int .i64 o.a, .int .i64 o.b, .int .i64 o.c, .int .i64 o.d, .int .i64 o.e] 25)).mono D.below.size)
    exact ⟨H1.out.1.later bb, H1.out.2.1.later bb, H1.out.2.2.trans (bb.mono H1.out.2.2.size), SBlk.new _ _⟩
  obtain ⟨e0, e1, e2, e3, e4, e5, e6⟩ := (H1.out.1.later D.below).cells.1
  simp only [Nat.zero_add] at e1 e2 e3 e4 e5 e6
  clear D H1 H2
  go_wp2_with fail
  refine (specWith_any a1 c1 xs s now _ H3.out.2.1 hxc (by omega)).mono ?_
  rintro r w3 ⟨⟨v3, rfl, o3⟩, b3⟩
  obtain ⟨aw, cw, rfl, i3⟩ := o3.row
  have H4 : Hid (SBlk w3 w1.heap.size s ∧ SRow w3 a1 xs ∧ Below w.heap.size w w3 ∧ SRow w3 aw (cwL now xs s) ∧ SBlk w3 w2.heap.size o) := ⟨H3.out.1.later b3, H3.out.2.1.later b3, H3.out.2.2.1.trans (b3.mono H3.out.2.2.1.size), i3, H3.out.2.2.2.later b3⟩
  clear H3 b3 o3 i3 e0 e1 e2 e3 e4 e5 e6
  obtain ⟨e0, e1, e2, e3, e4, e5, e6⟩ := H4.out.1.cells.1
  simp only [Nat.zero_add] at e1 e2 e3 e4 e5 e6
  go_wp2_with fail
  refine (implWith_any a1 c1 xs s now _ H4.out.2.1 hxc).mono ?_
  rintro r w4 ⟨⟨v4, rfl, o4⟩, b4⟩
  obtain ⟨ax, cx, rfl, hcx, i4, _⟩ := own_row o4
  have HH : Hid (Hd w a1 c1 xs w1.heap.size s ax cx aw (cwL now xs s) w4) := ⟨H4.out.2.1.later b4, hxc, hxl, i4, hcx, H4.out.2.2.2.1.later b4, H4.out.1.later b4, H4.out.2.2.1.trans (b4.mono H4.out.2.2.1.size)⟩
  have HO : Hid (SBlk w4 w2.heap.size o) := H4.out.2.2.2.2.later b4
  clear H4 b4 o4 i4 e0 e1 e2 e3 e4 e5 e6 L2
  generalize w1.heap.size = ab at HH ⊢
  generalize w2.heap.size = ob at HO ⊢
  obtain ⟨tb, htb⟩ : ∃ tb, cwB now xs s = tb := ⟨_, rfl⟩
  rw [htb]
  have HTB : Hid (cwB now xs s = tb) := htb
  clear htb
  go_upto_region 7 with fail
  go_cut [77] (fun v wc => ∃ t : Bool, v = .bool t ∧ (t = false → cwB now xs s = true ∧ (¬ o = s) ∧ ¬ (cwL now xs s).length = 20) ∧ Hid (Hd w a1 c1 xs ab s ax cx aw (cwL now xs s) wc ∧ SBlk wc ob o))
  case first =>
    go_wp2_with fail
    refine (lbSeals_any ax aw cx cw (cwL now xs s) (cwL now xs s) _ HH.out.x HH.out.want (by omega) (by omega)).mono ?_
    rintro r w5 ⟨rfl, b5⟩
    rw [eqS_true rfl]
    replace HH : Hid (Hd w a1 c1 xs ab s ax cx aw (cwL now xs s) w5) := HH.out.later b5
    replace HO : Hid (SBlk w5 ob o) := HO.out.later b5
    clear b5
    cases tb
    · go_wp2_with fail
      go_meet
      case rel => exact ⟨true, rfl, (fun e => by cases e), HH.out, HO.out⟩
    · have HCB : Hid (cwB now xs s = true) := HTB
      obtain ⟨e0, e1, e2, e3, e4, e5, e6⟩ := HH.out.auth.cells.1
      simp only [Nat.zero_add] at e1 e2 e3 e4 e5 e6
      obtain ⟨d0, d1, d2, d3, d4, d5, d6⟩ := HO.out.cells.1
      simp only [Nat.zero_add] at d1 d2 d3 d4 d5 d6
      by_cases hos : o = s
      · rw [hos] at d0 d1 d2 d3 d4 d5 d6
        clear hos
        go_wp2_with fail
        go_meet
        case rel => exact ⟨true, rfl, (fun e => by cases e), HH.out, HO.out⟩
      · have HOS : Hid (¬ o = s) := hos
        by_cases hfl : (cwL now xs s).length = 20
        · have hfi : ((cwL now xs s).length : Int) = 20 := by omega
          clear hfl
          rcases diff7 hos with h1 | ⟨h1, h2⟩ | ⟨h1, h2, h3⟩ | ⟨h1, h2, h3, h4⟩ | ⟨h1, h2, h3, h4, h5⟩ | ⟨h1, h2, h3, h4, h5, h6⟩ | ⟨h1, h2, h3, h4, h5, h6, h7⟩
          all_goals
            clear hos
            go_wp2_with fail
            go_meet
            case rel => exact ⟨true, rfl, (fun e => by cases e), HH.out, HO.out⟩
        · have hfi : ¬ (((cwL now xs s).length : Int) = 20) := by omega
          have HFL : Hid (¬ (cwL now xs s).length = 20) := hfl
          clear hfl
          rcases diff7 hos with h1 | ⟨h1, h2⟩ | ⟨h1, h2, h3⟩ | ⟨h1, h2, h3, h4⟩ | ⟨h1, h2, h3, h4, h5⟩ | ⟨h1, h2, h3, h4, h5, h6⟩ | ⟨h1, h2, h3, h4, h5, h6, h7⟩
          all_goals
            clear hos
            go_wp2_with fail
            go_meet
            case rel => exact ⟨false, congrArg Value.bool (beq_eq_false_iff_ne.2 hfi), (fun _ => ⟨HCB.out, HOS.out, HFL.out⟩), HH.out, HO.out⟩
  case rest =>
    clear HH HO
    obtain ⟨t, rfl, ht, HC⟩ := hcut
    have HH : Hid (Hd w a1 c1 xs ab s ax cx aw (cwL now xs s) _) := HC.out.1
    have HO : Hid (SBlk _ ob o) := HC.out.2
    clear HC
    cases t
    · obtain ⟨k1, k2, k3⟩ := ht rfl
      have HQ : Hid (cwB now xs s = true ∧ (¬ o = s) ∧ ¬ (cwL now xs s).length = 20) := ⟨k1, k2, k3⟩
      clear ht k1 k2 k3
      obtain ⟨d0, d1, d2, d3, d4, d5, d6⟩ := HO.out.cells.1
      simp only [Nat.zero_add] at d1 d2 d3 d4 d5 d6
      go_wp2_with fail
      refine (implWith_any a1 c1 xs o now _ HH.out.cache HH.out.capc).mono ?_
      rintro r w6 ⟨⟨v6, rfl, o6⟩, b6⟩
      obtain ⟨ay, cy, rfl, hcy, i6, _⟩ := own_row o6
      have IY : Hid (SRow w6 ay (cwL now xs o)) := i6
      have hl6 := cwL_short now xs o
      replace HH : Hid (Hd w a1 c1 xs ab s ax cx aw (cwL now xs s) w6) := HH.out.later b6
      replace HO : Hid (SBlk w6 ob o) := HO.out.later b6
      clear b6 o6 i6 d0 d1 d2 d3 d4 d5 d6
      cases hco : cwB now xs o
      · go_wp2_with fail
        go_ret
        exact ⟨rfl, HH.out.below⟩
      · obtain ⟨k1, k2⟩ := cw_two HQ.out.1 hco HQ.out.2.1 HQ.out.2.2
        obtain ⟨k3, k4⟩ := cw_two hco HQ.out.1 (fun e => HQ.out.2.1 e.symm) (by rw [← cw_lens HQ.out.1 hco]; exact HQ.out.2.2)
        have k5 := cw_lens HQ.out.1 hco
        have HK : Hid (cwB now (cwL now xs s) o = true ∧ cwB now (cwL now xs o) s = true ∧ (cwL now (cwL now xs s) o).length = (cwL now (cwL now xs o) s).length ∧ s ∈ cwL now (cwL now xs s) o ∧ o ∈ cwL now (cwL now xs s) o ∧ s ∈ cwL now (cwL now xs o) s ∧ o ∈ cwL now (cwL now xs o) s) :=
          ⟨k1, k3, by rw [k2, k4]; simp [k5], by rw [k2]; exact List.mem_append_left _ (cw_mem HQ.out.1), by rw [k2]; simp, by rw [k4]; simp, by rw [k4]; exact List.mem_append_left _ (cw_mem hco)⟩
        clear k1 k2 k3 k4 k5
        have hla := cwL_short now (cwL now xs s) o
        have hlb := cwL_short now (cwL now xs o) s
        obtain ⟨d0, d1, d2, d3, d4, d5, d6⟩ := HO.out.cells.1
        simp only [Nat.zero_add] at d1 d2 d3 d4 d5 d6
        go_wp2_with fail
        refine (implWith_any ax cx (cwL now xs s) o now _ HH.out.x HH.out.capx).mono ?_
        rintro r w7 ⟨⟨v7, rfl, o7⟩, b7⟩
        rw [HK.out.1]
        obtain ⟨aa, ca, rfl, i7⟩ := o7.row
        have IA : Hid (SRow w7 aa (cwL now (cwL now xs s) o)) := i7
        replace IY : Hid (SRow w7 ay (cwL now xs o)) := IY.out.later b7
        replace HH : Hid (Hd w a1 c1 xs ab s ax cx aw (cwL now xs s) w7) := HH.out.later b7
        replace HO : Hid (SBlk w7 ob o) := HO.out.later b7
        clear b7 o7 i7 d0 d1 d2 d3 d4 d5 d6
        obtain ⟨e0, e1, e2, e3, e4, e5, e6⟩ := HH.out.auth.cells.1
        simp only [Nat.zero_add] at e1 e2 e3 e4 e5 e6
        go_wp2_with fail
        refine (implWith_any ay cy (cwL now xs o) s now _ IY.out hcy).mono ?_
        rintro r w8 ⟨⟨v8, rfl, o8⟩, b8⟩
        rw [HK.out.2.1]
        obtain ⟨bb, cb, rfl, i8⟩ := o8.row
        have IB : Hid (SRow w8 bb (cwL now (cwL now xs o) s)) := i8
        replace IA : Hid (SRow w8 aa (cwL now (cwL now xs s) o)) := IA.out.later b8
        replace HH : Hid (Hd w a1 c1 xs ab s ax cx aw (cwL now xs s) w8) := HH.out.later b8
        replace HO : Hid (SBlk w8 ob o) := HO.out.later b8
        clear b8 o8 i8 IY e0 e1 e2 e3 e4 e5 e6
        have hle : ((cwL now (cwL now xs s) o).length : Int) = ((cwL now (cwL now xs o) s).length : Int) := by rw [HK.out.2.2.1]
        have HLE : Hid (((cwL now (cwL now xs s) o).length : Int) = ((cwL now (cwL now xs o) s).length : Int)) := hle
        obtain ⟨e0, e1, e2, e3, e4, e5, e6⟩ := HH.out.auth.cells.1
        simp only [Nat.zero_add] at e1 e2 e3 e4 e5 e6
        go_wp2_with fail
        refine (lbAmong_any aa ca (cwL now (cwL now xs s) o) s _ IA.out (by omega)).mono ?_
        rintro r w9 ⟨rfl, b9⟩
        rw [inS_true (HK.out.2.2.2.1)]
        replace HH : Hid (Hd w a1 c1 xs ab s ax cx aw (cwL now xs s) w9) := HH.out.later b9
        replace HO : Hid (SBlk w9 ob o) := HO.out.later b9
        replace IA : Hid (SRow w9 aa (cwL now (cwL now xs s) o)) := IA.out.later b9
        replace IB : Hid (SRow w9 bb (cwL now (cwL now xs o) s)) := IB.out.later b9
        clear b9 e0 e1 e2 e3 e4 e5 e6
        obtain ⟨d0, d1, d2, d3, d4, d5, d6⟩ := HO.out.cells.1
        simp only [Nat.zero_add] at d1 d2 d3 d4 d5 d6
        go_wp2_with fail
        refine (lbAmong_any aa ca (cwL now (cwL now xs s) o) o _ IA.out (by omega)).mono ?_
        rintro r w10 ⟨rfl, b10⟩
        rw [inS_true (HK.out.2.2.2.2.1)]
        replace HH : Hid (Hd w a1 c1 xs ab s ax cx aw (cwL now xs s) w10) := HH.out.later b10
        replace HO : Hid (SBlk w10 ob o) := HO.out.later b10
        replace IA : Hid (SRow w10 aa (cwL now (cwL now xs s) o)) := IA.out.later b10
        replace IB : Hid (SRow w10 bb (cwL now (cwL now xs o) s)) := IB.out.later b10
        clear b10 d0 d1 d2 d3 d4 d5 d6
        obtain ⟨e0, e1, e2, e3, e4, e5, e6⟩ := HH.out.auth.cells.1
        simp only [Nat.zero_add] at e1 e2 e3 e4 e5 e6
        go_wp2_with fail
        refine (lbAmong_any bb cb (cwL now (cwL now xs o) s) s _ IB.out (by omega)).mono ?_
        rintro r w11 ⟨rfl, b11⟩
        rw [inS_true (HK.out.2.2.2.2.2.1)]
        replace HH : Hid (Hd w a1 c1 xs ab s ax cx aw (cwL now xs s) w11) := HH.out.later b11
        replace HO : Hid (SBlk w11 ob o) := HO.out.later b11
        replace IA : Hid (SRow w11 aa (cwL now (cwL now xs s) o)) := IA.out.later b11
        replace IB : Hid (SRow w11 bb (cwL now (cwL now xs o) s)) := IB.out.later b11
        clear b11 e0 e1 e2 e3 e4 e5 e6
        obtain ⟨d0, d1, d2, d3, d4, d5, d6⟩ := HO.out.cells.1
        simp only [Nat.zero_add] at d1 d2 d3 d4 d5 d6
        go_wp2_with fail
        refine (lbAmong_any bb cb (cwL now (cwL now xs o) s) o _ IB.out (by omega)).mono ?_
        rintro r w12 ⟨rfl, b12⟩
        rw [inS_true (HK.out.2.2.2.2.2.2)]
        replace HH : Hid (Hd w a1 c1 xs ab s ax cx aw (cwL now xs s) w12) := HH.out.later b12
        replace HO : Hid (SBlk w12 ob o) := HO.out.later b12
        replace IA : Hid (SRow w12 aa (cwL now (cwL now xs s) o)) := IA.out.later b12
        replace IB : Hid (SRow w12 bb (cwL now (cwL now xs o) s)) := IB.out.later b12
        clear b12 d0 d1 d2 d3 d4 d5 d6
        go_wp2_with fail
        go_ret
        exact ⟨rfl, HH.out.below⟩
    ·
      go_wp2_with fail
      refine (lbSeals_any ax aw cx cw (cwL now xs s) (cwL now xs s) _ HH.out.x HH.out.want (by omega) (by omega)).mono ?_
      rintro r w6 ⟨rfl, b6⟩
      rw [eqS_true rfl]
      replace HH : Hid (Hd w a1 c1 xs ab s ax cx aw (cwL now xs s) w6) := HH.out.later b6
      clear b6
      go_wp2_with fail
      go_ret
      exact ⟨rfl, HH.out.below⟩

set_option maxHeartbeats 1000000 in
theorem cacheOrder_long1 (a a2 : Option Addr) (n c n2 c2 : Nat) (w : World) (g : ¬ (n : Int) ≤ 1048576) :
    Calls Try.prog 7 #[.slice a n c, .slice a2 n2 c2] w fun r w' => r = .returned (.bool true) ∧ Below w.heap.size w w' := by
  have g' : (1048576 : Int) < n := by omega
  go_enter Try.func7, Try.ntmps7
  go_wp2_with fail
  go_ret
  exact ⟨rfl, Below.refl _ _⟩
set_option maxHeartbeats 1000000 in
theorem cacheOrder_long2 (a a2 : Option Addr) (n c n2 c2 : Nat) (w : World) (g : (n : Int) ≤ 1048576) (g2 : ¬ (n2 : Int) ≤ 1048576) :
    Calls Try.prog 7 #[.slice a n c, .slice a2 n2 c2] w fun r w' => r = .returned (.bool true) ∧ Below w.heap.size w w' := by
  have g' : (1048576 : Int) < n2 := by omega
  go_enter Try.func7, Try.ntmps7
  go_wp2_with fail
  go_ret
  exact ⟨rfl, Below.refl _ _⟩
theorem cacheOrder_long (a a2 : Option Addr) (n c n2 c2 : Nat) (w : World) (g : ¬ ((n : Int) ≤ 1048576 ∧ (n2 : Int) ≤ 1048576)) :
    Calls Try.prog 7 #[.slice a n c, .slice a2 n2 c2] w fun r w' => r = .returned (.bool true) ∧ Below w.heap.size w w' := by
  by_cases g1 : (n : Int) ≤ 1048576
  · exact cacheOrder_long2 a a2 n c n2 c2 w g1 (fun g2 => g ⟨g1, g2⟩)
  · exact cacheOrder_long1 a a2 n c n2 c2 w g1

end Go.Proofs.Ytnaoopkahcadmaa
