/-
  The law 'one makes words of seals that one has, or can make', walked at every list of bytes: it returns true, and nothing that was in memory is turned.
-/
import Derived.Test.YtepnijocfilgoaaDoorDrawnWord
import Derived.Test.YtepnijocfilgoaaDoorKnowKeysI
import Derived.Test.YtepnijocfilgoaaDoorIntLb
import Derived.Test.YtepnijocfilgoaaDoorLbAmong
namespace Go.Proofs.YtepnijocfilgoaaDoor
open Go.RowKit
attribute [local go_sem ↓] Go.wp_at_zero Go.wp_at_succ

theorem key_in {H : List Bool} {n : Int} (h1 : 0 ≤ n) (h2 : n ≤ 60) : decide (n ∈ keysOf H 61) = H.getD n.toNat false := by
  cases hb : H.getD n.toNat false
  · exact decide_eq_false fun hm => by have := (mem_keysOf.1 hm).2.2; rw [hb] at this; cases this
  · exact decide_eq_true (mem_keysOf.2 ⟨by omega, by omega, hb⟩)

set_option maxRecDepth 100000 in
set_option maxHeartbeats 1000000 in
theorem knowBld_long (a : Option Addr) (len cap : Nat) (w : World) (h : 1048576 < (len : Int)) :
    Calls Tryd.prog 6 #[.slice a len cap] w fun r w' => r = .returned (.bool true) ∧ Below w.heap.size w w' := by
  go_enter Tryd.func6, Tryd.ntmps6
  go_wp2_with fail
  go_ret
  exact ⟨rfl, Below.refl _ _⟩

set_option maxRecDepth 100000 in
set_option maxHeartbeats 8000000 in
theorem knowBld_short (a : Option Addr) (len cap : Nat) (w : World) (h : (len : Int) ≤ 1048576) (hc : Code w a len cap) (hf : Forms w) :
    Calls Tryd.prog 6 #[.slice a len cap] w fun r w' => r = .returned (.bool true) ∧ Below w.heap.size w w' := by
  go_enter Tryd.func6, Tryd.ntmps6
  go_wp2_with fail
  refine (drawBuild_any a len cap w hc).mono ?_
  rintro r w1 ⟨a1, c1, ks, a2, c2, xs, m, n, k, f, a3, c3, ys, rfl, d1, r1, hy⟩
  have f1 := d1.few1
  have f2 := d1.few2
  have E1 : Hid (Dw w a1 ks a2 xs a3 ys w1.heap.size m n k f (.slice a3 ys.length c3) (w1.alloc (.cells #[.int .i64 m, .int .i64 n, .int .i64 k, .int .i64 f, .slice a3 ys.length c3] 33))) := Dw.of d1 r1 hf
  obtain ⟨H, hR⟩ := right_any ks xs
  have HR : Hid (Right ks xs H) := hR
  clear d1 r1 hc hR
  go_wp2_with fail
  refine (implBuild_any a1 a2 a3 c1 c2 c3 ks xs m n k f ys _ H HR.out E1.out.dr.keys E1.out.dr.seals E1.out.row (by omega) (by omega) (by omega) E1.out.fo).mono ?_
  rintro r w2 ⟨rfl, b2⟩
  have E2 : Hid (Dw w a1 ks a2 xs a3 ys w1.heap.size m n k f (.slice a3 ys.length c3) w2) := E1.out.later b2
  clear E1 b2
  obtain ⟨bb, hbb⟩ : ∃ bb, buildB H xs m n k f ys = bb := ⟨_, rfl⟩
  have HB : Hid (buildB H xs m n k f ys = bb) := hbb
  rw [hbb]
  clear hbb
  obtain ⟨e0, e1, e2, e3, e4⟩ := E2.out.mc
  go_wp2_with fail
  refine (specBuild_any a1 a2 a3 c1 c2 c3 ks xs m n k f ys _ H HR.out E2.out.dr.keys E2.out.dr.seals E2.out.row (by omega) (by omega) (by omega)).mono ?_
  rintro r w3 ⟨rfl, b3⟩
  have E3 : Hid (Dw w a1 ks a2 xs a3 ys w1.heap.size m n k f (.slice a3 ys.length c3) w3) := E2.out.later b3
  clear E2 b3 e0 e1 e2 e3 e4
  rw [HB.out]
  obtain ⟨e0, e1, e2, e3, e4⟩ := E3.out.mc
  clear e0 e1 e2 e3 e4
  have hbb : (bb != bb) = false := by cases bb <;> rfl
  go_wp2_with fail
  refine (implKeys_any a1 a2 c1 c2 ks xs w3 E3.out.dr.keys E3.out.dr.seals (by omega) (by omega)).mono ?_
  rintro r w4 ⟨⟨v4, H', rfl, hR', o4⟩, b4⟩
  obtain rfl : H = H' := HR.out.one hR' (fun _ => Iff.rfl)
  obtain ⟨aa, ca, rfl, i4⟩ := o4.row
  have E4 : Hid (Dw w a1 ks a2 xs a3 ys w1.heap.size m n k f (.slice a3 ys.length c3) w4 ∧ IRow w4 aa (keysOf H 61)) := ⟨E3.out.later b4, i4⟩
  have hkl := keysOf_len H 61
  clear E3 o4 i4 b4 hR'
  obtain ⟨e0, e1, e2, e3, e4⟩ := E4.out.1.mc
  go_wp2_with fail
  refine (implMsg_any m n k f a3 c3 ys _ E4.out.1.row (by omega) E4.out.1.fo).mono ?_
  rintro r w5 ⟨rfl, b5⟩
  have E5 : Hid (Dw w a1 ks a2 xs a3 ys w1.heap.size m n k f (.slice a3 ys.length c3) w5 ∧ IRow w5 aa (keysOf H 61)) := ⟨E4.out.1.later b5, E4.out.2.later b5⟩
  clear E4 b5 e0 e1 e2 e3 e4
  have HOK : Hid (msgB m n k f ys = true → ∀ s ∈ ys, s.ok = true) := fun h => (msgB_ok h).1
  go_wp2_with fail
  go_loopw [8, 9] (fun cn i wr => ∃ (j : Nat) (b : Bool), j ≤ ys.length ∧ i = .int .i64 j ∧ cn = .bool b ∧ Hid ((Dw w a1 ks a2 xs a3 ys w1.heap.size m n k f (.slice a3 ys.length c3) wr ∧ IRow wr aa (keysOf H 61)) ∧ b = (msgB m n k f ys && (ys.take j).all (canB H xs)))) (fun _ i _ => ys.length - (intOf i).toNat)
  case atStart => exact ⟨0, msgB m n k f ys, Nat.zero_le _, rfl, rfl, E5.out, by simp⟩
  case round =>
    clear E5
    obtain ⟨j, b, hj, rfl, rfl, C⟩ := hrel
    have e4 := C.out.1.1.mc.c4
    cases b
    · have hbf : bb = false := by
        have h1 := C.out.2
        rw [← HB.out]
        unfold buildB
        cases hm : msgB m n k f ys
        · rfl
        · rw [hm, Bool.true_and] at h1
          rw [Bool.true_and]
          cases ha : ys.all (canB H xs)
          · rfl
          · rw [List.all_eq_true] at ha
            have : (ys.take j).all (canB H xs) = true := List.all_eq_true.2 fun s hs => ha s (List.mem_of_mem_take hs)
            rw [this] at h1
            cases h1
      subst hbf
      go_wp2_with fail
      go_ret
      exact ⟨rfl, C.out.1.1.dr.below⟩
    · have hmb : msgB m n k f ys = true := by
        have h1 := C.out.2
        cases hm : msgB m n k f ys
        · rw [hm] at h1; cases h1
        · rfl
      have hall : (ys.take j).all (canB H xs) = true := by
        have h1 := C.out.2
        rw [hmb, Bool.true_and] at h1
        exact h1.symm
      have HA : Hid (msgB m n k f ys = true ∧ (ys.take j).all (canB H xs) = true) := ⟨hmb, hall⟩
      clear hall hmb
      by_cases hlt : j < ys.length
      · obtain ⟨s, hs⟩ : ∃ s, ys[j]? = some s := ⟨ys[j], List.getElem?_eq_getElem hlt⟩
        have hso := HOK.out HA.out.1 s (List.mem_of_getElem? hs)
        obtain ⟨k1, k2⟩ := Sl.key_of_ok hso
        obtain ⟨i1, i2⟩ := s.inn_nonneg
        have hsu : Hid ((msgB m n k f ys && (ys.take (j + 1)).all (canB H xs)) = canB H xs s) := by
          show (_ && _) = _
          rw [HA.out.1, Bool.true_and, all_take hs, HA.out.2, Bool.true_and]
        rcases C.out.1.1.row with hz | ⟨b, off, rfl, hlb, hr⟩
        · simp [hz] at hlt
        obtain ⟨c0, c1', c2', c3', c4, c5, c6⟩ := hr j s hs
        have ab := Below.alloc_ wr (.cells #[.int .i64 s.k, .int .i64 s.t, .int .i64 s.a, .int .i64 s.b, .int .i64 s.c, .int .i64 s.d, .int .i64 s.e] 45)
        have V5 : Hid (SealAt (wr.alloc (.cells #[.int .i64 s.k, .int .i64 s.t, .int .i64 s.a, .int .i64 s.b, .int .i64 s.c, .int .i64 s.d, .int .i64 s.e] 45)) wr.heap.size 0 s) := ⟨by go_simp, by go_simp, by go_simp, by go_simp, by go_simp, by go_simp, by go_simp⟩
        have C5 : Hid (Dw w a1 ks a2 xs (some ⟨b, off, none⟩) ys w1.heap.size m n k f (.slice (some ⟨b, off, none⟩) ys.length c3) (wr.alloc (.cells #[.int .i64 s.k, .int .i64 s.t, .int .i64 s.a, .int .i64 s.b, .int .i64 s.c, .int .i64 s.d, .int .i64 s.e] 45)) ∧ IRow (wr.alloc (.cells #[.int .i64 s.k, .int .i64 s.t, .int .i64 s.a, .int .i64 s.b, .int .i64 s.c, .int .i64 s.d, .int .i64 s.e] 45)) aa (keysOf H 61)) := ⟨C.out.1.1.later ab, C.out.1.2.later ab⟩
        clear hr C ab
        go_wp2_with fail
        refine (implH_any _ _ _ _ _ _ _ _).mono ?_
        rintro r w6 ⟨rfl, b6⟩
        have hinn : Go.Proofs.YtepnijocfilgoaaDoor.hK s.k s.t s.a s.b s.c s.d s.e = s.inn := rfl
        rw [hinn]
        have C6 : Hid (Dw w a1 ks a2 xs (some ⟨b, off, none⟩) ys w1.heap.size m n k f (.slice (some ⟨b, off, none⟩) ys.length c3) w6 ∧ IRow w6 aa (keysOf H 61)) := ⟨C5.out.1.later b6, C5.out.2.later b6⟩
        have V6 := V5.out.later b6 (by simp)
        obtain ⟨p, hp⟩ : ∃ p, p = wr.heap.size := ⟨_, rfl⟩
        rw [← hp] at V6 ⊢
        have hpl : p < w6.heap.size := by rw [hp]; exact Nat.lt_of_lt_of_le (by simp) b6.size
        have HV6 : Hid (SealAt w6 p 0 s ∧ p < w6.heap.size) := ⟨V6, hpl⟩
        obtain ⟨d0, d1, d2, d3, d4, d5, d6⟩ := V6
        simp only [Nat.zero_add] at d1 d2 d3 d4 d5 d6
        clear C5 V5 b6 hinn hp hpl c0 c1' c2' c3' c4 c5 c6 e4
        go_wp2_with fail
        refine (lbAmong_any a2 c2 xs s w6 C6.out.1.dr.seals (by omega)).mono ?_
        rintro r w7 ⟨rfl, b7⟩
        have C7 : Hid (Dw w a1 ks a2 xs (some ⟨b, off, none⟩) ys w1.heap.size m n k f (.slice (some ⟨b, off, none⟩) ys.length c3) w7 ∧ IRow w7 aa (keysOf H 61)) := ⟨C6.out.1.later b7, C6.out.2.later b7⟩
        have g0 := (HV6.out.1.later b7 HV6.out.2).c0
        clear C6 HV6 b7 d0 d1 d2 d3 d4 d5 d6
        cases hin : inS s xs
        · go_wp2_with fail
          refine (lbHas_any aa ca (keysOf H 61) s.k w7 C7.out.2 (by omega)).mono ?_
          rintro r w' ⟨rfl, hw⟩
          rw [hw, key_in (by omega) (by omega)]
          clear hw w'
          cases hhk : H.getD s.k.toNat false
          · have hcan : canB H xs s = false := by unfold canB; rw [hin, hhk]; rfl
            go_wp2_with fail
            go_roundw
            case rel => exact ⟨j + 1, false, by omega, by go_num, rfl, C7.out, by rw [hsu.out, hcan]⟩
            case measure => simp [intOf]; omega
          · by_cases hi0 : s.inn = 0
            · have hcan : canB H xs s = true := by unfold canB; rw [hin, hhk, decide_eq_true hi0]; rfl
              go_wp2_with fail
              go_roundw
              case rel => exact ⟨j + 1, true, by omega, by go_num, rfl, C7.out, by rw [hsu.out, hcan]⟩
              case measure => simp [intOf]; omega
            · have hib : (s.inn == 0) = false := by simp [hi0]
              go_wp2_with fail
              refine (lbHas_any aa ca (keysOf H 61) s.inn w7 C7.out.2 (by omega)).mono ?_
              rintro r w' ⟨rfl, hw⟩
              rw [hw, key_in (by omega) (by omega)]
              clear hw w'
              have hcan : canB H xs s = H.getD s.inn.toNat false := by unfold canB; rw [hin, hhk, decide_eq_false hi0]; rfl
              obtain ⟨cc, hcc⟩ : ∃ cc, cc = H.getD s.inn.toNat false := ⟨_, rfl⟩
              rw [← hcc] at hcan ⊢
              clear hcc
              go_wp2_with fail
              go_roundw
              case rel => exact ⟨j + 1, cc, by omega, by go_num, rfl, C7.out, by rw [hsu.out, hcan]⟩
              case measure => simp [intOf]; omega
        · have hcan : canB H xs s = true := by unfold canB; rw [hin]; rfl
          go_wp2_with fail
          go_roundw
          case rel => exact ⟨j + 1, true, by omega, by go_num, rfl, C7.out, by rw [hsu.out, hcan]⟩
          case measure => simp [intOf]; omega
      · obtain rfl : j = ys.length := by omega
        have hbt : bb = true := by
          have h1 := HA.out.2
          rw [List.take_length] at h1
          rw [← HB.out]
          unfold buildB
          rw [HA.out.1, h1]; rfl
        subst hbt
        go_wp2_with fail
        go_ret
        exact ⟨rfl, C.out.1.1.dr.below⟩

end Go.Proofs.YtepnijocfilgoaaDoor
