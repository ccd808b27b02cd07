/-
  The program's looks at what a user waits for, and whom he called: as the plain mathematics says; nothing that was in memory is turned.
-/
import Derived.Test.YthhdddcgkoaieaaClOkMath
namespace Go.Proofs.Ythhdddcgkoaieaa
open Go.RowKit
attribute [local go_sem ↓] Go.wp_at_zero Go.wp_at_succ

set_option maxHeartbeats 2000000 in
set_option maxRecDepth 100000 in
theorem areWants_any (a : Option Addr) (cap : Nat) (xs : List Wn) (num : Int) (w : World) (h : NRow celW w a xs) (hx : xs.length ≤ 9223372036854775807) :
    Calls Try.prog 61 #[.slice a xs.length cap, .int .i64 num] w fun r w' => r = .returned (.bool (okWs num 0 xs)) ∧ Below w.heap.size w w' := by
  go_enter Try.func61, Try.ntmps61
  go_wp2_with fail
  go_loopw [5, 10] (fun l i wr => ∃ (j : Nat) (last : Int), j ≤ xs.length ∧ i = .int .i64 j ∧ l = .int .i64 last ∧ Hid (Below w.heap.size w wr ∧ okWs num 0 xs = okWs num last (xs.drop j))) (fun _ i _ => xs.length - (intOf i).toNat)
  case atStart => exact ⟨0, 0, Nat.zero_le _, rfl, rfl, Below.refl _ _, by rw [List.drop_zero]⟩
  case round =>
    obtain ⟨j, last, hj, rfl, rfl, C⟩ := hrel
    by_cases hlt : j < xs.length
    · obtain ⟨x, hs⟩ : ∃ x, xs[j]? = some x := ⟨xs[j], List.getElem?_eq_getElem hlt⟩
      rcases h with h | ⟨b, off, rfl, hl, h⟩
      · simp [h] at hlt
      obtain ⟨c0, c1⟩ := celW.at ((h j x hs).later C.out.1 hl)
      simp only [show celW.n = 2 from rfl] at c0 c1
      have E : Hid (okWs num 0 xs = (inB x.s 4 6 && decide (last < x.n) && decide (x.n ≤ num) && okWs num x.n (xs.drop (j + 1)))) := by have e := C.out.2; rw [drop_at hs] at e; exact e
      have B : Hid (Below w.heap.size w (wr.alloc (.cells #[.int .i64 x.s, .int .i64 x.n] 55))) := C.out.1.alloc C.out.1.size _
      clear h C hs
      go_wp2_with fail
      clear c0 c1
      refine (isPeer_any _ _).mono ?_
      rintro r w2 ⟨rfl, rfl⟩
      cases t0 : inB x.s 4 6
      · have E3 : Hid (okWs num 0 xs = false) := Hid.mk' (by rw [E.out]; simp [t0])
        clear E
        go_wp2_with fail
        go_ret
        exact ⟨ret_bool E3.out.symm, B.out⟩
      · skip
        by_cases h1 : last < x.n
        · skip
          by_cases h2 : x.n ≤ num
          · skip
            have E2 : Hid (okWs num 0 xs = okWs num x.n (xs.drop (j + 1))) := Hid.mk' (by rw [E.out]; simp [t0, h1, h2])
            clear E
            go_wp2_with fail
            go_roundw
            case rel => exact ⟨j + 1, x.n, by omega, by go_num, rfl, B.out, E2.out⟩
            case measure => simp [intOf]; omega
          · have E3 : Hid (okWs num 0 xs = false) := Hid.mk' (by rw [E.out]; simp [t0, h1, h2])
            clear E
            go_wp2_with fail
            go_ret
            exact ⟨ret_bool E3.out.symm, B.out⟩
        · have E3 : Hid (okWs num 0 xs = false) := Hid.mk' (by rw [E.out]; simp [t0, h1])
          clear E
          go_wp2_with fail
          go_ret
          exact ⟨ret_bool E3.out.symm, B.out⟩
    · obtain rfl : j = xs.length := by omega
      have E : Hid (okWs num 0 xs = true) := by have e := C.out.2; rw [List.drop_length] at e; exact e
      clear h
      go_wp2_with fail
      go_ret
      exact ⟨ret_bool E.out.symm, C.out.1⟩

set_option maxHeartbeats 2000000 in
set_option maxRecDepth 100000 in
theorem areSent_any (a : Option Addr) (cap : Nat) (xs : List Ca) (num : Int) (w : World) (h : NRow celC w a xs) (hx : xs.length ≤ 9223372036854775807) :
    Calls Try.prog 63 #[.slice a xs.length cap, .int .i64 num] w fun r w' => r = .returned (.bool (okSs num 0 xs)) ∧ Below w.heap.size w w' := by
  go_enter Try.func63, Try.ntmps63
  go_wp2_with fail
  go_loopw [5, 10] (fun l i wr => ∃ (j : Nat) (last : Int), j ≤ xs.length ∧ i = .int .i64 j ∧ l = .int .i64 last ∧ Hid (Below w.heap.size w wr ∧ okSs num 0 xs = okSs num last (xs.drop j))) (fun _ i _ => xs.length - (intOf i).toNat)
  case atStart => exact ⟨0, 0, Nat.zero_le _, rfl, rfl, Below.refl _ _, by rw [List.drop_zero]⟩
  case round =>
    obtain ⟨j, last, hj, rfl, rfl, C⟩ := hrel
    by_cases hlt : j < xs.length
    · obtain ⟨x, hs⟩ : ∃ x, xs[j]? = some x := ⟨xs[j], List.getElem?_eq_getElem hlt⟩
      rcases h with h | ⟨b, off, rfl, hl, h⟩
      · simp [h] at hlt
      obtain ⟨c0, c1, c2, c3⟩ := celC.at ((h j x hs).later C.out.1 hl)
      simp only [show celC.n = 4 from rfl] at c0 c1 c2 c3
      have E : Hid (okSs num 0 xs = (inB x.p 4 5 && inB x.k 10 60 && inB x.t 0 100 && decide (last < x.n) && decide (x.n ≤ num) && okSs num x.n (xs.drop (j + 1)))) := by have e := C.out.2; rw [drop_at hs] at e; exact e
      have B : Hid (Below w.heap.size w (wr.alloc (.cells #[.int .i64 x.p, .int .i64 x.k, .int .i64 x.t, .int .i64 x.n] 73))) := C.out.1.alloc C.out.1.size _
      clear h C hs
      go_wp2_with fail
      clear c0 c1 c2 c3
      refine (isServ_any _ _).mono ?_
      rintro r w2 ⟨rfl, rfl⟩
      cases t0 : inB x.p 4 5
      · have E3 : Hid (okSs num 0 xs = false) := Hid.mk' (by rw [E.out]; simp [t0])
        clear E
        go_wp2_with fail
        go_ret
        exact ⟨ret_bool E3.out.symm, B.out⟩
      · skip
        go_wp2_with fail
        refine (isMadeKey_any _ _).mono ?_
        rintro r w3 ⟨rfl, rfl⟩
        cases t1 : inB x.k 10 60
        · have E3 : Hid (okSs num 0 xs = false) := Hid.mk' (by rw [E.out]; simp [t0, t1])
          clear E
          go_wp2_with fail
          go_ret
          exact ⟨ret_bool E3.out.symm, B.out⟩
        · skip
          go_wp2_with fail
          refine (isTime_any _ _).mono ?_
          rintro r w4 ⟨rfl, rfl⟩
          cases t2 : inB x.t 0 100
          · have E3 : Hid (okSs num 0 xs = false) := Hid.mk' (by rw [E.out]; simp [t0, t1, t2])
            clear E
            go_wp2_with fail
            go_ret
            exact ⟨ret_bool E3.out.symm, B.out⟩
          · skip
            by_cases h1 : last < x.n
            · skip
              by_cases h2 : x.n ≤ num
              · skip
                have E2 : Hid (okSs num 0 xs = okSs num x.n (xs.drop (j + 1))) := Hid.mk' (by rw [E.out]; simp [t0, t1, t2, h1, h2])
                clear E
                go_wp2_with fail
                go_roundw
                case rel => exact ⟨j + 1, x.n, by omega, by go_num, rfl, B.out, E2.out⟩
                case measure => simp [intOf]; omega
              · have E3 : Hid (okSs num 0 xs = false) := Hid.mk' (by rw [E.out]; simp [t0, t1, t2, h1, h2])
                clear E
                go_wp2_with fail
                go_ret
                exact ⟨ret_bool E3.out.symm, B.out⟩
            · have E3 : Hid (okSs num 0 xs = false) := Hid.mk' (by rw [E.out]; simp [t0, t1, t2, h1])
              clear E
              go_wp2_with fail
              go_ret
              exact ⟨ret_bool E3.out.symm, B.out⟩
    · obtain rfl : j = xs.length := by omega
      have E : Hid (okSs num 0 xs = true) := by have e := C.out.2; rw [List.drop_length] at e; exact e
      clear h
      go_wp2_with fail
      go_ret
      exact ⟨ret_bool E.out.symm, C.out.1⟩

end Go.Proofs.Ythhdddcgkoaieaa
