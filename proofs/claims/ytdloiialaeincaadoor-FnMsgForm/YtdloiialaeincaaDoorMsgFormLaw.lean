/-
  The law on a word's form, walked: it returns true at every list of bytes, and nothing that was in memory is turned.
-/
import Derived.Test.YtdloiialaeincaaDoorMsgKindsLaw
namespace Go.Proofs.YtdloiialaeincaaDoor
open Go.RowKit

theorem form_ok {m n k f : Int} {xs : List Sl} (h : msgB m n k f xs = true) : ∀ s ∈ xs, s.ok = true := by
  have hm := kinds_range h
  obtain rfl | rfl | rfl | rfl | rfl | rfl : m = 1 ∨ m = 2 ∨ m = 3 ∨ m = 4 ∨ m = 5 ∨ m = 6 := by omega
  all_goals
    simp [msgB, slB] at h
    simpa using h.2.1

theorem form_len {m n k f : Int} {xs : List Sl} (h : msgB m n k f xs = true) : (xs.length : Int) = if m = 1 then 0 else if m = 6 then 1 else 2 := by
  have hm := kinds_range h
  obtain rfl | rfl | rfl | rfl | rfl | rfl : m = 1 ∨ m = 2 ∨ m = 3 ∨ m = 4 ∨ m = 5 ∨ m = 6 := by omega
  all_goals
    simp only [msgB, slB] at h
    simp at h
    simp [h]
    try omega

set_option maxHeartbeats 400000 in
theorem form_long (a1 : Option Addr) (n1 c1 : Nat) (w : World) (h : 1048576 < (n1 : Int)) :
    Calls Tryd.prog 4 #[.slice a1 n1 c1] w fun r w' => r = .returned (.bool true) ∧ Below w.heap.size w w' := by
  go_enter Tryd.func4, Tryd.ntmps4
  go_wp2
  go_ret
  exact ⟨rfl, Below.refl _ _⟩

set_option maxHeartbeats 4000000 in
set_option maxRecDepth 100000 in
theorem form_short (a1 : Option Addr) (n1 c1 : Nat) (w : World) (g1 : (n1 : Int) ≤ 1048576) (h1 : Code w a1 n1 c1) (hf : Forms w) :
    Calls Tryd.prog 4 #[.slice a1 n1 c1] w fun r w' => r = .returned (.bool true) ∧ Below w.heap.size w w' := by
  have HH : Hid (Code w a1 n1 c1 ∧ Forms w) := ⟨h1, hf⟩
  clear h1 hf
  go_enter Tryd.func4, Tryd.ntmps4
  go_wp2_with fail
  refine (drawMsgOk_any a1 n1 c1 w HH.out.1).mono ?_
  rintro r1 w1 ⟨⟨m, n, k, f, a, xs, cap, rfl, R1, x3, _, _⟩, b1⟩
  have hx : xs.length ≤ 2000000 := by omega
  have D1 : Hid (Wd w w1.heap.size (.cells #[.int .i64 m, .int .i64 n, .int .i64 k, .int .i64 f, .slice a xs.length cap] 29 (0, 0)) a xs (w1.alloc (.cells #[.int .i64 m, .int .i64 n, .int .i64 k, .int .i64 f, .slice a xs.length cap] 29))) := ⟨b1.alloc b1.size _, heap_alloc_new _ _, R1.later ((Below.refl _ _).alloc (Nat.le_refl _) _)⟩
  clear b1 R1
  go_wp2_with fail
  refine (implMsg_any m n k f a cap xs _ D1.out.row hx (HH.out.2.later D1.out.below)).mono ?_
  rintro r2 w2 ⟨rfl, b2⟩
  have D2 : Hid (Wd w w1.heap.size (.cells #[.int .i64 m, .int .i64 n, .int .i64 k, .int .i64 f, .slice a xs.length cap] 29 (0, 0)) a xs w2) := D1.out.next b2
  clear b2 D1
  obtain ⟨p0, p1, p2, p3, p4, pf, pl⟩ := cells5 D2.out.one
  go_wp2_with fail
  refine (specMsg_any m n k f a cap xs _ D2.out.row hx).mono ?_
  rintro r3 w3 ⟨rfl, b3⟩
  have D3 : Hid (Wd w w1.heap.size (.cells #[.int .i64 m, .int .i64 n, .int .i64 k, .int .i64 f, .slice a xs.length cap] 29 (0, 0)) a xs w3) := D2.out.next b3
  clear b3 D2 p0 p1 p2 p3 p4 pf pl
  obtain ⟨p0, p1, p2, p3, p4, pf, pl⟩ := cells5 D3.out.one
  cases hok : msgB m n k f xs
  · go_wp2_with fail
    refine (specMsg_any m n k f a cap xs _ D3.out.row hx).mono ?_
    rintro r4 w4 ⟨rfl, b4⟩
    rw [hok]
    have D4 : Hid (Below w.heap.size w w4) := (D3.out.next b4).below
    clear b4 D3 p0 p1 p2 p3 p4 pf pl
    go_wp2_with fail
    go_ret
    exact ⟨rfl, D4.out⟩
  · have hmr := kinds_range hok
    have HF : Hid (∀ s ∈ xs, s.ok = true) := form_ok hok
    obtain rfl | rfl | rfl | rfl | rfl | rfl : m = 1 ∨ m = 2 ∨ m = 3 ∨ m = 4 ∨ m = 5 ∨ m = 6 := by omega
    · have hle : (xs.length : Int) = 0 := form_len hok
      have HL : Hid (xs.length = 0) := (show xs.length = 0 by omega)
      clear hle
      simp [msgB, inB, slB] at hok
      obtain rfl : k = 0 := by omega
      have hn0 : (n == 0) = false := by rw [beq_eq_false_iff_ne]; omega
      have hf0 : (f == 0) = false := by rw [beq_eq_false_iff_ne]; omega
      have hf1 : (f != 0) = true := by simp [bne, hf0]
      clear hok
      have DQ : Hid (∀ o : Obj, Wd w w1.heap.size (.cells #[.int .i64 1, .int .i64 n, .int .i64 0, .int .i64 f, .slice a xs.length cap] 29 (0, 0)) a xs (w3.alloc o)) := fun o => D3.out.next ((Below.refl _ _).alloc (Nat.le_refl _) _)
      clear D3
      go_wp2_with fail
      go_loopw [6] (fun i wr => ∃ (j : Nat), j ≤ xs.length ∧ i = .int .i64 j ∧ Hid (Wd w w1.heap.size (.cells #[.int .i64 1, .int .i64 n, .int .i64 0, .int .i64 f, .slice a xs.length cap] 29 (0, 0)) a xs wr)) (fun i _ => xs.length - (intOf i).toNat)
      case atStart => exact ⟨0, Nat.zero_le _, rfl, DQ.out _⟩
      case round =>
        obtain ⟨j, hj, rfl, C⟩ := hrel
        obtain ⟨q0, q1, q2, q3, q4, qf, ql⟩ := cells5 C.out.one
        by_cases hlt : j < xs.length
        · obtain ⟨s, hs⟩ : ∃ s, xs[j]? = some s := ⟨xs[j], List.getElem?_eq_getElem hlt⟩
          have hso : okB s.k s.t s.a s.b s.c s.d s.e = true := HF.out s (List.mem_of_getElem? hs)
          have hrow := C.out.row
          rcases hrow with h | ⟨b, off, rfl, hl, h⟩
          · simp [h] at hlt
          obtain ⟨c0, c1', c2, c3, c4, c5, c6⟩ := h j s hs
          clear h
          go_wp2_with fail
          refine (implOk_any _ _ _ _ _ _ _ _).mono ?_
          rintro r5 w5 ⟨rfl, b5⟩
          rw [hso]
          have C5 := (show Hid _ from C.out.next b5)
          clear C b5 q0 q1 q2 q3 q4 qf ql c0 c1' c2 c3 c4 c5 c6 hso
          go_wp2_with fail
          go_roundw
          case rel => exact ⟨j + 1, by omega, by go_num, C5⟩
          case measure => simp [intOf]; omega
        · obtain rfl : j = xs.length := by omega
          have HB : Hid (Below w.heap.size w wr) := C.out.below
          have hl := HL.out
          have hli : (xs.length : Int) = 0 := by omega
          clear C
          go_wp2_with fail
          all_goals go_ret
          all_goals exact ⟨ret_bool (by simp_all), HB.out⟩
    · have hle : (xs.length : Int) = 2 := form_len hok
      have HL : Hid (xs.length = 2) := (show xs.length = 2 by omega)
      clear hle
      simp [msgB, inB, slB] at hok
      obtain rfl : k = 0 := by omega
      have hn0 : (n == 0) = false := by rw [beq_eq_false_iff_ne]; omega
      obtain rfl : f = 0 := by omega
      clear hok
      have DQ : Hid (∀ o : Obj, Wd w w1.heap.size (.cells #[.int .i64 2, .int .i64 n, .int .i64 0, .int .i64 0, .slice a xs.length cap] 29 (0, 0)) a xs (w3.alloc o)) := fun o => D3.out.next ((Below.refl _ _).alloc (Nat.le_refl _) _)
      clear D3
      go_wp2_with fail
      go_loopw [6] (fun i wr => ∃ (j : Nat), j ≤ xs.length ∧ i = .int .i64 j ∧ Hid (Wd w w1.heap.size (.cells #[.int .i64 2, .int .i64 n, .int .i64 0, .int .i64 0, .slice a xs.length cap] 29 (0, 0)) a xs wr)) (fun i _ => xs.length - (intOf i).toNat)
      case atStart => exact ⟨0, Nat.zero_le _, rfl, DQ.out _⟩
      case round =>
        obtain ⟨j, hj, rfl, C⟩ := hrel
        obtain ⟨q0, q1, q2, q3, q4, qf, ql⟩ := cells5 C.out.one
        by_cases hlt : j < xs.length
        · obtain ⟨s, hs⟩ : ∃ s, xs[j]? = some s := ⟨xs[j], List.getElem?_eq_getElem hlt⟩
          have hso : okB s.k s.t s.a s.b s.c s.d s.e = true := HF.out s (List.mem_of_getElem? hs)
          have hrow := C.out.row
          rcases hrow with h | ⟨b, off, rfl, hl, h⟩
          · simp [h] at hlt
          obtain ⟨c0, c1', c2, c3, c4, c5, c6⟩ := h j s hs
          clear h
          go_wp2_with fail
          refine (implOk_any _ _ _ _ _ _ _ _).mono ?_
          rintro r5 w5 ⟨rfl, b5⟩
          rw [hso]
          have C5 := (show Hid _ from C.out.next b5)
          clear C b5 q0 q1 q2 q3 q4 qf ql c0 c1' c2 c3 c4 c5 c6 hso
          go_wp2_with fail
          go_roundw
          case rel => exact ⟨j + 1, by omega, by go_num, C5⟩
          case measure => simp [intOf]; omega
        · obtain rfl : j = xs.length := by omega
          have HB : Hid (Below w.heap.size w wr) := C.out.below
          have hl := HL.out
          have hli : (xs.length : Int) = 2 := by omega
          clear C
          go_wp2_with fail
          all_goals go_ret
          all_goals exact ⟨ret_bool (by simp_all), HB.out⟩
    · have hle : (xs.length : Int) = 2 := form_len hok
      have HL : Hid (xs.length = 2) := (show xs.length = 2 by omega)
      clear hle
      simp [msgB, inB, slB] at hok
      obtain rfl : n = 0 := by omega
      have hk0 : (k == 0) = false := by rw [beq_eq_false_iff_ne]; omega
      have hf0 : (f == 0) = false := by rw [beq_eq_false_iff_ne]; omega
      have hf1 : (f != 0) = true := by simp [bne, hf0]
      clear hok
      have DQ : Hid (∀ o : Obj, Wd w w1.heap.size (.cells #[.int .i64 3, .int .i64 0, .int .i64 k, .int .i64 f, .slice a xs.length cap] 29 (0, 0)) a xs (w3.alloc o)) := fun o => D3.out.next ((Below.refl _ _).alloc (Nat.le_refl _) _)
      clear D3
      go_wp2_with fail
      go_loopw [6] (fun i wr => ∃ (j : Nat), j ≤ xs.length ∧ i = .int .i64 j ∧ Hid (Wd w w1.heap.size (.cells #[.int .i64 3, .int .i64 0, .int .i64 k, .int .i64 f, .slice a xs.length cap] 29 (0, 0)) a xs wr)) (fun i _ => xs.length - (intOf i).toNat)
      case atStart => exact ⟨0, Nat.zero_le _, rfl, DQ.out _⟩
      case round =>
        obtain ⟨j, hj, rfl, C⟩ := hrel
        obtain ⟨q0, q1, q2, q3, q4, qf, ql⟩ := cells5 C.out.one
        by_cases hlt : j < xs.length
        · obtain ⟨s, hs⟩ : ∃ s, xs[j]? = some s := ⟨xs[j], List.getElem?_eq_getElem hlt⟩
          have hso : okB s.k s.t s.a s.b s.c s.d s.e = true := HF.out s (List.mem_of_getElem? hs)
          have hrow := C.out.row
          rcases hrow with h | ⟨b, off, rfl, hl, h⟩
          · simp [h] at hlt
          obtain ⟨c0, c1', c2, c3, c4, c5, c6⟩ := h j s hs
          clear h
          go_wp2_with fail
          refine (implOk_any _ _ _ _ _ _ _ _).mono ?_
          rintro r5 w5 ⟨rfl, b5⟩
          rw [hso]
          have C5 := (show Hid _ from C.out.next b5)
          clear C b5 q0 q1 q2 q3 q4 qf ql c0 c1' c2 c3 c4 c5 c6 hso
          go_wp2_with fail
          go_roundw
          case rel => exact ⟨j + 1, by omega, by go_num, C5⟩
          case measure => simp [intOf]; omega
        · obtain rfl : j = xs.length := by omega
          have HB : Hid (Below w.heap.size w wr) := C.out.below
          have hl := HL.out
          have hli : (xs.length : Int) = 2 := by omega
          clear C
          go_wp2_with fail
          all_goals go_ret
          all_goals exact ⟨ret_bool (by simp_all), HB.out⟩
    · have hle : (xs.length : Int) = 2 := form_len hok
      have HL : Hid (xs.length = 2) := (show xs.length = 2 by omega)
      clear hle
      simp [msgB, inB, slB] at hok
      obtain rfl : k = 0 := by omega
      have hn0 : (n == 0) = false := by rw [beq_eq_false_iff_ne]; omega
      obtain rfl : f = 0 := by omega
      clear hok
      have DQ : Hid (∀ o : Obj, Wd w w1.heap.size (.cells #[.int .i64 4, .int .i64 n, .int .i64 0, .int .i64 0, .slice a xs.length cap] 29 (0, 0)) a xs (w3.alloc o)) := fun o => D3.out.next ((Below.refl _ _).alloc (Nat.le_refl _) _)
      clear D3
      go_wp2_with fail
      go_loopw [6] (fun i wr => ∃ (j : Nat), j ≤ xs.length ∧ i = .int .i64 j ∧ Hid (Wd w w1.heap.size (.cells #[.int .i64 4, .int .i64 n, .int .i64 0, .int .i64 0, .slice a xs.length cap] 29 (0, 0)) a xs wr)) (fun i _ => xs.length - (intOf i).toNat)
      case atStart => exact ⟨0, Nat.zero_le _, rfl, DQ.out _⟩
      case round =>
        obtain ⟨j, hj, rfl, C⟩ := hrel
        obtain ⟨q0, q1, q2, q3, q4, qf, ql⟩ := cells5 C.out.one
        by_cases hlt : j < xs.length
        · obtain ⟨s, hs⟩ : ∃ s, xs[j]? = some s := ⟨xs[j], List.getElem?_eq_getElem hlt⟩
          have hso : okB s.k s.t s.a s.b s.c s.d s.e = true := HF.out s (List.mem_of_getElem? hs)
          have hrow := C.out.row
          rcases hrow with h | ⟨b, off, rfl, hl, h⟩
          · simp [h] at hlt
          obtain ⟨c0, c1', c2, c3, c4, c5, c6⟩ := h j s hs
          clear h
          go_wp2_with fail
          refine (implOk_any _ _ _ _ _ _ _ _).mono ?_
          rintro r5 w5 ⟨rfl, b5⟩
          rw [hso]
          have C5 := (show Hid _ from C.out.next b5)
          clear C b5 q0 q1 q2 q3 q4 qf ql c0 c1' c2 c3 c4 c5 c6 hso
          go_wp2_with fail
          go_roundw
          case rel => exact ⟨j + 1, by omega, by go_num, C5⟩
          case measure => simp [intOf]; omega
        · obtain rfl : j = xs.length := by omega
          have HB : Hid (Below w.heap.size w wr) := C.out.below
          have hl := HL.out
          have hli : (xs.length : Int) = 2 := by omega
          clear C
          go_wp2_with fail
          all_goals go_ret
          all_goals exact ⟨ret_bool (by simp_all), HB.out⟩
    · have hle : (xs.length : Int) = 2 := form_len hok
      have HL : Hid (xs.length = 2) := (show xs.length = 2 by omega)
      clear hle
      simp [msgB, inB, slB] at hok
      obtain rfl : n = 0 := by omega
      have hk0 : (k == 0) = false := by rw [beq_eq_false_iff_ne]; omega
      obtain rfl : f = 0 := by omega
      clear hok
      have DQ : Hid (∀ o : Obj, Wd w w1.heap.size (.cells #[.int .i64 5, .int .i64 0, .int .i64 k, .int .i64 0, .slice a xs.length cap] 29 (0, 0)) a xs (w3.alloc o)) := fun o => D3.out.next ((Below.refl _ _).alloc (Nat.le_refl _) _)
      clear D3
      go_wp2_with fail
      go_loopw [6] (fun i wr => ∃ (j : Nat), j ≤ xs.length ∧ i = .int .i64 j ∧ Hid (Wd w w1.heap.size (.cells #[.int .i64 5, .int .i64 0, .int .i64 k, .int .i64 0, .slice a xs.length cap] 29 (0, 0)) a xs wr)) (fun i _ => xs.length - (intOf i).toNat)
      case atStart => exact ⟨0, Nat.zero_le _, rfl, DQ.out _⟩
      case round =>
        obtain ⟨j, hj, rfl, C⟩ := hrel
        obtain ⟨q0, q1, q2, q3, q4, qf, ql⟩ := cells5 C.out.one
        by_cases hlt : j < xs.length
        · obtain ⟨s, hs⟩ : ∃ s, xs[j]? = some s := ⟨xs[j], List.getElem?_eq_getElem hlt⟩
          have hso : okB s.k s.t s.a s.b s.c s.d s.e = true := HF.out s (List.mem_of_getElem? hs)
          have hrow := C.out.row
          rcases hrow with h | ⟨b, off, rfl, hl, h⟩
          · simp [h] at hlt
          obtain ⟨c0, c1', c2, c3, c4, c5, c6⟩ := h j s hs
          clear h
          go_wp2_with fail
          refine (implOk_any _ _ _ _ _ _ _ _).mono ?_
          rintro r5 w5 ⟨rfl, b5⟩
          rw [hso]
          have C5 := (show Hid _ from C.out.next b5)
          clear C b5 q0 q1 q2 q3 q4 qf ql c0 c1' c2 c3 c4 c5 c6 hso
          go_wp2_with fail
          go_roundw
          case rel => exact ⟨j + 1, by omega, by go_num, C5⟩
          case measure => simp [intOf]; omega
        · obtain rfl : j = xs.length := by omega
          have HB : Hid (Below w.heap.size w wr) := C.out.below
          have hl := HL.out
          have hli : (xs.length : Int) = 2 := by omega
          clear C
          go_wp2_with fail
          all_goals go_ret
          all_goals exact ⟨ret_bool (by simp_all), HB.out⟩
    · have hle : (xs.length : Int) = 1 := form_len hok
      have HL : Hid (xs.length = 1) := (show xs.length = 1 by omega)
      clear hle
      simp [msgB, inB, slB] at hok
      obtain rfl : k = 0 := by omega
      have hn0 : (n == 0) = false := by rw [beq_eq_false_iff_ne]; omega
      obtain rfl : f = 0 := by omega
      clear hok
      have DQ : Hid (∀ o : Obj, Wd w w1.heap.size (.cells #[.int .i64 6, .int .i64 n, .int .i64 0, .int .i64 0, .slice a xs.length cap] 29 (0, 0)) a xs (w3.alloc o)) := fun o => D3.out.next ((Below.refl _ _).alloc (Nat.le_refl _) _)
      clear D3
      go_wp2_with fail
      go_loopw [6] (fun i wr => ∃ (j : Nat), j ≤ xs.length ∧ i = .int .i64 j ∧ Hid (Wd w w1.heap.size (.cells #[.int .i64 6, .int .i64 n, .int .i64 0, .int .i64 0, .slice a xs.length cap] 29 (0, 0)) a xs wr)) (fun i _ => xs.length - (intOf i).toNat)
      case atStart => exact ⟨0, Nat.zero_le _, rfl, DQ.out _⟩
      case round =>
        obtain ⟨j, hj, rfl, C⟩ := hrel
        obtain ⟨q0, q1, q2, q3, q4, qf, ql⟩ := cells5 C.out.one
        by_cases hlt : j < xs.length
        · obtain ⟨s, hs⟩ : ∃ s, xs[j]? = some s := ⟨xs[j], List.getElem?_eq_getElem hlt⟩
          have hso : okB s.k s.t s.a s.b s.c s.d s.e = true := HF.out s (List.mem_of_getElem? hs)
          have hrow := C.out.row
          rcases hrow with h | ⟨b, off, rfl, hl, h⟩
          · simp [h] at hlt
          obtain ⟨c0, c1', c2, c3, c4, c5, c6⟩ := h j s hs
          clear h
          go_wp2_with fail
          refine (implOk_any _ _ _ _ _ _ _ _).mono ?_
          rintro r5 w5 ⟨rfl, b5⟩
          rw [hso]
          have C5 := (show Hid _ from C.out.next b5)
          clear C b5 q0 q1 q2 q3 q4 qf ql c0 c1' c2 c3 c4 c5 c6 hso
          go_wp2_with fail
          go_roundw
          case rel => exact ⟨j + 1, by omega, by go_num, C5⟩
          case measure => simp [intOf]; omega
        · obtain rfl : j = xs.length := by omega
          have HB : Hid (Below w.heap.size w wr) := C.out.below
          have hl := HL.out
          have hli : (xs.length : Int) = 1 := by omega
          clear C
          go_wp2_with fail
          all_goals go_ret
          all_goals exact ⟨ret_bool (by simp_all), HB.out⟩
end Go.Proofs.YtdloiialaeincaaDoor
