/-
  The law that what is out of range is in no seal, walked: it returns true at whatever list of bytes, and nothing that was in memory is turned.
-/
import Derived.Test.YthekgdenplcnoaaDoorDrawOk
import Derived.Test.YthekgdenplcnoaaDoorBlocks
import Derived.Test.YthekgdenplcnoaaDoorSealCases
import Derived.Test.YthekgdenplcnoaaDoorSealHold
import Derived.Test.YthekgdenplcnoaaDoorTextAny
namespace Go.Proofs.YthekgdenplcnoaaDoor
open Go.RowKit

/-- Three seals, each in a block of its own. -/
structure Trio (W : World) (B : Nat) (o1 o2 o3 : Obj) (w : World) : Prop where
  below : Below W.heap.size W w
  one : w.heap[B]? = some o1
  two : w.heap[B + 1]? = some o2
  three : w.heap[B + 1 + 1]? = some o3
theorem Trio.next {W : World} {B : Nat} {o1 o2 o3 : Obj} {w w' : World} (h : Trio W B o1 o2 o3 w) (hb : Below w.heap.size w w') : Trio W B o1 o2 o3 w' :=
  ⟨h.below.trans (hb.mono h.below.size), (hb.block _ (Array.getElem?_eq_some_iff.1 h.one).1).trans h.one, (hb.block _ (Array.getElem?_eq_some_iff.1 h.two).1).trans h.two, (hb.block _ (Array.getElem?_eq_some_iff.1 h.three).1).trans h.three⟩
theorem Trio.start {W w : World} {o1 o2 o3 : Obj} (h : Below W.heap.size W w) : Trio W w.heap.size o1 o2 o3 (((w.alloc o1).alloc o2).alloc o3) := by
  have s1 : (w.alloc o1).heap.size = w.heap.size + 1 := by simp
  have s2 : ((w.alloc o1).alloc o2).heap.size = w.heap.size + 1 + 1 := by simp
  have hs := h.size
  have e2 := heap_alloc_new (w.alloc o1) o2
  have e3 := heap_alloc_new ((w.alloc o1).alloc o2) o3
  rw [s1] at e2
  rw [s2] at e3
  refine ⟨((h.alloc hs o1).alloc (by omega) o2).alloc (by omega) o3, ?_, ?_, e3⟩
  · rw [Below.heap_alloc _ _ _ (by omega), Below.heap_alloc _ _ _ (by omega)]; exact heap_alloc_new w o1
  · rw [Below.heap_alloc _ _ _ (by omega)]; exact e2
theorem tab_on {w w' : World} (h : Lib.TabIs Tryd.prog w "internal/strconv.uint64pow10" .u64 Lib.pow10Tab) (hb : Below w.heap.size w w') : Lib.TabIs Tryd.prog w' "internal/strconv.uint64pow10" .u64 Lib.pow10Tab := Joins.tab_stays gPow h hb (Nat.le_refl _)

set_option maxHeartbeats 400000 in
theorem range_long (a1 : Option Addr) (n1 c1 : Nat) (w : World) (h : 1048576 < (n1 : Int)) :
    Calls Tryd.prog 5 #[.slice a1 n1 c1] w fun r w' => r = .returned (.bool true) ∧ Below w.heap.size w w' := by
  go_enter Tryd.func5, Tryd.ntmps5
  go_wp2
  go_ret
  exact ⟨rfl, Below.refl _ _⟩

set_option maxHeartbeats 1000000 in
set_option maxRecDepth 100000 in
theorem range_short (a1 : Option Addr) (n1 c1 : Nat) (w : World) (g1 : (n1 : Int) ≤ 1048576) (h1 : Code w a1 n1 c1) (htab : Lib.TabIs Tryd.prog w "internal/strconv.uint64pow10" .u64 Lib.pow10Tab) :
    Calls Tryd.prog 5 #[.slice a1 n1 c1] w fun r w' => r = .returned (.bool true) ∧ Below w.heap.size w w' := by
  have HH : Hid (Code w a1 n1 c1 ∧ Lib.TabIs Tryd.prog w "internal/strconv.uint64pow10" .u64 Lib.pow10Tab) := ⟨h1, htab⟩
  clear h1 htab
  go_enter Tryd.func5, Tryd.ntmps5
  go_wp2_with fail
  refine (drawSealOk_any a1 n1 c1 w HH.out.1).mono ?_
  rintro r1 w1 ⟨⟨k, t, a, b, c, d, e, rfl⟩, b1⟩
  have D1 : Hid (Ones w w1.heap.size (.cells #[.int .i64 k, .int .i64 t, .int .i64 a, .int .i64 b, .int .i64 c, .int .i64 d, .int .i64 e] 24 (0, 0)) (w1.alloc (.cells #[.int .i64 k, .int .i64 t, .int .i64 a, .int .i64 b, .int .i64 c, .int .i64 d, .int .i64 e] 24))) := ⟨b1.alloc b1.size _, heap_alloc_new w1 _⟩
  clear b1
  go_wp2_with fail
  refine (implOk_any _ _ _ _ _ _ _ _).mono ?_
  rintro r2 w2 ⟨rfl, b2⟩
  have D2 : Hid (Ones w w1.heap.size (.cells #[.int .i64 k, .int .i64 t, .int .i64 a, .int .i64 b, .int .i64 c, .int .i64 d, .int .i64 e] 24 (0, 0)) w2) := D1.out.next b2
  clear b2 D1
  obtain ⟨p0, p1, p2, p3, p4, p5, p6, pf⟩ := cells7 D2.out.one
  go_wp2_with fail
  refine (specOk_any _ _ _ _ _ _ _ _).mono ?_
  rintro r3 w3 ⟨rfl, b3⟩
  have D3 : Hid (Ones w w1.heap.size (.cells #[.int .i64 k, .int .i64 t, .int .i64 a, .int .i64 b, .int .i64 c, .int .i64 d, .int .i64 e] 24 (0, 0)) w3) := D2.out.next b3
  clear b3 D2 p0 p1 p2 p3 p4 p5 p6 pf
  obtain ⟨p0, p1, p2, p3, p4, p5, p6, pf⟩ := cells7 D3.out.one
  cases ok : okB k t a b c d e
  · go_wp2_with fail
    refine (specOk_any _ _ _ _ _ _ _ _).mono ?_
    rintro r4 w4 ⟨rfl, b4⟩
    have D4 : Hid (Below w.heap.size w w4) := (D3.out.next b4).below
    rw [ok]
    clear b4 p0 p1 p2 p3 p4 p5 p6 pf D3 ok
    go_wp2_with fail
    go_ret
    exact ⟨rfl, D4.out⟩
  · have hlt : w1.heap.size < w3.heap.size := (Array.getElem?_eq_some_iff.1 D3.out.one).1
    rcases ok_cases ok with ⟨rfl, rfl, x0, x1, x2, x3, x4, x5, x6, x7, x8, x9⟩ | ⟨rfl, x0, x1, x2, x3, x4, x5, x6, x7, x8, rfl⟩ | ⟨rfl, x0, x1, x2, x3, x4, x5, x6, x7, rfl, rfl⟩ | ⟨rfl, x0, x1, x2, x3, x4, x5, rfl, rfl, rfl⟩
    -- CASES
    · have fx : okB k 1 a k c d 101 = false := by
        cases h : okB k 1 a k c d 101
        · rfl
        · rw [ok_iff1] at h; omega
      have fy : okB k 1 4 k c d e = false := by
        cases h : okB k 1 4 k c d e
        · rfl
        · rw [ok_iff1] at h; omega
      have fz : okB k 0 a k c d e = false := by simp [okB]
      have tx : textB k 1 a k c d 101 = ⟨#[]⟩ := by simp [textB, fx]
      have hy : (if okB k 1 4 k c d e then holdsI 1 k c else 0) = (0 : Int) := by simp [fy]
      have T3 : Hid (Trio w w3.heap.size (.cells #[.int .i64 k, .int .i64 1, .int .i64 a, .int .i64 k, .int .i64 c, .int .i64 d, .int .i64 101] 24 (0, 0)) (.cells #[.int .i64 k, .int .i64 1, .int .i64 4, .int .i64 k, .int .i64 c, .int .i64 d, .int .i64 e] 24 (0, 0)) (.cells #[.int .i64 k, .int .i64 0, .int .i64 a, .int .i64 k, .int .i64 c, .int .i64 d, .int .i64 e] 24 (0, 0)) (((w3.alloc (.cells #[.int .i64 k, .int .i64 1, .int .i64 a, .int .i64 k, .int .i64 c, .int .i64 d, .int .i64 101] 24)).alloc (.cells #[.int .i64 k, .int .i64 1, .int .i64 4, .int .i64 k, .int .i64 c, .int .i64 d, .int .i64 e] 24)).alloc (.cells #[.int .i64 k, .int .i64 0, .int .i64 a, .int .i64 k, .int .i64 c, .int .i64 d, .int .i64 e] 24))) := Trio.start D3.out.below
      go_wp2_with fail
      refine (implOk_any _ _ _ _ _ _ _ _).mono ?_
      rintro r4 w4 ⟨rfl, b4⟩
      have T4 : Hid (Trio w w3.heap.size (.cells #[.int .i64 k, .int .i64 1, .int .i64 a, .int .i64 k, .int .i64 c, .int .i64 d, .int .i64 101] 24 (0, 0)) (.cells #[.int .i64 k, .int .i64 1, .int .i64 4, .int .i64 k, .int .i64 c, .int .i64 d, .int .i64 e] 24 (0, 0)) (.cells #[.int .i64 k, .int .i64 0, .int .i64 a, .int .i64 k, .int .i64 c, .int .i64 d, .int .i64 e] 24 (0, 0)) w4) := T3.out.next b4
      rw [fx]
      clear b4 T3 D3 ok p0 p1 p2 p3 p4 p5 p6 pf
      obtain ⟨u0, u1, u2, u3, u4, u5, u6, uf⟩ := cells7 T4.out.two
      go_wp2_with fail
      refine (implOk_any _ _ _ _ _ _ _ _).mono ?_
      rintro r5 w5 ⟨rfl, b5⟩
      have T5 : Hid (Trio w w3.heap.size (.cells #[.int .i64 k, .int .i64 1, .int .i64 a, .int .i64 k, .int .i64 c, .int .i64 d, .int .i64 101] 24 (0, 0)) (.cells #[.int .i64 k, .int .i64 1, .int .i64 4, .int .i64 k, .int .i64 c, .int .i64 d, .int .i64 e] 24 (0, 0)) (.cells #[.int .i64 k, .int .i64 0, .int .i64 a, .int .i64 k, .int .i64 c, .int .i64 d, .int .i64 e] 24 (0, 0)) w5) := T4.out.next b5
      rw [fy]
      clear b5 T4 u0 u1 u2 u3 u4 u5 u6 uf
      obtain ⟨u0, u1, u2, u3, u4, u5, u6, uf⟩ := cells7 T5.out.three
      go_wp2_with fail
      refine (implOk_any _ _ _ _ _ _ _ _).mono ?_
      rintro r6 w6 ⟨rfl, b6⟩
      have T6 : Hid (Trio w w3.heap.size (.cells #[.int .i64 k, .int .i64 1, .int .i64 a, .int .i64 k, .int .i64 c, .int .i64 d, .int .i64 101] 24 (0, 0)) (.cells #[.int .i64 k, .int .i64 1, .int .i64 4, .int .i64 k, .int .i64 c, .int .i64 d, .int .i64 e] 24 (0, 0)) (.cells #[.int .i64 k, .int .i64 0, .int .i64 a, .int .i64 k, .int .i64 c, .int .i64 d, .int .i64 e] 24 (0, 0)) w6) := T5.out.next b6
      rw [fz]
      clear b6 T5 u0 u1 u2 u3 u4 u5 u6 uf
      obtain ⟨u0, u1, u2, u3, u4, u5, u6, uf⟩ := cells7 T6.out.one
      go_wp2_with fail
      refine (implText_any _ _ _ _ _ _ _ _ (tab_on HH.out.2 T6.out.below)).mono ?_
      rintro r7 w7 ⟨rfl, b7⟩
      have T7 : Hid (Trio w w3.heap.size (.cells #[.int .i64 k, .int .i64 1, .int .i64 a, .int .i64 k, .int .i64 c, .int .i64 d, .int .i64 101] 24 (0, 0)) (.cells #[.int .i64 k, .int .i64 1, .int .i64 4, .int .i64 k, .int .i64 c, .int .i64 d, .int .i64 e] 24 (0, 0)) (.cells #[.int .i64 k, .int .i64 0, .int .i64 a, .int .i64 k, .int .i64 c, .int .i64 d, .int .i64 e] 24 (0, 0)) w7) := T6.out.next b7
      rw [tx]
      clear b7 T6 u0 u1 u2 u3 u4 u5 u6 uf
      obtain ⟨u0, u1, u2, u3, u4, u5, u6, uf⟩ := cells7 T7.out.two
      go_wp2_with fail
      refine (implHolds_any _ _ _ _ _ _ _ _).mono ?_
      rintro r8 w8 ⟨rfl, b8⟩
      have T8 : Hid (Trio w w3.heap.size (.cells #[.int .i64 k, .int .i64 1, .int .i64 a, .int .i64 k, .int .i64 c, .int .i64 d, .int .i64 101] 24 (0, 0)) (.cells #[.int .i64 k, .int .i64 1, .int .i64 4, .int .i64 k, .int .i64 c, .int .i64 d, .int .i64 e] 24 (0, 0)) (.cells #[.int .i64 k, .int .i64 0, .int .i64 a, .int .i64 k, .int .i64 c, .int .i64 d, .int .i64 e] 24 (0, 0)) w8) := T7.out.next b8
      rw [hy]
      clear b8 T7 u0 u1 u2 u3 u4 u5 u6 uf
      go_wp2_with fail
      go_ret
      exact ⟨ret_bool (by simp), T8.out.below⟩
    · have fx : okB k 2 a b c 101 0 = false := by
        cases h : okB k 2 a b c 101 0
        · rfl
        · rw [ok_iff2] at h; omega
      have fy : okB k 2 a b 61 d 0 = false := by
        cases h : okB k 2 a b 61 d 0
        · rfl
        · rw [ok_iff2] at h; omega
      have fz : okB k 0 a b c d 0 = false := by simp [okB]
      have tx : textB k 2 a b c 101 0 = ⟨#[]⟩ := by simp [textB, fx]
      have hy : (if okB k 2 a b 61 d 0 then holdsI 2 b 61 else 0) = (0 : Int) := by simp [fy]
      have T3 : Hid (Trio w w3.heap.size (.cells #[.int .i64 k, .int .i64 2, .int .i64 a, .int .i64 b, .int .i64 c, .int .i64 101, .int .i64 0] 24 (0, 0)) (.cells #[.int .i64 k, .int .i64 2, .int .i64 a, .int .i64 b, .int .i64 61, .int .i64 d, .int .i64 0] 24 (0, 0)) (.cells #[.int .i64 k, .int .i64 0, .int .i64 a, .int .i64 b, .int .i64 c, .int .i64 d, .int .i64 0] 24 (0, 0)) (((w3.alloc (.cells #[.int .i64 k, .int .i64 2, .int .i64 a, .int .i64 b, .int .i64 c, .int .i64 101, .int .i64 0] 24)).alloc (.cells #[.int .i64 k, .int .i64 2, .int .i64 a, .int .i64 b, .int .i64 61, .int .i64 d, .int .i64 0] 24)).alloc (.cells #[.int .i64 k, .int .i64 0, .int .i64 a, .int .i64 b, .int .i64 c, .int .i64 d, .int .i64 0] 24))) := Trio.start D3.out.below
      go_wp2_with fail
      refine (implOk_any _ _ _ _ _ _ _ _).mono ?_
      rintro r4 w4 ⟨rfl, b4⟩
      have T4 : Hid (Trio w w3.heap.size (.cells #[.int .i64 k, .int .i64 2, .int .i64 a, .int .i64 b, .int .i64 c, .int .i64 101, .int .i64 0] 24 (0, 0)) (.cells #[.int .i64 k, .int .i64 2, .int .i64 a, .int .i64 b, .int .i64 61, .int .i64 d, .int .i64 0] 24 (0, 0)) (.cells #[.int .i64 k, .int .i64 0, .int .i64 a, .int .i64 b, .int .i64 c, .int .i64 d, .int .i64 0] 24 (0, 0)) w4) := T3.out.next b4
      rw [fx]
      clear b4 T3 D3 ok p0 p1 p2 p3 p4 p5 p6 pf
      obtain ⟨u0, u1, u2, u3, u4, u5, u6, uf⟩ := cells7 T4.out.two
      go_wp2_with fail
      refine (implOk_any _ _ _ _ _ _ _ _).mono ?_
      rintro r5 w5 ⟨rfl, b5⟩
      have T5 : Hid (Trio w w3.heap.size (.cells #[.int .i64 k, .int .i64 2, .int .i64 a, .int .i64 b, .int .i64 c, .int .i64 101, .int .i64 0] 24 (0, 0)) (.cells #[.int .i64 k, .int .i64 2, .int .i64 a, .int .i64 b, .int .i64 61, .int .i64 d, .int .i64 0] 24 (0, 0)) (.cells #[.int .i64 k, .int .i64 0, .int .i64 a, .int .i64 b, .int .i64 c, .int .i64 d, .int .i64 0] 24 (0, 0)) w5) := T4.out.next b5
      rw [fy]
      clear b5 T4 u0 u1 u2 u3 u4 u5 u6 uf
      obtain ⟨u0, u1, u2, u3, u4, u5, u6, uf⟩ := cells7 T5.out.three
      go_wp2_with fail
      refine (implOk_any _ _ _ _ _ _ _ _).mono ?_
      rintro r6 w6 ⟨rfl, b6⟩
      have T6 : Hid (Trio w w3.heap.size (.cells #[.int .i64 k, .int .i64 2, .int .i64 a, .int .i64 b, .int .i64 c, .int .i64 101, .int .i64 0] 24 (0, 0)) (.cells #[.int .i64 k, .int .i64 2, .int .i64 a, .int .i64 b, .int .i64 61, .int .i64 d, .int .i64 0] 24 (0, 0)) (.cells #[.int .i64 k, .int .i64 0, .int .i64 a, .int .i64 b, .int .i64 c, .int .i64 d, .int .i64 0] 24 (0, 0)) w6) := T5.out.next b6
      rw [fz]
      clear b6 T5 u0 u1 u2 u3 u4 u5 u6 uf
      obtain ⟨u0, u1, u2, u3, u4, u5, u6, uf⟩ := cells7 T6.out.one
      go_wp2_with fail
      refine (implText_any _ _ _ _ _ _ _ _ (tab_on HH.out.2 T6.out.below)).mono ?_
      rintro r7 w7 ⟨rfl, b7⟩
      have T7 : Hid (Trio w w3.heap.size (.cells #[.int .i64 k, .int .i64 2, .int .i64 a, .int .i64 b, .int .i64 c, .int .i64 101, .int .i64 0] 24 (0, 0)) (.cells #[.int .i64 k, .int .i64 2, .int .i64 a, .int .i64 b, .int .i64 61, .int .i64 d, .int .i64 0] 24 (0, 0)) (.cells #[.int .i64 k, .int .i64 0, .int .i64 a, .int .i64 b, .int .i64 c, .int .i64 d, .int .i64 0] 24 (0, 0)) w7) := T6.out.next b7
      rw [tx]
      clear b7 T6 u0 u1 u2 u3 u4 u5 u6 uf
      obtain ⟨u0, u1, u2, u3, u4, u5, u6, uf⟩ := cells7 T7.out.two
      go_wp2_with fail
      refine (implHolds_any _ _ _ _ _ _ _ _).mono ?_
      rintro r8 w8 ⟨rfl, b8⟩
      have T8 : Hid (Trio w w3.heap.size (.cells #[.int .i64 k, .int .i64 2, .int .i64 a, .int .i64 b, .int .i64 c, .int .i64 101, .int .i64 0] 24 (0, 0)) (.cells #[.int .i64 k, .int .i64 2, .int .i64 a, .int .i64 b, .int .i64 61, .int .i64 d, .int .i64 0] 24 (0, 0)) (.cells #[.int .i64 k, .int .i64 0, .int .i64 a, .int .i64 b, .int .i64 c, .int .i64 d, .int .i64 0] 24 (0, 0)) w8) := T7.out.next b8
      rw [hy]
      clear b8 T7 u0 u1 u2 u3 u4 u5 u6 uf
      go_wp2_with fail
      go_ret
      exact ⟨ret_bool (by simp), T8.out.below⟩
    · have fx : okB k 3 a 101 c 0 0 = false := by
        cases h : okB k 3 a 101 c 0 0
        · rfl
        · rw [ok_iff3] at h; omega
      have fy : okB k 3 a b 61 0 0 = false := by
        cases h : okB k 3 a b 61 0 0
        · rfl
        · rw [ok_iff3] at h; omega
      have fz : okB k 0 a b c 0 0 = false := by simp [okB]
      have tx : textB k 3 a 101 c 0 0 = ⟨#[]⟩ := by simp [textB, fx]
      have hy : (if okB k 3 a b 61 0 0 then holdsI 3 b 61 else 0) = (0 : Int) := by simp [fy]
      have T3 : Hid (Trio w w3.heap.size (.cells #[.int .i64 k, .int .i64 3, .int .i64 a, .int .i64 101, .int .i64 c, .int .i64 0, .int .i64 0] 24 (0, 0)) (.cells #[.int .i64 k, .int .i64 3, .int .i64 a, .int .i64 b, .int .i64 61, .int .i64 0, .int .i64 0] 24 (0, 0)) (.cells #[.int .i64 k, .int .i64 0, .int .i64 a, .int .i64 b, .int .i64 c, .int .i64 0, .int .i64 0] 24 (0, 0)) (((w3.alloc (.cells #[.int .i64 k, .int .i64 3, .int .i64 a, .int .i64 101, .int .i64 c, .int .i64 0, .int .i64 0] 24)).alloc (.cells #[.int .i64 k, .int .i64 3, .int .i64 a, .int .i64 b, .int .i64 61, .int .i64 0, .int .i64 0] 24)).alloc (.cells #[.int .i64 k, .int .i64 0, .int .i64 a, .int .i64 b, .int .i64 c, .int .i64 0, .int .i64 0] 24))) := Trio.start D3.out.below
      go_wp2_with fail
      refine (implOk_any _ _ _ _ _ _ _ _).mono ?_
      rintro r4 w4 ⟨rfl, b4⟩
      have T4 : Hid (Trio w w3.heap.size (.cells #[.int .i64 k, .int .i64 3, .int .i64 a, .int .i64 101, .int .i64 c, .int .i64 0, .int .i64 0] 24 (0, 0)) (.cells #[.int .i64 k, .int .i64 3, .int .i64 a, .int .i64 b, .int .i64 61, .int .i64 0, .int .i64 0] 24 (0, 0)) (.cells #[.int .i64 k, .int .i64 0, .int .i64 a, .int .i64 b, .int .i64 c, .int .i64 0, .int .i64 0] 24 (0, 0)) w4) := T3.out.next b4
      rw [fx]
      clear b4 T3 D3 ok p0 p1 p2 p3 p4 p5 p6 pf
      obtain ⟨u0, u1, u2, u3, u4, u5, u6, uf⟩ := cells7 T4.out.two
      go_wp2_with fail
      refine (implOk_any _ _ _ _ _ _ _ _).mono ?_
      rintro r5 w5 ⟨rfl, b5⟩
      have T5 : Hid (Trio w w3.heap.size (.cells #[.int .i64 k, .int .i64 3, .int .i64 a, .int .i64 101, .int .i64 c, .int .i64 0, .int .i64 0] 24 (0, 0)) (.cells #[.int .i64 k, .int .i64 3, .int .i64 a, .int .i64 b, .int .i64 61, .int .i64 0, .int .i64 0] 24 (0, 0)) (.cells #[.int .i64 k, .int .i64 0, .int .i64 a, .int .i64 b, .int .i64 c, .int .i64 0, .int .i64 0] 24 (0, 0)) w5) := T4.out.next b5
      rw [fy]
      clear b5 T4 u0 u1 u2 u3 u4 u5 u6 uf
      obtain ⟨u0, u1, u2, u3, u4, u5, u6, uf⟩ := cells7 T5.out.three
      go_wp2_with fail
      refine (implOk_any _ _ _ _ _ _ _ _).mono ?_
      rintro r6 w6 ⟨rfl, b6⟩
      have T6 : Hid (Trio w w3.heap.size (.cells #[.int .i64 k, .int .i64 3, .int .i64 a, .int .i64 101, .int .i64 c, .int .i64 0, .int .i64 0] 24 (0, 0)) (.cells #[.int .i64 k, .int .i64 3, .int .i64 a, .int .i64 b, .int .i64 61, .int .i64 0, .int .i64 0] 24 (0, 0)) (.cells #[.int .i64 k, .int .i64 0, .int .i64 a, .int .i64 b, .int .i64 c, .int .i64 0, .int .i64 0] 24 (0, 0)) w6) := T5.out.next b6
      rw [fz]
      clear b6 T5 u0 u1 u2 u3 u4 u5 u6 uf
      obtain ⟨u0, u1, u2, u3, u4, u5, u6, uf⟩ := cells7 T6.out.one
      go_wp2_with fail
      refine (implText_any _ _ _ _ _ _ _ _ (tab_on HH.out.2 T6.out.below)).mono ?_
      rintro r7 w7 ⟨rfl, b7⟩
      have T7 : Hid (Trio w w3.heap.size (.cells #[.int .i64 k, .int .i64 3, .int .i64 a, .int .i64 101, .int .i64 c, .int .i64 0, .int .i64 0] 24 (0, 0)) (.cells #[.int .i64 k, .int .i64 3, .int .i64 a, .int .i64 b, .int .i64 61, .int .i64 0, .int .i64 0] 24 (0, 0)) (.cells #[.int .i64 k, .int .i64 0, .int .i64 a, .int .i64 b, .int .i64 c, .int .i64 0, .int .i64 0] 24 (0, 0)) w7) := T6.out.next b7
      rw [tx]
      clear b7 T6 u0 u1 u2 u3 u4 u5 u6 uf
      obtain ⟨u0, u1, u2, u3, u4, u5, u6, uf⟩ := cells7 T7.out.two
      go_wp2_with fail
      refine (implHolds_any _ _ _ _ _ _ _ _).mono ?_
      rintro r8 w8 ⟨rfl, b8⟩
      have T8 : Hid (Trio w w3.heap.size (.cells #[.int .i64 k, .int .i64 3, .int .i64 a, .int .i64 101, .int .i64 c, .int .i64 0, .int .i64 0] 24 (0, 0)) (.cells #[.int .i64 k, .int .i64 3, .int .i64 a, .int .i64 b, .int .i64 61, .int .i64 0, .int .i64 0] 24 (0, 0)) (.cells #[.int .i64 k, .int .i64 0, .int .i64 a, .int .i64 b, .int .i64 c, .int .i64 0, .int .i64 0] 24 (0, 0)) w8) := T7.out.next b8
      rw [hy]
      clear b8 T7 u0 u1 u2 u3 u4 u5 u6 uf
      go_wp2_with fail
      go_ret
      exact ⟨ret_bool (by simp), T8.out.below⟩
    · have fx : okB k 4 101 b 0 0 0 = false := by
        cases h : okB k 4 101 b 0 0 0
        · rfl
        · rw [ok_iff4] at h; omega
      have fy : okB k 4 a 61 0 0 0 = false := by
        cases h : okB k 4 a 61 0 0 0
        · rfl
        · rw [ok_iff4] at h; omega
      have fz : okB k 0 a b 0 0 0 = false := by simp [okB]
      have tx : textB k 4 101 b 0 0 0 = ⟨#[]⟩ := by simp [textB, fx]
      have hy : (if okB k 4 a 61 0 0 0 then holdsI 4 61 0 else 0) = (0 : Int) := by simp [fy]
      have T3 : Hid (Trio w w3.heap.size (.cells #[.int .i64 k, .int .i64 4, .int .i64 101, .int .i64 b, .int .i64 0, .int .i64 0, .int .i64 0] 24 (0, 0)) (.cells #[.int .i64 k, .int .i64 4, .int .i64 a, .int .i64 61, .int .i64 0, .int .i64 0, .int .i64 0] 24 (0, 0)) (.cells #[.int .i64 k, .int .i64 0, .int .i64 a, .int .i64 b, .int .i64 0, .int .i64 0, .int .i64 0] 24 (0, 0)) (((w3.alloc (.cells #[.int .i64 k, .int .i64 4, .int .i64 101, .int .i64 b, .int .i64 0, .int .i64 0, .int .i64 0] 24)).alloc (.cells #[.int .i64 k, .int .i64 4, .int .i64 a, .int .i64 61, .int .i64 0, .int .i64 0, .int .i64 0] 24)).alloc (.cells #[.int .i64 k, .int .i64 0, .int .i64 a, .int .i64 b, .int .i64 0, .int .i64 0, .int .i64 0] 24))) := Trio.start D3.out.below
      go_wp2_with fail
      refine (implOk_any _ _ _ _ _ _ _ _).mono ?_
      rintro r4 w4 ⟨rfl, b4⟩
      have T4 : Hid (Trio w w3.heap.size (.cells #[.int .i64 k, .int .i64 4, .int .i64 101, .int .i64 b, .int .i64 0, .int .i64 0, .int .i64 0] 24 (0, 0)) (.cells #[.int .i64 k, .int .i64 4, .int .i64 a, .int .i64 61, .int .i64 0, .int .i64 0, .int .i64 0] 24 (0, 0)) (.cells #[.int .i64 k, .int .i64 0, .int .i64 a, .int .i64 b, .int .i64 0, .int .i64 0, .int .i64 0] 24 (0, 0)) w4) := T3.out.next b4
      rw [fx]
      clear b4 T3 D3 ok p0 p1 p2 p3 p4 p5 p6 pf
      obtain ⟨u0, u1, u2, u3, u4, u5, u6, uf⟩ := cells7 T4.out.two
      go_wp2_with fail
      refine (implOk_any _ _ _ _ _ _ _ _).mono ?_
      rintro r5 w5 ⟨rfl, b5⟩
      have T5 : Hid (Trio w w3.heap.size (.cells #[.int .i64 k, .int .i64 4, .int .i64 101, .int .i64 b, .int .i64 0, .int .i64 0, .int .i64 0] 24 (0, 0)) (.cells #[.int .i64 k, .int .i64 4, .int .i64 a, .int .i64 61, .int .i64 0, .int .i64 0, .int .i64 0] 24 (0, 0)) (.cells #[.int .i64 k, .int .i64 0, .int .i64 a, .int .i64 b, .int .i64 0, .int .i64 0, .int .i64 0] 24 (0, 0)) w5) := T4.out.next b5
      rw [fy]
      clear b5 T4 u0 u1 u2 u3 u4 u5 u6 uf
      obtain ⟨u0, u1, u2, u3, u4, u5, u6, uf⟩ := cells7 T5.out.three
      go_wp2_with fail
      refine (implOk_any _ _ _ _ _ _ _ _).mono ?_
      rintro r6 w6 ⟨rfl, b6⟩
      have T6 : Hid (Trio w w3.heap.size (.cells #[.int .i64 k, .int .i64 4, .int .i64 101, .int .i64 b, .int .i64 0, .int .i64 0, .int .i64 0] 24 (0, 0)) (.cells #[.int .i64 k, .int .i64 4, .int .i64 a, .int .i64 61, .int .i64 0, .int .i64 0, .int .i64 0] 24 (0, 0)) (.cells #[.int .i64 k, .int .i64 0, .int .i64 a, .int .i64 b, .int .i64 0, .int .i64 0, .int .i64 0] 24 (0, 0)) w6) := T5.out.next b6
      rw [fz]
      clear b6 T5 u0 u1 u2 u3 u4 u5 u6 uf
      obtain ⟨u0, u1, u2, u3, u4, u5, u6, uf⟩ := cells7 T6.out.one
      go_wp2_with fail
      refine (implText_any _ _ _ _ _ _ _ _ (tab_on HH.out.2 T6.out.below)).mono ?_
      rintro r7 w7 ⟨rfl, b7⟩
      have T7 : Hid (Trio w w3.heap.size (.cells #[.int .i64 k, .int .i64 4, .int .i64 101, .int .i64 b, .int .i64 0, .int .i64 0, .int .i64 0] 24 (0, 0)) (.cells #[.int .i64 k, .int .i64 4, .int .i64 a, .int .i64 61, .int .i64 0, .int .i64 0, .int .i64 0] 24 (0, 0)) (.cells #[.int .i64 k, .int .i64 0, .int .i64 a, .int .i64 b, .int .i64 0, .int .i64 0, .int .i64 0] 24 (0, 0)) w7) := T6.out.next b7
      rw [tx]
      clear b7 T6 u0 u1 u2 u3 u4 u5 u6 uf
      obtain ⟨u0, u1, u2, u3, u4, u5, u6, uf⟩ := cells7 T7.out.two
      go_wp2_with fail
      refine (implHolds_any _ _ _ _ _ _ _ _).mono ?_
      rintro r8 w8 ⟨rfl, b8⟩
      have T8 : Hid (Trio w w3.heap.size (.cells #[.int .i64 k, .int .i64 4, .int .i64 101, .int .i64 b, .int .i64 0, .int .i64 0, .int .i64 0] 24 (0, 0)) (.cells #[.int .i64 k, .int .i64 4, .int .i64 a, .int .i64 61, .int .i64 0, .int .i64 0, .int .i64 0] 24 (0, 0)) (.cells #[.int .i64 k, .int .i64 0, .int .i64 a, .int .i64 b, .int .i64 0, .int .i64 0, .int .i64 0] 24 (0, 0)) w8) := T7.out.next b8
      rw [hy]
      clear b8 T7 u0 u1 u2 u3 u4 u5 u6 uf
      go_wp2_with fail
      go_ret
      exact ⟨ret_bool (by simp), T8.out.below⟩

end Go.Proofs.YthekgdenplcnoaaDoor
