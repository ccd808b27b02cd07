/-
  The law on a word's kinds, walked: it returns true at every two lists of bytes, and nothing that was in memory is turned.
-/
import Derived.Test.YtdloiialaeincaaDoorDrawMsgOk
import Derived.Test.YtdloiialaeincaaDoorMsgOk
namespace Go.Proofs.YtdloiialaeincaaDoor
open Go.RowKit

/-- A word in form: of which other kinds it is in form. -/
theorem kinds_math {m n k f m' : Int} {xs : List Sl} (h : msgB m n k f xs = true) (h1 : 1 ≤ m') (h6 : m' ≤ 6) :
    msgB m' n k f xs = (((m == 2 || m == 4) && (m' == 2 || m' == 4)) || m' == m) := by
  obtain rfl | rfl | rfl | rfl | rfl | rfl : m' = 1 ∨ m' = 2 ∨ m' = 3 ∨ m' = 4 ∨ m' = 5 ∨ m' = 6 := by omega
  all_goals
    have hm : m = 1 ∨ m = 2 ∨ m = 3 ∨ m = 4 ∨ m = 5 ∨ m = 6 := by
      unfold msgB at h
      split at h
      · omega
      split at h
      · omega
      split at h
      · omega
      split at h
      · omega
      split at h
      · omega
      split at h
      · omega
      · cases h
    rcases hm with rfl | rfl | rfl | rfl | rfl | rfl
    all_goals
      simp [msgB, inB, slB] at h ⊢
      try (intros; omega)
      try exact h
      try omega
theorem kinds_range {m n k f : Int} {xs : List Sl} (h : msgB m n k f xs = true) : 1 ≤ m ∧ m ≤ 6 := by
  unfold msgB at h
  split at h
  · omega
  split at h
  · omega
  split at h
  · omega
  split at h
  · omega
  split at h
  · omega
  split at h
  · omega
  · cases h

/-- What is known on the way: a word in a block of its own, with its row. -/
structure Wd (W : World) (B : Nat) (o : Obj) (a : Option Addr) (xs : List Sl) (w : World) : Prop where
  below : Below W.heap.size W w
  one : w.heap[B]? = some o
  row : SRow w a xs
theorem Wd.next {W : World} {B : Nat} {o : Obj} {a : Option Addr} {xs : List Sl} {w w' : World} (h : Wd W B o a xs w) (hb : Below w.heap.size w w') : Wd W B o a xs w' :=
  ⟨h.below.trans (hb.mono h.below.size), (hb.block _ (Array.getElem?_eq_some_iff.1 h.one).1).trans h.one, h.row.later hb⟩

set_option maxHeartbeats 400000 in
theorem kinds_long (a1 a2 : Option Addr) (n1 c1 n2 c2 : Nat) (w : World) (h : 1048576 < (n1 : Int) ∨ 1048576 < (n2 : Int)) :
    Calls Tryd.prog 6 #[.slice a1 n1 c1, .slice a2 n2 c2] w fun r w' => r = .returned (.bool true) ∧ Below w.heap.size w w' := by
  by_cases g : 1048576 < (n1 : Int)
  · go_enter Tryd.func6, Tryd.ntmps6
    go_wp2
    go_ret
    exact ⟨rfl, Below.refl _ _⟩
  · have g' : decide (1048576 < (n1 : Int)) = false := by simpa using g
    have h2 : 1048576 < (n2 : Int) := by omega
    go_enter Tryd.func6, Tryd.ntmps6
    go_wp2
    go_ret
    exact ⟨rfl, Below.refl _ _⟩

set_option maxHeartbeats 2000000 in
set_option maxRecDepth 100000 in
theorem kinds_short (a1 a2 : Option Addr) (n1 c1 n2 c2 : Nat) (w : World) (g1 : (n1 : Int) ≤ 1048576) (g2 : (n2 : Int) ≤ 1048576) (h1 : Code w a1 n1 c1) (hf : Forms w) :
    Calls Tryd.prog 6 #[.slice a1 n1 c1, .slice a2 n2 c2] w fun r w' => r = .returned (.bool true) ∧ Below w.heap.size w w' := by
  have HH : Hid (Code w a1 n1 c1 ∧ Forms w) := ⟨h1, hf⟩
  clear h1 hf
  go_enter Tryd.func6, Tryd.ntmps6
  go_wp2_with fail
  refine (drawMsgOk_any a1 n1 c1 w HH.out.1).mono ?_
  rintro r1 w1 ⟨⟨m, n, k, f, a, xs, cap, rfl, R1, x3, _, _⟩, b1⟩
  have hx : xs.length ≤ 2000000 := by omega
  have D1 : Hid (Wd w w1.heap.size (.cells #[.int .i64 m, .int .i64 n, .int .i64 k, .int .i64 f, .slice a xs.length cap] 29 (0, 0)) a xs (w1.alloc (.cells #[.int .i64 m, .int .i64 n, .int .i64 k, .int .i64 f, .slice a xs.length cap] 29))) := ⟨b1.alloc b1.size _, heap_alloc_new _ _, R1.later ((Below.refl _ _).alloc (Nat.le_refl _) _)⟩
  clear b1 R1
  go_wp2_with fail
  refine (implMsg_any m n k f a cap xs _ D1.out.row hx (HH.out.2.later D1.out.below)).mono ?_
  rintro r2 w2 ⟨rfl, b2⟩
  have D2 : Hid (Wd w w1.heap.size (.cells #[.int .i64 m, .int .i64 n, .int .i64 k, .int .i64 f, .slice a xs.length cap] 29 (0, 0)) a xs w2) := D1.out.next b2
  clear b2 D1
  obtain ⟨p0, p1, p2, p3, p4, pf, pl⟩ := cells5 D2.out.one
  go_wp2_with fail
  refine (specMsg_any m n k f a cap xs _ D2.out.row hx).mono ?_
  rintro r3 w3 ⟨rfl, b3⟩
  have D3 : Hid (Wd w w1.heap.size (.cells #[.int .i64 m, .int .i64 n, .int .i64 k, .int .i64 f, .slice a xs.length cap] 29 (0, 0)) a xs w3) := D2.out.next b3
  clear b3 D2 p0 p1 p2 p3 p4 pf pl
  obtain ⟨p0, p1, p2, p3, p4, pf, pl⟩ := cells5 D3.out.one
  cases hok : msgB m n k f xs
  · go_wp2_with fail
    refine (specMsg_any m n k f a cap xs _ D3.out.row hx).mono ?_
    rintro r4 w4 ⟨rfl, b4⟩
    rw [hok]
    have D4 : Hid (Below w.heap.size w w4) := (D3.out.next b4).below
    clear b4 D3 p0 p1 p2 p3 p4 pf pl
    go_wp2_with fail
    go_ret
    exact ⟨rfl, D4.out⟩
  · obtain ⟨m1, m6⟩ := kinds_range hok
    have HM := (show Hid _ from kinds_math (m' := 1 + (m + (n2 : Int) % 5) % 6) hok (by omega) (by omega))
    have HA : Hid (∀ o : Obj, SRow (w3.alloc o) a xs ∧ Below w.heap.size w (w3.alloc o)) := fun o => ⟨D3.out.row.later ((Below.refl _ _).alloc (Nat.le_refl _) _), D3.out.below.alloc D3.out.below.size _⟩
    clear D3 hok
    go_wp2_with (go_at_call 10; refine (implMsg_any _ n k f a cap xs _ (HA.out _).1 hx (HH.out.2.later (HA.out _).2)).mono ?_; rintro e5 w5 ⟨rfl, b5⟩; obtain ⟨hc5, hf5⟩ := bcell b5)
    all_goals go_ret
    all_goals refine ⟨ret_bool ?_, (HA.out _).2.trans (b5.mono (by have := (HA.out (.cells #[] 0)).2.size; simp at this ⊢; omega))⟩
    all_goals
      have hm := HM.out
      clear HM HA HH b5
      simp_all

end Go.Proofs.YtdloiialaeincaaDoor
