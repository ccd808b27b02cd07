/-
  The law on words and their texts, walked: of two words that are drawn the texts are the same just if the words are; it returns true, and nothing that was in memory is turned.
-/
import Derived.Test.YthfigipnpkacpaaDoorDrawMsgText
import Derived.Test.YthfigipnpkacpaaDoorMsgTextS
import Derived.Test.YthfigipnpkacpaaDoorMsgTextI
import Derived.Test.YthfigipnpkacpaaDoorMsgOneMath
import Derived.Test.YthfigipnpkacpaaDoorMsgLb
namespace Go.Proofs.YthfigipnpkacpaaDoor
open Go.RowKit

set_option maxHeartbeats 400000 in
theorem mone_long (a1 a2 : Option Addr) (n1 c1 n2 c2 : Nat) (w : World) (h : 1048576 < (n1 : Int) ∨ 1048576 < (n2 : Int)) :
    Calls Tryd.prog 3 #[.slice a1 n1 c1, .slice a2 n2 c2] w fun r w' => r = .returned (.bool true) ∧ Below w.heap.size w w' := by
  by_cases g : 1048576 < (n1 : Int)
  · go_enter Tryd.func3, Tryd.ntmps3
    go_wp2
    go_ret
    exact ⟨rfl, Below.refl _ _⟩
  · have g' : decide (1048576 < (n1 : Int)) = false := by simpa using g
    have h2 : 1048576 < (n2 : Int) := by omega
    go_enter Tryd.func3, Tryd.ntmps3
    go_wp2
    go_ret
    exact ⟨rfl, Below.refl _ _⟩

/-- What is known on the way: two words in blocks of their own, with their rows. -/
structure Two (W : World) (B1 B2 : Nat) (o1 o2 : Obj) (a : Option Addr) (xs : List Sl) (b : Option Addr) (ys : List Sl) (w : World) : Prop where
  below : Below W.heap.size W w
  one : w.heap[B1]? = some o1
  two : w.heap[B2]? = some o2
  r1 : SRow w a xs
  r2 : SRow w b ys
theorem Two.next {W : World} {B1 B2 : Nat} {o1 o2 : Obj} {a b : Option Addr} {xs ys : List Sl} {w w' : World} (h : Two W B1 B2 o1 o2 a xs b ys w) (hb : Below w.heap.size w w') : Two W B1 B2 o1 o2 a xs b ys w' :=
  ⟨h.below.trans (hb.mono h.below.size), (hb.block _ (Array.getElem?_eq_some_iff.1 h.one).1).trans h.one, (hb.block _ (Array.getElem?_eq_some_iff.1 h.two).1).trans h.two, h.r1.later hb, h.r2.later hb⟩

theorem mone_final {m n k f m' n' k' f' : Int} {xs ys : List Sl} {X Y : ByteArray} (hX : X = msgT m n k f xs) (hY : Y = msgT m' n' k' f' ys) (ex : X.toList.isEmpty = false) (ey : Y.toList.isEmpty = false) :
    decide (X.toList = Y.toList) = (m == m' && n == n' && k == k' && f == f' && eqS xs ys) := by
  subst hX hY
  rw [ByteArray.toList_eq] at ex ey ⊢
  rw [ByteArray.toList_eq]
  have o1 : msgB m n k f xs = true := by
    cases h : msgB m n k f xs
    · rw [msgT_empty.2 h] at ex; simp at ex
    · rfl
  have o2 : msgB m' n' k' f' ys = true := by
    cases h : msgB m' n' k' f' ys
    · rw [msgT_empty.2 h] at ey; simp at ey
    · rfl
  by_cases h : (msgT m n k f xs).data.toList = (msgT m' n' k' f' ys).data.toList
  · obtain ⟨rfl, rfl, rfl, rfl, rfl⟩ := msgT_inj o1 o2 (ByteArray.ext (Array.toList_inj.1 h))
    simp [eqS_true rfl]
  · rw [decide_eq_false h]
    symm
    cases e : (m == m' && n == n' && k == k' && f == f' && eqS xs ys)
    · rfl
    · simp only [Bool.and_eq_true, beq_iff_eq, eqS_iff] at e
      obtain ⟨⟨⟨⟨rfl, rfl⟩, rfl⟩, rfl⟩, rfl⟩ := e
      exact absurd rfl h

set_option maxHeartbeats 2000000 in
set_option maxRecDepth 100000 in
theorem mone_short (a1 a2 : Option Addr) (n1 c1 n2 c2 : Nat) (w : World) (g1 : (n1 : Int) ≤ 1048576) (g2 : (n2 : Int) ≤ 1048576) (h1 : Code w a1 n1 c1) (h2 : Code w a2 n2 c2) (hf : Forms w)
    (htab : Lib.TabIs Tryd.prog w "internal/strconv.uint64pow10" .u64 Lib.pow10Tab) :
    Calls Tryd.prog 3 #[.slice a1 n1 c1, .slice a2 n2 c2] w fun r w' => r = .returned (.bool true) ∧ Below w.heap.size w w' := by
  have HH : Hid (Code w a1 n1 c1 ∧ Code w a2 n2 c2) := ⟨h1, h2⟩
  have HL : Hid (∀ {w'}, Below w.heap.size w w' → Forms w' ∧ Lib.TabIs Tryd.prog w' "internal/strconv.uint64pow10" .u64 Lib.pow10Tab) := fun hb => ⟨hf.later hb, Joins.tab_stays gPow htab hb (Nat.le_refl _)⟩
  clear h1 h2 htab hf
  go_enter Tryd.func3, Tryd.ntmps3
  go_wp2_with fail
  refine (drawMsgText_any a1 n1 c1 w HH.out.1).mono ?_
  rintro r1 w1 ⟨⟨m, n, k, f, a, xs, p1, rfl, R1, x3, _⟩, b1⟩
  have B1 : Hid (Below w.heap.size w w1 ∧ SRow w1 a xs) := ⟨b1, R1⟩
  have s1 : w.heap.size ≤ w1.heap.size := b1.size
  clear b1 R1
  go_wp2_with fail
  refine (drawMsgText_any a2 n2 c2 _ (HH.out.2.below (B1.out.1.alloc s1 _))).mono ?_
  rintro r2 w2 ⟨⟨m', n', k', f', b, ys, p2, rfl, R2, y3, _⟩, b2⟩
  have s2 : w1.heap.size < w2.heap.size := by have := b2.size; simp at this; omega
  have D2 : Hid (Two w w1.heap.size w2.heap.size (.cells #[.int .i64 m, .int .i64 n, .int .i64 k, .int .i64 f, .slice a xs.length p1] 25 (0, 0)) (.cells #[.int .i64 m', .int .i64 n', .int .i64 k', .int .i64 f', .slice b ys.length p2] 25 (0, 0)) a xs b ys (w2.alloc (.cells #[.int .i64 m', .int .i64 n', .int .i64 k', .int .i64 f', .slice b ys.length p2] 25 (0, 0)))) :=
    ⟨((B1.out.1.alloc s1 _).trans (b2.mono (by simp; omega))).alloc (by omega) _, (Below.heap_alloc w2 _ _ s2).trans ((b2.block _ (by simp)).trans (heap_alloc_new w1 _)), heap_alloc_new w2 _, ((B1.out.2.later ((Below.refl _ _).alloc (Nat.le_refl _) _)).later b2).later ((Below.refl _ _).alloc (Nat.le_refl _) _), R2.later ((Below.refl _ _).alloc (Nat.le_refl _) _)⟩
  obtain ⟨p0, p1', p2', p3, p4, pf, pl⟩ := cells5 ((b2.block w1.heap.size (by simp)).trans (heap_alloc_new w1 _))
  clear b2 B1 R2
  obtain ⟨X, hX⟩ : ∃ X, X = msgT m n k f xs := ⟨_, rfl⟩
  obtain ⟨Y, hY⟩ : ∃ Y, Y = msgT m' n' k' f' ys := ⟨_, rfl⟩
  have IX : Hid (∀ w', Below w.heap.size w w' → SRow w' a xs → Calls Tryd.prog 5 #[.agg #[.int .i64 m, .int .i64 n, .int .i64 k, .int .i64 f, .slice a xs.length p1]] w' fun r w'' => r = .returned (.string X) ∧ Below w'.heap.size w' w'') := fun w' hb hr => by rw [hX]; exact implMT_any m n k f a p1 xs w' hr (by omega) (HL.out hb).1 (HL.out hb).2
  have IY : Hid (∀ w', Below w.heap.size w w' → SRow w' b ys → Calls Tryd.prog 5 #[.agg #[.int .i64 m', .int .i64 n', .int .i64 k', .int .i64 f', .slice b ys.length p2]] w' fun r w'' => r = .returned (.string Y) ∧ Below w'.heap.size w' w'') := fun w' hb hr => by rw [hY]; exact implMT_any m' n' k' f' b p2 ys w' hr (by omega) (HL.out hb).1 (HL.out hb).2
  have SX : Hid (∀ w', SRow w' a xs → Calls Tryd.prog 6 #[.agg #[.int .i64 m, .int .i64 n, .int .i64 k, .int .i64 f, .slice a xs.length p1]] w' fun r w'' => r = .returned (.string X) ∧ Below w'.heap.size w' w'') := fun w' hr => by rw [hX]; exact specMT_any m n k f a p1 xs w' hr (by omega)
  have SY : Hid (∀ w', SRow w' b ys → Calls Tryd.prog 6 #[.agg #[.int .i64 m', .int .i64 n', .int .i64 k', .int .i64 f', .slice b ys.length p2]] w' fun r w'' => r = .returned (.string Y) ∧ Below w'.heap.size w' w'') := fun w' hr => by rw [hY]; exact specMT_any m' n' k' f' b p2 ys w' hr (by omega)
  have EQ : Hid (X = msgT m n k f xs ∧ Y = msgT m' n' k' f' ys) := ⟨hX, hY⟩
  clear hX hY HH HL
  go_wp2_with fail
  refine (IX.out _ D2.out.below D2.out.r1).mono ?_
  rintro r3 w3 ⟨rfl, b3⟩
  have D3 : Hid (Two w w1.heap.size w2.heap.size (.cells #[.int .i64 m, .int .i64 n, .int .i64 k, .int .i64 f, .slice a xs.length p1] 25 (0, 0)) (.cells #[.int .i64 m', .int .i64 n', .int .i64 k', .int .i64 f', .slice b ys.length p2] 25 (0, 0)) a xs b ys w3) := D2.out.next b3
  clear b3 D2
  clear p0 p1' p2' p3 p4 pf pl
  obtain ⟨q0, q1, q2, q3, q4, qf, ql⟩ := cells5 D3.out.two
  go_wp2_with fail
  refine (IY.out _ D3.out.below D3.out.r2).mono ?_
  rintro r4 w4 ⟨rfl, b4⟩
  have D4 : Hid (Two w w1.heap.size w2.heap.size (.cells #[.int .i64 m, .int .i64 n, .int .i64 k, .int .i64 f, .slice a xs.length p1] 25 (0, 0)) (.cells #[.int .i64 m', .int .i64 n', .int .i64 k', .int .i64 f', .slice b ys.length p2] 25 (0, 0)) a xs b ys w4) := D3.out.next b4
  clear b4 D3
  clear q0 q1 q2 q3 q4 qf ql
  obtain ⟨p0, p1', p2', p3, p4, pf, pl⟩ := cells5 D4.out.one
  go_wp2_with fail
  refine (SX.out _ D4.out.r1).mono ?_
  rintro r5 w5 ⟨rfl, b5⟩
  have D5 : Hid (Two w w1.heap.size w2.heap.size (.cells #[.int .i64 m, .int .i64 n, .int .i64 k, .int .i64 f, .slice a xs.length p1] 25 (0, 0)) (.cells #[.int .i64 m', .int .i64 n', .int .i64 k', .int .i64 f', .slice b ys.length p2] 25 (0, 0)) a xs b ys w5) := D4.out.next b5
  clear b5 D4
  clear p0 p1' p2' p3 p4 pf pl
  obtain ⟨q0, q1, q2, q3, q4, qf, ql⟩ := cells5 D5.out.two
  go_wp2_with fail
  refine (SY.out _ D5.out.r2).mono ?_
  rintro r6 w6 ⟨rfl, b6⟩
  have D6 : Hid (Two w w1.heap.size w2.heap.size (.cells #[.int .i64 m, .int .i64 n, .int .i64 k, .int .i64 f, .slice a xs.length p1] 25 (0, 0)) (.cells #[.int .i64 m', .int .i64 n', .int .i64 k', .int .i64 f', .slice b ys.length p2] 25 (0, 0)) a xs b ys w6) := D5.out.next b6
  clear b6 D5
  clear q0 q1 q2 q3 q4 qf ql
  obtain ⟨p0, p1', p2', p3, p4, pf, pl⟩ := cells5 D6.out.one
  obtain ⟨q0, q1, q2, q3, q4, qf, ql⟩ := cells5 D6.out.two
  have HF' : Hid (X.toList.isEmpty = false → Y.toList.isEmpty = false → decide (X.toList = Y.toList) = (m == m' && n == n' && k == k' && f == f' && eqS xs ys)) := mone_final EQ.out.1 EQ.out.2
  clear EQ IX IY
  cases ex : X.toList.isEmpty
  cases ey : Y.toList.isEmpty
  · have HG : Hid (decide (X.toList = Y.toList) = (m == m' && n == n' && k == k' && f == f' && eqS xs ys)) := HF'.out ex ey
    clear HF' SX SY
    go_wp2_with fail
    refine (lbMsg_any m n k f m' n' k' f' a b p1 p2 xs ys _ D6.out.r1 D6.out.r2 (by omega) (by omega)).mono ?_
    rintro r7 w7 ⟨rfl, b7⟩
    have D7 : Hid (Below w.heap.size w w7) := (D6.out.next b7).below
    clear b7 D6
    clear p0 p1' p2' p3 p4 pf pl
    clear q0 q1 q2 q3 q4 qf ql
    rw [← HG.out]
    go_wp2_with fail
    go_ret
    exact ⟨ret_bool (by simp; rw [Bool.eq_iff_iff]; simp), D7.out⟩
  · have ex' : ¬ X.toList = [] := by intro h; rw [h] at ex; simp at ex
    go_wp2_with fail
    refine (SX.out _ D6.out.r1).mono ?_
    rintro r7 w7 ⟨rfl, b7⟩
    have D7 : Hid (Two w w1.heap.size w2.heap.size (.cells #[.int .i64 m, .int .i64 n, .int .i64 k, .int .i64 f, .slice a xs.length p1] 25 (0, 0)) (.cells #[.int .i64 m', .int .i64 n', .int .i64 k', .int .i64 f', .slice b ys.length p2] 25 (0, 0)) a xs b ys w7) := D6.out.next b7
    clear b7 D6
    clear p0 p1' p2' p3 p4 pf pl
    clear q0 q1 q2 q3 q4 qf ql
    obtain ⟨q0, q1, q2, q3, q4, qf, ql⟩ := cells5 D7.out.two
    go_wp2_with fail
    refine (SY.out _ D7.out.r2).mono ?_
    rintro r8 w8 ⟨rfl, b8⟩
    have D8 : Hid (Below w.heap.size w w8) := (D7.out.next b8).below
    clear b8 D7
    clear q0 q1 q2 q3 q4 qf ql
    go_wp2_with fail
    go_ret
    exact ⟨ret_bool (by simp), D8.out⟩
  · have ex' : X.toList = [] := by simpa using ex
    go_wp2_with fail
    refine (SX.out _ D6.out.r1).mono ?_
    rintro r7 w7 ⟨rfl, b7⟩
    have D7 : Hid (Two w w1.heap.size w2.heap.size (.cells #[.int .i64 m, .int .i64 n, .int .i64 k, .int .i64 f, .slice a xs.length p1] 25 (0, 0)) (.cells #[.int .i64 m', .int .i64 n', .int .i64 k', .int .i64 f', .slice b ys.length p2] 25 (0, 0)) a xs b ys w7) := D6.out.next b7
    clear b7 D6
    clear p0 p1' p2' p3 p4 pf pl
    clear q0 q1 q2 q3 q4 qf ql
    obtain ⟨q0, q1, q2, q3, q4, qf, ql⟩ := cells5 D7.out.two
    go_wp2_with fail
    refine (SY.out _ D7.out.r2).mono ?_
    rintro r8 w8 ⟨rfl, b8⟩
    have D8 : Hid (Below w.heap.size w w8) := (D7.out.next b8).below
    clear b8 D7
    clear q0 q1 q2 q3 q4 qf ql
    go_wp2_with fail
    go_ret
    exact ⟨ret_bool (by simp), D8.out⟩

end Go.Proofs.YthfigipnpkacpaaDoor
