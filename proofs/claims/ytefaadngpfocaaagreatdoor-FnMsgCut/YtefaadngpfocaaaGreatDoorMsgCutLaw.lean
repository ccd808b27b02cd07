/-
  The law that what is cut is no word, walked: it returns true at whatever list of bytes, and nothing that was in memory is turned.
-/
import Derived.Test.YtefaadngpfocaaaGreatDoorDrawMsgText
import Derived.Test.YtefaadngpfocaaaGreatDoorMsgTextS
import Derived.Test.YtefaadngpfocaaaGreatDoorReadMsg
import Derived.Test.YtefaadngpfocaaaGreatDoorMsgCutMath
namespace Go.Proofs.YtefaadngpfocaaaGreatDoor
open Go.RowKit

/-- MsgRead at a text that is no word's. -/
theorem implMR_no (s : ByteArray) (p1 p2 p3 : Option Addr) (w : World) (hl : Lb w) (he : Er p1 p2 p3 w) (hF : Forms w)
    (hg : w.cell? ⟨1, 0, none⟩ = some (.iface 127 (.agg #[.pointer (some ⟨13, 44, none⟩)]))) (hno : ∀ m n k f xs, msgB m n k f xs = true → msgT m n k f xs ≠ s) :
    Calls Tryz.prog 9 #[.string s] w fun r w' => r = .returned (.tuple #[.agg zM, .bool false]) ∧ Below w.heap.size w w' := by
  refine (implMR_any s p1 p2 p3 w hl he hF hg).mono ?_
  rintro r w' ⟨⟨_, m, n, k, f, a, cap, xs, _, h1, h2, _⟩ | ⟨_, h⟩, hb⟩
  · exact absurd h2 (hno _ _ _ _ _ h1)
  · exact ⟨h, hb⟩

set_option maxHeartbeats 400000 in
theorem mcut_long (a1 : Option Addr) (n1 c1 : Nat) (w : World) (h : 1048576 < (n1 : Int)) :
    Calls Tryz.prog 3 #[.slice a1 n1 c1] w fun r w' => r = .returned (.bool true) ∧ Below w.heap.size w w' := by
  go_enter Tryz.func3, Tryz.ntmps3
  go_wp2
  go_ret
  exact ⟨rfl, Below.refl _ _⟩

/-- What is known on the way: a word in a block of its own, with its row. -/
structure Won (W : World) (B1 : Nat) (o1 : Obj) (a : Option Addr) (xs : List Sl) (w : World) : Prop where
  below : Below W.heap.size W w
  one : w.heap[B1]? = some o1
  r1 : SRow w a xs
theorem Won.next {W : World} {B1 : Nat} {o1 : Obj} {a : Option Addr} {xs : List Sl} {w w' : World} (h : Won W B1 o1 a xs w) (hb : Below w.heap.size w w') : Won W B1 o1 a xs w' :=
  ⟨h.below.trans (hb.mono h.below.size), (hb.block _ (Array.getElem?_eq_some_iff.1 h.one).1).trans h.one, h.r1.later hb⟩
theorem Won.alloc {W : World} {B1 : Nat} {o1 : Obj} {a : Option Addr} {xs : List Sl} {w : World} (h : Won W B1 o1 a xs w) (o : Obj) : Won W B1 o1 a xs (w.alloc o) := h.next ((Below.refl _ _).alloc (Nat.le_refl _) _)

set_option maxHeartbeats 2000000 in
set_option maxRecDepth 100000 in
theorem mcut_short (a1 : Option Addr) (n1 c1 : Nat) (w : World) (g1 : (n1 : Int) ≤ 1048576) (h1 : Code w a1 n1 c1) (q1 q2 q3 : Option Addr) (hl : Lb w) (he : Er q1 q2 q3 w) (hF : Forms w)
    (hg : w.cell? ⟨1, 0, none⟩ = some (.iface 127 (.agg #[.pointer (some ⟨13, 44, none⟩)]))) :
    Calls Tryz.prog 3 #[.slice a1 n1 c1] w fun r w' => r = .returned (.bool true) ∧ Below w.heap.size w w' := by
  have HH : Hid (Code w a1 n1 c1) := h1
  have hgl : 1 < w.heap.size := block_lt_of_cell hg
  have HL : Hid (∀ {w'}, Below w.heap.size w w' → Lb w' ∧ Er q1 q2 q3 w' ∧ Forms w' ∧ w'.cell? ⟨1, 0, none⟩ = some (.iface 127 (.agg #[.pointer (some ⟨13, 44, none⟩)]))) := fun hb => ⟨hl.below hb, he.below hb, hF.later hb, (hb.cell (p := ⟨_, 0, none⟩) hgl).trans hg⟩
  clear h1 hl he hF hg
  go_enter Tryz.func3, Tryz.ntmps3
  go_wp2_with fail
  refine (drawMsgText_any a1 n1 c1 w HH.out).mono ?_
  rintro r1 w1 ⟨⟨m, n, k, f, a, xs, p1, rfl, R1, x3, _⟩, b1⟩
  have s1 : w.heap.size ≤ w1.heap.size := b1.size
  have D1 : Hid (Won w w1.heap.size (.cells #[.int .i64 m, .int .i64 n, .int .i64 k, .int .i64 f, .slice a xs.length p1] 25 (0, 0)) a xs (w1.alloc (.cells #[.int .i64 m, .int .i64 n, .int .i64 k, .int .i64 f, .slice a xs.length p1] 25 (0, 0)))) := ⟨b1.alloc s1 _, heap_alloc_new w1 _, R1.later ((Below.refl _ _).alloc (Nat.le_refl _) _)⟩
  clear b1 R1
  obtain ⟨X, hX⟩ : ∃ X, X = msgT m n k f xs := ⟨_, rfl⟩
  have IX : Hid (∀ w', Below w.heap.size w w' → SRow w' a xs → Calls Tryz.prog 7 #[.agg #[.int .i64 m, .int .i64 n, .int .i64 k, .int .i64 f, .slice a xs.length p1]] w' fun r w'' => r = .returned (.string X) ∧ Below w'.heap.size w' w'') := fun w' hb hr => by rw [hX]; exact implMT_any m n k f a p1 xs w' hr (by omega) (HL.out hb).2.2.1 (HL.out hb).1.tab
  have SX : Hid (∀ w', SRow w' a xs → Calls Tryz.prog 8 #[.agg #[.int .i64 m, .int .i64 n, .int .i64 k, .int .i64 f, .slice a xs.length p1]] w' fun r w'' => r = .returned (.string X) ∧ Below w'.heap.size w' w'') := fun w' hr => by rw [hX]; exact specMT_any m n k f a p1 xs w' hr (by omega)
  have EX : Hid (X = msgT m n k f xs) := hX
  clear hX HH
  go_wp2_with fail
  refine (IX.out _ D1.out.below D1.out.r1).mono ?_
  rintro r2 w2 ⟨rfl, b2⟩
  have D2 : Hid (Won w w1.heap.size (.cells #[.int .i64 m, .int .i64 n, .int .i64 k, .int .i64 f, .slice a xs.length p1] 25 (0, 0)) a xs w2) := D1.out.next b2
  clear b2 D1 IX
  obtain ⟨p0, p1', p2', p3, p4, pf, pl⟩ := cells5 D2.out.one
  go_wp2_with fail
  refine (SX.out _ D2.out.r1).mono ?_
  rintro r3 w3 ⟨rfl, b3⟩
  have D3 : Hid (Won w w1.heap.size (.cells #[.int .i64 m, .int .i64 n, .int .i64 k, .int .i64 f, .slice a xs.length p1] 25 (0, 0)) a xs w3) := D2.out.next b3
  clear b3 D2 p0 p1' p2' p3 p4 pf pl
  obtain ⟨p0, p1', p2', p3, p4, pf, pl⟩ := cells5 D3.out.one
  cases ex : X.toList.isEmpty
  · have hx0 := EX.out
    have ho : msgB m n k f xs = true := by
      cases h : msgB m n k f xs
      · rw [ByteArray.toList_eq, hx0, msgT_empty.2 h] at ex; simp at ex
      · rfl
    have hs2 : 0 < X.size := by
      obtain ⟨q, hq⟩ := msg_end ho
      rw [← len_size, hx0, hq]; simp
    have hsB : X.size ≤ 2000000 := by
      have h3 := lines_len xs (headL m n k f)
      have hb := msg_bounds ho
      have e1 : X.size = (linesL (headL m n k f) xs).length := by rw [hx0]; unfold msgT; rw [if_pos ho]; rfl
      have e2 : (headL m n k f).length ≤ 16 := by
        have d1 := dig_len (n := m) (by omega) (by omega)
        have d2 := dig_len (n := n) (by omega) (by omega)
        have d3 := dig_len (n := k) (by omega) (by omega)
        have d4 := dig_len (n := f) (by omega) (by omega)
        simp only [headL, List.length_append, List.length_cons, List.length_nil]
        omega
      omega
    have hs3 : (0 : Int) < (X.size : Int) := by omega
    have N1 : Hid (∀ m' n' k' f' ys, msgB m' n' k' f' ys = true → msgT m' n' k' f' ys ≠ X.extract 0 (X.size - 1)) := fun m' n' k' f' ys h e => cut_one ho h (by
      rw [e, ← hx0]
      simp [ByteArray.data_extract, List.dropLast_eq_take])
    have N2 : Hid (∀ m' n' k' f' ys, msgB m' n' k' f' ys = true → msgT m' n' k' f' ys ≠ X ++ X) := fun m' n' k' f' ys h e => cut_two ho h (by rw [e, ← hx0]; simp [ByteArray.data_append])
    have N3 : Hid (∀ m' n' k' f' ys, msgB m' n' k' f' ys = true → msgT m' n' k' f' ys ≠ X ++ ⟨#[10]⟩) := fun m' n' k' f' ys h e => cut_three ho h (by rw [e, ← hx0]; simp [ByteArray.data_append])
    clear hx0 ho SX EX
    go_wp2_with fail
    have l3 := HL.out D3.out.below
    refine (implMR_no _ q1 q2 q3 w3 l3.1 l3.2.1 l3.2.2.1 l3.2.2.2 N1.out).mono ?_
    clear l3
    rintro r4 w4 ⟨rfl, b4⟩
    have D4 : Hid (Won w w1.heap.size (.cells #[.int .i64 m, .int .i64 n, .int .i64 k, .int .i64 f, .slice a xs.length p1] 25 (0, 0)) a xs (w4.alloc (.cells zM 25))) := (D3.out.next b4).alloc _
    clear b4 D3 p0 p1' p2' p3 p4 pf pl
    go_wp2_with fail
    have l4 := HL.out D4.out.below
    refine (implMR_no _ q1 q2 q3 _ l4.1 l4.2.1 l4.2.2.1 l4.2.2.2 N2.out).mono ?_
    clear l4
    rintro r5 w5 ⟨rfl, b5⟩
    have D5 : Hid (Won w w1.heap.size (.cells #[.int .i64 m, .int .i64 n, .int .i64 k, .int .i64 f, .slice a xs.length p1] 25 (0, 0)) a xs (w5.alloc (.cells zM 25))) := (D4.out.next b5).alloc _
    clear b5 D4
    go_wp2_with fail
    have l5 := HL.out D5.out.below
    refine (implMR_no _ q1 q2 q3 _ l5.1 l5.2.1 l5.2.2.1 l5.2.2.2 N3.out).mono ?_
    clear l5
    rintro r6 w6 ⟨rfl, b6⟩
    have D6 : Hid (Won w w1.heap.size (.cells #[.int .i64 m, .int .i64 n, .int .i64 k, .int .i64 f, .slice a xs.length p1] 25 (0, 0)) a xs (w6.alloc (.cells zM 25))) := (D5.out.next b6).alloc _
    clear b6 D5
    go_wp2_with fail
    go_ret
    exact ⟨rfl, D6.out.below⟩
  · go_wp2_with fail
    refine (SX.out _ D3.out.r1).mono ?_
    rintro r4 w4 ⟨rfl, b4⟩
    have D4 : Hid (Below w.heap.size w w4) := (D3.out.next b4).below
    clear b4 D3 p0 p1' p2' p3 p4 pf pl
    go_wp2_with fail
    go_ret
    exact ⟨ret_bool (by simp), D4.out⟩

end Go.Proofs.YtefaadngpfocaaaGreatDoor
