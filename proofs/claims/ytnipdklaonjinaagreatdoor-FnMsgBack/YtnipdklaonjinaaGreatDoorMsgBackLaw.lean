/-
  The law that a word is read back from its text, walked: it returns true at whatever list of bytes, and nothing that was in memory is turned.
-/
import Derived.Test.YtnipdklaonjinaaGreatDoorDrawMsgText
import Derived.Test.YtnipdklaonjinaaGreatDoorMsgTextS
import Derived.Test.YtnipdklaonjinaaGreatDoorReadMsg
import Derived.Test.YtnipdklaonjinaaGreatDoorMsgReadMath
import Derived.Test.YtnipdklaonjinaaGreatDoorMsgOneMath
import Derived.Test.YtnipdklaonjinaaGreatDoorMsgLb
namespace Go.Proofs.YtnipdklaonjinaaGreatDoor
open Go.RowKit

theorem lines_short : ∀ (xs : List Sl) (l : List UInt8), (∀ s ∈ xs, s.ok = true) → (linesL l xs).length ≤ l.length + 61 * xs.length
  | [], l, _ => by simp [linesL]
  | s :: xs, l, hok => by
    have h := lines_short xs (l ++ (s.text.data.toList ++ [10])) (fun u hu => hok u (List.mem_cons_of_mem _ hu))
    have e : s.text.data.toList.length = s.text.size := by rw [Array.length_toList]; rfl
    have : s.text.size ≤ 60 := (text_60 (hok s List.mem_cons_self)).1
    simp only [linesL, List.foldl_cons, List.length_append, List.length_cons, List.length_nil] at h ⊢
    omega
theorem msgT_200 {m n k f : Int} {xs : List Sl} (h : msgB m n k f xs = true) : (msgT m n k f xs).size ≤ 200 := by
  obtain ⟨h2, hok⟩ := msg_seals h
  have h1 := lines_short xs (headL m n k f) hok
  have h3 := head_len h
  unfold msgT
  rw [if_pos h, tB_size]
  omega

/-- MsgRead at a word's own text gives that word. -/
theorem implMR_back {m n k f : Int} {xs : List Sl} (hm : msgB m n k f xs = true) (p1 p2 p3 : Option Addr) (w : World) (hl : Lb w) (he : Er p1 p2 p3 w) (hF : Forms w)
    (hg : w.cell? ⟨1, 0, none⟩ = some (.iface 114 (.agg #[.pointer (some ⟨13, 44, none⟩)]))) :
    Calls Tryz.prog 7 #[.string (msgT m n k f xs)] w fun r w' => (∃ (a : Option Addr) (cap : Nat), r = .returned (.tuple #[.agg #[.int .i64 m, .int .i64 n, .int .i64 k, .int .i64 f, .slice a xs.length cap], .bool true]) ∧ SRow w' a xs) ∧ Below w.heap.size w w' := by
  refine (implMR_any (msgT m n k f xs) p1 p2 p3 w hl he hF hg).mono ?_
  rintro r w' ⟨⟨_, m', n', k', f', a, cap, ys, _, h1, h2, hr, ho⟩ | ⟨hno, _⟩, hb⟩
  · obtain ⟨rfl, rfl, rfl, rfl, rfl⟩ := msgT_inj h1 hm h2
    obtain ⟨a', c', e, _, r', _⟩ := own_row ho
    injection e with e1 e2 e3
    exact ⟨⟨a, cap, hr, by rw [e1]; exact r'⟩, hb⟩
  · have hw := wrd_of hm (msgT_200 hm)
    rcases hno (msgT_200 hm) with h | ⟨m', n', k', f', ys, h, hn⟩
    · exact absurd hw (h _ _ _ _ _)
    · obtain ⟨rfl, rfl, rfl, rfl, rfl⟩ := wrd_one h hw
      exact absurd ⟨hm, rfl⟩ hn

set_option maxHeartbeats 400000 in
theorem mback_long (a1 : Option Addr) (n1 c1 : Nat) (w : World) (h : 1048576 < (n1 : Int)) :
    Calls Tryz.prog 4 #[.slice a1 n1 c1] w fun r w' => r = .returned (.bool true) ∧ Below w.heap.size w w' := by
  go_enter Tryz.func4, Tryz.ntmps4
  go_wp2
  go_ret
  exact ⟨rfl, Below.refl _ _⟩

/-- What is known on the way: a word in a block of its own, with its row. -/
structure Won (W : World) (B1 : Nat) (o1 : Obj) (a : Option Addr) (xs : List Sl) (w : World) : Prop where
  below : Below W.heap.size W w
  one : w.heap[B1]? = some o1
  r1 : SRow w a xs
theorem Won.next {W : World} {B1 : Nat} {o1 : Obj} {a : Option Addr} {xs : List Sl} {w w' : World} (h : Won W B1 o1 a xs w) (hb : Below w.heap.size w w') : Won W B1 o1 a xs w' :=
  ⟨h.below.trans (hb.mono h.below.size), (hb.block _ (Array.getElem?_eq_some_iff.1 h.one).1).trans h.one, h.r1.later hb⟩

set_option maxHeartbeats 2000000 in
set_option maxRecDepth 100000 in
theorem mback_short (a1 : Option Addr) (n1 c1 : Nat) (w : World) (g1 : (n1 : Int) ≤ 1048576) (h1 : Code w a1 n1 c1) (q1 q2 q3 : Option Addr) (hl : Lb w) (he : Er q1 q2 q3 w) (hF : Forms w)
    (hg : w.cell? ⟨1, 0, none⟩ = some (.iface 114 (.agg #[.pointer (some ⟨13, 44, none⟩)]))) :
    Calls Tryz.prog 4 #[.slice a1 n1 c1] w fun r w' => r = .returned (.bool true) ∧ Below w.heap.size w w' := by
  have HH : Hid (Code w a1 n1 c1) := h1
  have hgl : 1 < w.heap.size := block_lt_of_cell hg
  have HL : Hid (∀ {w'}, Below w.heap.size w w' → Lb w' ∧ Er q1 q2 q3 w' ∧ Forms w' ∧ w'.cell? ⟨1, 0, none⟩ = some (.iface 114 (.agg #[.pointer (some ⟨13, 44, none⟩)]))) := fun hb => ⟨hl.below hb, he.below hb, hF.later hb, (hb.cell (p := ⟨_, 0, none⟩) hgl).trans hg⟩
  clear h1 hl he hF hg
  go_enter Tryz.func4, Tryz.ntmps4
  go_wp2_with fail
  refine (drawMsgText_any a1 n1 c1 w HH.out).mono ?_
  rintro r1 w1 ⟨⟨m, n, k, f, a, xs, p1, rfl, R1, x3, _⟩, b1⟩
  have s1 : w.heap.size ≤ w1.heap.size := b1.size
  have D1 : Hid (Won w w1.heap.size (.cells #[.int .i64 m, .int .i64 n, .int .i64 k, .int .i64 f, .slice a xs.length p1] 24 (0, 0)) a xs (w1.alloc (.cells #[.int .i64 m, .int .i64 n, .int .i64 k, .int .i64 f, .slice a xs.length p1] 24 (0, 0)))) := ⟨b1.alloc s1 _, heap_alloc_new w1 _, R1.later ((Below.refl _ _).alloc (Nat.le_refl _) _)⟩
  clear b1 R1
  obtain ⟨X, hX⟩ : ∃ X, X = msgT m n k f xs := ⟨_, rfl⟩
  have IX : Hid (∀ w', Below w.heap.size w w' → SRow w' a xs → Calls Tryz.prog 12 #[.agg #[.int .i64 m, .int .i64 n, .int .i64 k, .int .i64 f, .slice a xs.length p1]] w' fun r w'' => r = .returned (.string X) ∧ Below w'.heap.size w' w'') := fun w' hb hr => by rw [hX]; exact implMT_any m n k f a p1 xs w' hr (by omega) (HL.out hb).2.2.1 (HL.out hb).1.tab
  have SX : Hid (∀ w', SRow w' a xs → Calls Tryz.prog 13 #[.agg #[.int .i64 m, .int .i64 n, .int .i64 k, .int .i64 f, .slice a xs.length p1]] w' fun r w'' => r = .returned (.string X) ∧ Below w'.heap.size w' w'') := fun w' hr => by rw [hX]; exact specMT_any m n k f a p1 xs w' hr (by omega)
  have EX : Hid (X = msgT m n k f xs) := hX
  clear hX HH
  go_wp2_with fail
  refine (IX.out _ D1.out.below D1.out.r1).mono ?_
  rintro r2 w2 ⟨rfl, b2⟩
  have D2 : Hid (Won w w1.heap.size (.cells #[.int .i64 m, .int .i64 n, .int .i64 k, .int .i64 f, .slice a xs.length p1] 24 (0, 0)) a xs w2) := D1.out.next b2
  clear b2 D1 IX
  obtain ⟨p0, p1', p2', p3, p4, pf, pl⟩ := cells5 D2.out.one
  go_wp2_with fail
  refine (SX.out _ D2.out.r1).mono ?_
  rintro r3 w3 ⟨rfl, b3⟩
  have D3 : Hid (Won w w1.heap.size (.cells #[.int .i64 m, .int .i64 n, .int .i64 k, .int .i64 f, .slice a xs.length p1] 24 (0, 0)) a xs w3) := D2.out.next b3
  clear b3 D2 p0 p1' p2' p3 p4 pf pl
  obtain ⟨p0, p1', p2', p3, p4, pf, pl⟩ := cells5 D3.out.one
  cases ex : X.toList.isEmpty
  · have hx0 := EX.out
    have ho : msgB m n k f xs = true := by
      cases h : msgB m n k f xs
      · rw [ByteArray.toList_eq, hx0, msgT_empty.2 h] at ex; simp at ex
      · rfl
    have HO : Hid (msgB m n k f xs = true) := ho
    clear hx0 ho
    go_wp2_with fail
    have HLL := HL.out D3.out.below
    have q4 := implMR_back HO.out q1 q2 q3 w3 HLL.1 HLL.2.1 HLL.2.2.1 HLL.2.2.2
    rw [← EX.out] at q4
    refine q4.mono ?_
    rintro r4 w4 ⟨⟨a', cap', rfl, R4⟩, b4⟩
    have ab := (Below.refl w4.heap.size w4).alloc (Nat.le_refl _) (.cells #[.int .i64 m, .int .i64 n, .int .i64 k, .int .i64 f, .slice a' xs.length cap'] 24)
    have D5 : Hid (Won w w1.heap.size (.cells #[.int .i64 m, .int .i64 n, .int .i64 k, .int .i64 f, .slice a xs.length p1] 24 (0, 0)) a xs (w4.alloc (.cells #[.int .i64 m, .int .i64 n, .int .i64 k, .int .i64 f, .slice a' xs.length cap'] 24))) := (D3.out.next b4).next ab
    have X5 : Hid (Won w4 w4.heap.size (.cells #[.int .i64 m, .int .i64 n, .int .i64 k, .int .i64 f, .slice a' xs.length cap'] 24 (0, 0)) a' xs (w4.alloc (.cells #[.int .i64 m, .int .i64 n, .int .i64 k, .int .i64 f, .slice a' xs.length cap'] 24))) := ⟨ab, heap_alloc_new _ _, R4.later ab⟩
    have F5 : Hid (Forms (w4.alloc (.cells #[.int .i64 m, .int .i64 n, .int .i64 k, .int .i64 f, .slice a' xs.length cap'] 24))) := (HLL.2.2.1.later b4).later ab
    clear q4 HLL b4 D3 p0 p1' p2' p3 p4 pf pl ab R4
    obtain ⟨p0, p1', p2', p3, p4, pf, pl⟩ := cells5 D5.out.one
    obtain ⟨x0, x1, x2, x3', x4, xf, xl⟩ := cells5 X5.out.one
    go_wp2_with fail
    refine (lbMsg_any m n k f m n k f a' a cap' p1 xs xs _ X5.out.r1 D5.out.r1 (by omega) (by omega)).mono ?_
    rintro r6 w6 ⟨rfl, b6⟩
    have hsame : (m == m && n == n && k == k && f == f && eqS xs xs) = true := by simp [eqS_true]
    rw [hsame]
    have D6 := D5.out.next b6
    have HD6 : Hid (Won w w1.heap.size (.cells #[.int .i64 m, .int .i64 n, .int .i64 k, .int .i64 f, .slice a xs.length p1] 24 (0, 0)) a xs w6 ∧ Forms w6) := ⟨D6, F5.out.later b6⟩
    clear hsame b6 D5 X5 F5 p0 p1' p2' p3 p4 pf pl x0 x1 x2 x3' x4 xf xl
    obtain ⟨p0, p1', p2', p3, p4, pf, pl⟩ := cells5 D6.one
    clear D6
    go_wp2_with fail
    refine (implMsg_any m n k f a p1 xs w6 HD6.out.1.r1 (by omega) HD6.out.2).mono ?_
    rintro r7 w7 ⟨rfl, b7⟩
    rw [HO.out]
    have D7 : Hid (Below w.heap.size w w7) := (HD6.out.1.next b7).below
    clear b7 HD6 p0 p1' p2' p3 p4 pf pl
    go_wp2_with fail
    go_ret
    exact ⟨rfl, D7.out⟩
  · go_wp2_with fail
    refine (SX.out _ D3.out.r1).mono ?_
    rintro r4 w4 ⟨rfl, b4⟩
    have D4 : Hid (Below w.heap.size w w4) := (D3.out.next b4).below
    clear b4 D3 p0 p1' p2' p3 p4 pf pl
    go_wp2_with fail
    go_ret
    exact ⟨ret_bool (by simp), D4.out⟩

end Go.Proofs.YtnipdklaonjinaaGreatDoor
