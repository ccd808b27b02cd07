/-
  The law that a word is written in one way, walked: it returns true at whatever list of bytes, and nothing that was in memory is turned.
-/
import Derived.Test.YtopikapamfmalaaGreatDoorDrawMsgRead
import Derived.Test.YtopikapamfmalaaGreatDoorMsgLb
namespace Go.Proofs.YtopikapamfmalaaGreatDoor
open Go.RowKit

/-- On the way: what the specification answered lies below, what the program answered above. -/
structure Et (V : World) (b5 : Nat) (cs : Array Value) (a : Option Addr) (xs : List Sl) (W : World) : Prop where
  bel : Below V.heap.size V W
  i5 : W.heap[b5]? = some (.cells cs 24 (0, 0))
  row : SRow W a xs
theorem Et.next {V : World} {b5 : Nat} {cs : Array Value} {a : Option Addr} {xs : List Sl} {W W' : World} (h : Et V b5 cs a xs W) (hb : Below W.heap.size W W') : Et V b5 cs a xs W' :=
  ⟨h.bel.trans (hb.mono h.bel.size), (hb.block _ (Array.getElem?_eq_some_iff.1 h.i5).1).trans h.i5, h.row.later hb⟩

set_option maxHeartbeats 400000 in
theorem mstrict_long (a1 : Option Addr) (n1 c1 : Nat) (w : World) (h : 1048576 < (n1 : Int)) :
    Calls Tryz.prog 4 #[.slice a1 n1 c1] w fun r w' => r = .returned (.bool true) ∧ Below w.heap.size w w' := by
  go_enter Tryz.func4, Tryz.ntmps4
  go_wp2
  go_ret
  exact ⟨rfl, Below.refl _ _⟩

set_option maxHeartbeats 4000000 in
set_option maxRecDepth 100000 in
theorem mstrict_short (a0 : Option Addr) (n0 c0 : Nat) (w : World) (g1 : (n0 : Int) ≤ 1048576) (h1 : Code w a0 n0 c0) (q1 q2 q3 : Option Addr) (hl : Lb w) (he : Er q1 q2 q3 w) (hF : Forms w)
    (hg : w.cell? ⟨1, 0, none⟩ = some (.iface 113 (.agg #[.pointer (some ⟨13, 43, none⟩)]))) :
    Calls Tryz.prog 4 #[.slice a0 n0 c0] w fun r w' => r = .returned (.bool true) ∧ Below w.heap.size w w' := by
  have HH : Hid (Code w a0 n0 c0) := h1
  have HM : Hid (Mem6 q1 q2 q3 w) := ⟨hl, he, hF, hg⟩
  clear h1 hl he hF hg
  go_enter Tryz.func4, Tryz.ntmps4
  go_wp2_with fail
  refine (drawMsgRead_any a0 n0 c0 w HH.out).mono ?_
  rintro r0 w0 ⟨⟨t, ht, rfl⟩, b0⟩
  have HT : Hid (Below w.heap.size w w0) := b0
  clear b0 HH
  obtain ⟨m, n, k, f, xs, b, hx2, hb, hs, hi⟩ := read_two t
  have HR : Hid (SpecR t m n k f xs b ∧ ImplR t m n k f xs b) := ⟨hs, hi⟩
  have HB : Hid (b = true → msgB m n k f xs = true ∧ msgT m n k f xs = t) := hb
  have HE : Hid ((m == m && n == n && k == k && f == f && eqS xs xs) = true) := by show _ = true; simp [eqS_true]
  clear hs hi hb
  go_wp2_with fail
  refine (HR.out.1 _).mono ?_
  rintro r1 w1 ⟨⟨a1, c1, rfl, hr1⟩, b1⟩
  go_wp2_with fail
  obtain ⟨V1, hV1, S1⟩ : ∃ V, V = w1.alloc (.cells #[.int .i64 m, .int .i64 n, .int .i64 k, .int .i64 f, .slice a1 xs.length c1] 24) ∧ Hid (V.heap[w1.heap.size]? = some (.cells #[.int .i64 m, .int .i64 n, .int .i64 k, .int .i64 f, .slice a1 xs.length c1] 24 (0, 0)) ∧ SRow V a1 xs ∧ Below w.heap.size w V ∧ w1.heap.size < V.heap.size) := ⟨_, rfl, heap_alloc_new _ _, hr1.later (Below.alloc_ _ _), (HT.out.trans (b1.mono HT.out.size)).alloc (Nat.le_trans HT.out.size b1.size) _, by simp⟩
  rw [← hV1]
  clear hV1 hr1 b1
  refine (HR.out.2 V1 q1 q2 q3 (HM.out.later S1.out.2.2.1)).mono ?_
  rintro r2 w2 ⟨⟨a2, c2, rfl, o2⟩, b2⟩
  obtain ⟨z0, z1, z2, z3, z4, zf, zl⟩ := cells5 ((b2.block _ S1.out.2.2.2).trans S1.out.1)
  have S2 : Hid (Et V1 w2.heap.size #[.int .i64 m, .int .i64 n, .int .i64 k, .int .i64 f, .slice a2 xs.length c2] a2 xs (w2.alloc (.cells #[.int .i64 m, .int .i64 n, .int .i64 k, .int .i64 f, .slice a2 xs.length c2] 24))) := ⟨b2.alloc b2.size _, heap_alloc_new _ _, o2.rowAt.later (Below.alloc_ _ _)⟩
  clear o2 b2
  cases b
  · go_wp2_with fail
    refine (lbMsg_any m n k f m n k f a2 a1 c2 c1 xs xs _ S2.out.row (S1.out.2.1.later S2.out.bel) (by omega) (by omega)).mono ?_
    rintro r3 w3 ⟨rfl, b3⟩
    rw [HE.out]
    have S3 : Hid (Et V1 w2.heap.size #[.int .i64 m, .int .i64 n, .int .i64 k, .int .i64 f, .slice a2 xs.length c2] a2 xs w3) := S2.out.next b3
    clear b3 S2 z0 z1 z2 z3 z4 zf zl
    obtain ⟨z0, z1, z2, z3, z4, zf, zl⟩ := cells5 ((S3.out.bel.block _ S1.out.2.2.2).trans S1.out.1)
    obtain ⟨y0, y1, y2, y3, y4, yf, yl⟩ := cells5 S3.out.i5
    go_wp2_with fail
    refine (lbMsg_any m n k f m n k f a2 a1 c2 c1 xs xs _ S3.out.row (S1.out.2.1.later S3.out.bel) (by omega) (by omega)).mono ?_
    rintro r4 w4 ⟨rfl, b4⟩
    rw [HE.out]
    have S4 : Hid (Below w.heap.size w w4) := S1.out.2.2.1.trans ((S3.out.next b4).bel.mono S1.out.2.2.1.size)
    clear b4 S3 z0 z1 z2 z3 z4 zf zl y0 y1 y2 y3 y4 yf yl
    go_wp2_with fail
    go_ret
    exact ⟨rfl, S4.out⟩
  · have HB2 : Hid (msgB m n k f xs = true ∧ msgT m n k f xs = t) := HB.out rfl
    clear HB
    go_wp2_with fail
    refine (lbMsg_any m n k f m n k f a2 a1 c2 c1 xs xs _ S2.out.row (S1.out.2.1.later S2.out.bel) (by omega) (by omega)).mono ?_
    rintro r3 w3 ⟨rfl, b3⟩
    rw [HE.out]
    have S3 : Hid (Et V1 w2.heap.size #[.int .i64 m, .int .i64 n, .int .i64 k, .int .i64 f, .slice a2 xs.length c2] a2 xs w3) := S2.out.next b3
    clear b3 S2 z0 z1 z2 z3 z4 zf zl
    obtain ⟨y0, y1, y2, y3, y4, yf, yl⟩ := cells5 S3.out.i5
    go_wp2_with fail
    have M3 := (HM.out.later S1.out.2.2.1).later S3.out.bel
    refine (implMsg_any m n k f a2 c2 xs _ S3.out.row (by omega) M3.2.2.1).mono ?_
    clear M3
    rintro r4 w4 ⟨rfl, b4⟩
    rw [HB2.out.1]
    have S4 : Hid (Et V1 w2.heap.size #[.int .i64 m, .int .i64 n, .int .i64 k, .int .i64 f, .slice a2 xs.length c2] a2 xs w4) := S3.out.next b4
    clear b4 S3 y0 y1 y2 y3 y4 yf yl
    obtain ⟨y0, y1, y2, y3, y4, yf, yl⟩ := cells5 S4.out.i5
    go_wp2_with fail
    have M4 := (HM.out.later S1.out.2.2.1).later S4.out.bel
    refine (implMT_any m n k f a2 c2 xs _ S4.out.row (by omega) M4.2.2.1 M4.1.tab).mono ?_
    clear M4
    rintro r5 w5 ⟨rfl, b5⟩
    rw [HB2.out.2]
    have S5 : Hid (Below w.heap.size w w5) := S1.out.2.2.1.trans ((S4.out.next b5).bel.mono S1.out.2.2.1.size)
    clear b5 S4 y0 y1 y2 y3 y4 yf yl
    have hq : (t.toList == t.toList) = true := by simp
    go_wp2_with fail
    go_ret
    exact ⟨rfl, S5.out⟩

end Go.Proofs.YtopikapamfmalaaGreatDoor
