/-
  The exact law on MsgRead, walked: it returns true at every text, and nothing that was in memory is turned.
-/
import Derived.Test.YtopikapamfmalaaGreatDoorMsgTwo
import Derived.Test.YtopikapamfmalaaGreatDoorMsgMk
import Derived.Test.YtopikapamfmalaaGreatDoorMsgEq
namespace Go.Proofs.YtopikapamfmalaaGreatDoor
open Go.RowKit

theorem markSeal_own3 {w : World} {base : Nat} {v : Value} {zs : List Sl} (k0 : Int) (h : OwnS w base v zs) (hn : zs.length ≤ 2000000) (h0 : 0 ≤ k0) (h1 : k0 ≤ 100000000) :
    Calls Tryz.prog 22 #[v, .int .i64 k0] w fun r w' => r = .returned (.int .i64 (k0 + 7 * zs.length)) ∧ w.grownBy w' v.ownBlock ∧ Mk7 w' v zs.length k0 := by
  rcases h.2 with ⟨rfl, h2⟩ | ⟨g, cap, cur, rfl, h2, h3, h4, _, h5, _⟩
  · refine (markSeal_nil none 0 k0 w).mono ?_
    rintro r w' ⟨rfl, rfl⟩
    exact ⟨by rw [h2]; simp, ⟨rfl, rfl, rfl, Nat.le_refl _, fun _ _ _ => rfl⟩, none, 0, by rw [h2], Or.inl h2⟩
  · refine (markSealS_any g zs.length cap k0 w ⟨cur, _, h3, by omega⟩ hn h0 h1).mono ?_
    rintro r w' ⟨rfl, ht, hw, hc⟩
    exact ⟨rfl, ⟨ht.os, ht.tape, ht.output, Nat.le_of_eq ht.size.symm, fun k _ hk => ht.block k (fun e => hk (by rw [e]; rfl))⟩, _, cap, rfl, Or.inr ⟨g, rfl, hw.lt, hc⟩⟩
set_option maxHeartbeats 1000000 in
theorem markMsg_own3 (m n k f : Int) {w : World} {base : Nat} {v : Value} {zs : List Sl} (k0 : Int) (h : OwnS w base v zs) (hn : zs.length ≤ 2000000) (h0 : 0 ≤ k0) (h1 : k0 ≤ 100000000) :
    Calls Tryz.prog 8 #[.agg #[.int .i64 m, .int .i64 n, .int .i64 k, .int .i64 f, v], .int .i64 k0] w fun r w' => r = .returned (.int .i64 (k0 + 7 * zs.length)) ∧ w.grownBy w' v.ownBlock ∧ Mk7 w' v zs.length k0 := by
  obtain ⟨a, cap, rfl, _⟩ := h.row
  have HO : Hid (OwnS w base (.slice a zs.length cap) zs) := h
  clear h
  go_enter Tryz.func8, Tryz.ntmps8
  go_wp2_with fail
  refine (markSeal_own3 k0 (OwnS.later HO.out (Below.alloc_ _ _)) hn h0 h1).mono ?_
  rintro r w2 ⟨rfl, b2, m2⟩
  go_wp2_with fail
  go_ret
  exact ⟨rfl, (World.grownBy_alloc _ _ _).trans b2, m2⟩

/-- On the way: what the specification answered lies below, what the program answered above. -/
structure Em (V : World) (b5 : Nat) (cs : Array Value) (W : World) : Prop where
  bel : Below V.heap.size V W
  i5 : W.heap[b5]? = some (.cells cs 24 (0, 0))
theorem Em.next {V : World} {b5 : Nat} {cs : Array Value} {W W' : World} (h : Em V b5 cs W) (hb : Below W.heap.size W W') : Em V b5 cs W' :=
  ⟨h.bel.trans (hb.mono h.bel.size), (hb.block _ (Array.getElem?_eq_some_iff.1 h.i5).1).trans h.i5⟩
theorem Em.grown {V : World} {b5 : Nat} {cs : Array Value} {W W' : World} {v : Value} {xs : List Sl} (h : Em V b5 cs W) (o : OwnS W V.heap.size v xs) (hg : W.grownBy W' v.ownBlock) : Em V b5 cs W' := by
  refine ⟨h.bel.grown hg h.bel.size o.lo, ?_⟩
  exact (hg.block b5 (Array.getElem?_eq_some_iff.1 h.i5).1 (fun e => by
    obtain ⟨cur, hc⟩ := own_type o e.symm
    exact type_ne h.i5 hc (by decide) rfl)).trans h.i5

set_option maxHeartbeats 400000 in
theorem exread_long (s : ByteArray) (w : World) (h : 1048576 < (s.size : Int)) :
    Calls Tryz.prog 3 #[.string s] w fun r w' => r = .returned (.bool true) ∧ Below w.heap.size w w' := by
  go_enter Tryz.func3, Tryz.ntmps3
  go_wp2
  go_ret
  exact ⟨rfl, Below.refl _ _⟩

set_option maxHeartbeats 4000000 in
set_option maxRecDepth 100000 in
theorem exread_short (s : ByteArray) (w : World) (g1 : (s.size : Int) ≤ 1048576) (p1 p2 p3 : Option Addr) (hm : Mem6 p1 p2 p3 w) :
    Calls Tryz.prog 3 #[.string s] w fun r w' => r = .returned (.bool true) ∧ Below w.heap.size w w' := by
  have HM : Hid (Mem6 p1 p2 p3 w) := hm
  clear hm
  obtain ⟨m, n, k, f, xs, b, hx2, _, hs, hi⟩ := read_two s
  have HR : Hid (SpecR s m n k f xs b ∧ ImplR s m n k f xs b) := ⟨hs, hi⟩
  clear hs hi
  go_enter Tryz.func3, Tryz.ntmps3
  go_wp2_with fail
  refine (HR.out.1 _).mono ?_
  rintro r1 w1 ⟨⟨a1, c1, rfl, hr1⟩, b1⟩
  go_wp2_with fail
  obtain ⟨V1, hV1, S1⟩ : ∃ V, V = w1.alloc (.cells #[.int .i64 m, .int .i64 n, .int .i64 k, .int .i64 f, .slice a1 xs.length c1] 24) ∧ Hid (V.heap[w1.heap.size]? = some (.cells #[.int .i64 m, .int .i64 n, .int .i64 k, .int .i64 f, .slice a1 xs.length c1] 24 (0, 0)) ∧ SRow V a1 xs ∧ Below w.heap.size w V ∧ w1.heap.size < V.heap.size) := ⟨_, rfl, heap_alloc_new _ _, hr1.later (Below.alloc_ _ _), b1.alloc b1.size _, by simp⟩
  rw [← hV1]
  clear hV1 hr1 b1
  refine (HR.out.2 V1 p1 p2 p3 (HM.out.later S1.out.2.2.1)).mono ?_
  rintro r2 w2 ⟨⟨a2, c2, rfl, o2⟩, b2⟩
  obtain ⟨z0, z1, z2, z3, z4, zf, zl⟩ := cells5 ((b2.block _ S1.out.2.2.2).trans S1.out.1)
  go_wp2_with fail
  obtain ⟨V2, hV2, S2⟩ : ∃ V, V = w2.alloc (.cells #[.int .i64 m, .int .i64 n, .int .i64 k, .int .i64 f, .slice a2 xs.length c2] 24) ∧ Hid (Em V1 w2.heap.size #[.int .i64 m, .int .i64 n, .int .i64 k, .int .i64 f, .slice a2 xs.length c2] V ∧ OwnS V V1.heap.size (.slice a2 xs.length c2) xs) := ⟨_, rfl, ⟨b2.alloc b2.size _, heap_alloc_new _ _⟩, o2.later (Below.alloc_ _ _)⟩
  rw [← hV2]
  clear hV2 o2 b2 z0 z1 z2 z3 z4 zf zl
  refine (eqMsg_same m n k f a2 a1 c2 c1 xs _ S2.out.2.rowAt (S1.out.2.1.later S2.out.1.bel) (by omega)).mono ?_
  rintro r3 w3 ⟨rfl, b3⟩
  have S3 : Hid (Em V1 w2.heap.size #[.int .i64 m, .int .i64 n, .int .i64 k, .int .i64 f, .slice a2 xs.length c2] w3 ∧ OwnS w3 V1.heap.size (.slice a2 xs.length c2) xs) := ⟨S2.out.1.next b3, S2.out.2.later b3⟩
  clear b3 S2
  obtain ⟨y0, y1, y2, y3, y4, yf, yl⟩ := cells5 S3.out.1.i5
  go_wp2_with fail
  refine (markMsg_own3 m n k f 1 S3.out.2 (by omega) (by omega) (by omega)).mono ?_
  rintro r4 w4 ⟨rfl, b4, m4⟩
  have S4 : Hid (Em V1 w2.heap.size #[.int .i64 m, .int .i64 n, .int .i64 k, .int .i64 f, .slice a2 xs.length c2] w4 ∧ Mk7 w4 (.slice a2 xs.length c2) xs.length 1) := ⟨S3.out.1.grown S3.out.2 b4, m4⟩
  clear b4 m4 S3 y0 y1 y2 y3 y4 yf yl
  obtain ⟨K, hK⟩ : ∃ K, K = (1 + 7 * (xs.length : Int)) := ⟨_, rfl⟩
  have hK0 : ¬ K < 0 := by omega
  have HK : Hid (K = (1 + 7 * (xs.length : Int))) := hK
  rw [← hK]
  clear hK
  obtain ⟨y0, y1, y2, y3, y4, yf, yl⟩ := cells5 S4.out.1.i5
  go_wp2_with fail
  refine (heldMsg_own m n k f 1 S4.out.2 (by omega) (by omega) (by omega)).mono ?_
  rintro r5 w5 ⟨rfl, b5⟩
  rw [← HK.out]
  have S5 : Hid (Em V1 w2.heap.size #[.int .i64 m, .int .i64 n, .int .i64 k, .int .i64 f, .slice a2 xs.length c2] w5 ∧ Mk7 w5 (.slice a2 xs.length c2) xs.length 1) := ⟨S4.out.1.next b5, S4.out.2.later b5⟩
  clear b5 S4 y0 y1 y2 y3 y4 yf yl
  go_wp2_with fail
  refine (HR.out.2 w5 p1 p2 p3 ((HM.out.later S1.out.2.2.1).later S5.out.1.bel)).mono ?_
  rintro r6 w6 ⟨⟨a3, c3, rfl, o3⟩, b6⟩
  obtain ⟨z0, z1, z2, z3, z4, zf, zl⟩ := cells5 (((S5.out.1.next b6).bel.block _ S1.out.2.2.2).trans S1.out.1)
  go_wp2_with fail
  obtain ⟨V6, hV6, S6⟩ : ∃ V, V = w6.alloc (.cells #[.int .i64 m, .int .i64 n, .int .i64 k, .int .i64 f, .slice a3 xs.length c3] 24) ∧ Hid (Em V1 w2.heap.size #[.int .i64 m, .int .i64 n, .int .i64 k, .int .i64 f, .slice a2 xs.length c2] V ∧ Mk7 V (.slice a2 xs.length c2) xs.length 1 ∧ OwnS V w5.heap.size (.slice a3 xs.length c3) xs ∧ V.heap[w6.heap.size]? = some (.cells #[.int .i64 m, .int .i64 n, .int .i64 k, .int .i64 f, .slice a3 xs.length c3] 24 (0, 0))) := ⟨_, rfl, (S5.out.1.next b6).next (Below.alloc_ _ _), (S5.out.2.later b6).later (Below.alloc_ _ _), o3.later (Below.alloc_ _ _), heap_alloc_new _ _⟩
  rw [← hV6]
  clear hV6 o3 b6 S5 z0 z1 z2 z3 z4 zf zl
  refine (eqMsg_same m n k f a3 a1 c3 c1 xs _ S6.out.2.2.1.rowAt (S1.out.2.1.later S6.out.1.bel) (by omega)).mono ?_
  rintro r7 w7 ⟨rfl, b7⟩
  have S7 : Hid (Em V1 w2.heap.size #[.int .i64 m, .int .i64 n, .int .i64 k, .int .i64 f, .slice a2 xs.length c2] w7 ∧ Mk7 w7 (.slice a2 xs.length c2) xs.length 1) := ⟨S6.out.1.next b7, S6.out.2.1.later b7⟩
  clear b7 S6
  obtain ⟨y0, y1, y2, y3, y4, yf, yl⟩ := cells5 S7.out.1.i5
  go_wp2_with fail
  refine (heldMsg_own m n k f 1 S7.out.2 (by omega) (by omega) (by omega)).mono ?_
  rintro r8 w8 ⟨rfl, b8⟩
  rw [← HK.out]
  have S8 : Hid (Below w.heap.size w w8) := S1.out.2.2.1.trans ((S7.out.1.next b8).bel.mono S1.out.2.2.1.size)
  clear b8 S7 y0 y1 y2 y3 y4 yf yl
  go_wp2_with fail
  go_ret
  exact ⟨rfl, S8.out⟩

end Go.Proofs.YtopikapamfmalaaGreatDoor
