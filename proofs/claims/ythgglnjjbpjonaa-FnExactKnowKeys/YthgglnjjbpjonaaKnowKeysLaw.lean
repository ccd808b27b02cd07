/-
  The law on KnowKeys, walked: it returns true at all keys and seals, and nothing that was in memory is turned.
-/
import Derived.Test.YthgglnjjbpjonaaKnowKeysS
import Derived.Test.YthgglnjjbpjonaaKnowKeysI
import Derived.Test.YthgglnjjbpjonaaKnowMarks
import Derived.Test.YthgglnjjbpjonaaKEq
namespace Go.Proofs.Ythgglnjjbpjonaa
open Go.RowKit

set_option maxRecDepth 100000 in
set_option maxHeartbeats 1000000 in
theorem lawKeys_long (a1 a2 : Option Addr) (c1 c2 n1 n2 : Nat) (w : World) (h : 1048576 < n1) :
    Calls Try.prog 3 #[.slice a1 n1 c1, .slice a2 n2 c2] w fun r w' => r = .returned (.bool true) ∧ Below w.heap.size w w' := by
  have h' : (1048576 : Int) < n1 := by omega
  go_enter Try.func3, Try.ntmps3
  go_wp2_with fail
  go_ret
  exact ⟨rfl, Below.refl _ _⟩
set_option maxRecDepth 100000 in
set_option maxHeartbeats 1000000 in
theorem lawKeys_long2 (a1 a2 : Option Addr) (c1 c2 n1 n2 : Nat) (w : World) (h : ¬ 1048576 < n1) (h2 : 1048576 < n2) (h3 : n2 ≤ 9223372036854775807) :
    Calls Try.prog 3 #[.slice a1 n1 c1, .slice a2 n2 c2] w fun r w' => r = .returned (.bool true) ∧ Below w.heap.size w w' := by
  have h' : ¬ (1048576 : Int) < n1 := by omega
  go_enter Try.func3, Try.ntmps3
  go_wp2_with (go_at_call 7; refine (szSealS_long a2 n2 c2 _ h2 h3).mono ?_; rintro e w1 ⟨rfl, rfl⟩)
  go_ret
  exact ⟨rfl, Below.refl _ _⟩

set_option maxRecDepth 100000 in
set_option maxHeartbeats 4000000 in
theorem lawKeys_short (a1 a2 : Option Addr) (c1 c2 : Nat) (ks : List Int) (xs : List Sl) (w : World) (h1 : IRow w a1 ks) (h2 : SRow w a2 xs) (hk : ks.length ≤ 1048576) (hx : xs.length ≤ 1048576) :
    Calls Try.prog 3 #[.slice a1 ks.length c1, .slice a2 xs.length c2] w fun r w' => r = .returned (.bool true) ∧ Below w.heap.size w w' := by
  have h' : ¬ (1048576 : Int) < ks.length := by omega
  have h'' : ¬ (1048576 - (xs.length : Int)) < 0 := by omega
  go_enter Try.func3, Try.ntmps3
  go_wp2_with (go_at_call 7; refine (szSealS_short a2 xs.length c2 _ hx).mono ?_; rintro e w1 ⟨rfl, hw⟩; rw [hw]; clear hw w1)
  -- what the specification says
  refine (toIntS_any a1 c1 ks w h1 (by omega)).mono ?_
  rintro r w1 ⟨rfl, k1, _, b1⟩
  have B1 : Hid (Below w.heap.size w w1) := b1
  go_wp2_with fail
  refine (toSealS_any a2 c2 xs w1 (h2.later b1) (by omega)).mono ?_
  rintro r w2 ⟨rfl, s2, b2⟩
  have B2 : Hid (Below w.heap.size w w2) := B1.out.trans (b2.mono B1.out.size)
  go_wp2_with fail
  refine (specKeys_any _ _ _ _ ks xs w2 (k1.later b2) s2 (by omega) (by omega)).mono ?_
  rintro r w3 ⟨⟨v0, H, rfl, hR, o3⟩, b3⟩
  have B3 : Hid (Below w.heap.size w w3) := B2.out.trans (b3.mono B2.out.size)
  obtain ⟨aw, cw, rfl, i3⟩ := o3.row
  have I3 : Hid (IRow w3 aw (keysOf H 61)) := i3
  clear k1 b1 s2 b2 o3 b3 i3 B1 B2
  have hlen := keysOf_len H 61
  -- what the program says
  go_wp2_with fail
  refine (toIntS_any a1 c1 ks w3 (h1.later B3.out) (by omega)).mono ?_
  rintro r w4 ⟨rfl, k4, wb4, b4⟩
  go_wp2_with fail
  refine (toSealS_wb a2 c2 xs w4 ((h2.later B3.out).later b4) (by omega)).mono ?_
  rintro r w5 ⟨rfl, s5, ⟨cu5, hc5, hs5⟩, b5⟩
  go_wp2_with fail
  refine (implKeys_any _ _ _ _ ks xs w5 (k4.later b5) s5 (by omega) (by omega)).mono ?_
  rintro r w6 ⟨⟨v6, H', rfl, hR', o6⟩, b6⟩
  obtain rfl : H = H' := hR.one hR' (fun _ => Iff.rfl)
  obtain ⟨ag, cg, rfl, i6⟩ := o6.row
  have L4 : w3.heap.size < w4.heap.size := wb4.lt
  have L5 : w4.heap.size < w5.heap.size := (Array.getElem?_eq_some_iff.1 hc5).1
  have L6 := b6.size
  have K6 : Hid (IRow w6 (some ⟨w3.heap.size, 0, none⟩) ks ∧ WB w6 w3.heap.size ks.length) := ⟨(k4.later b5).later b6, (wb4.same (b5.block _ L4)).same (b6.block _ (by omega))⟩
  have S6 : Hid (SRow w6 (some ⟨w4.heap.size, 0, none⟩) xs ∧ WB w6 w4.heap.size (xs.length * 7)) := ⟨s5.later b6, cu5, _, (b6.block _ L5).trans hc5, by omega⟩
  have b36 : Below w3.heap.size w3 w6 := b4.trans ((b5.mono (by omega)).trans (b6.mono (by omega)))
  have B6 : Hid (Below w3.heap.size w3 w6) := b36
  have O6 : Hid (OwnI w6 w5.heap.size (.slice ag (keysOf H 61).length cg) (keysOf H 61)) := o6
  have HR : Hid (Right ks xs H) := hR
  clear k4 wb4 b4 s5 hc5 b5 o6 b6 hR hR' b36
  go_wp2_with fail
  refine (eqIntS_same ag aw cg cw (keysOf H 61) w6 i6 (I3.out.later B6.out) (by omega)).mono ?_
  rintro r w7 ⟨rfl, b7⟩
  have B7 : Hid (Below w6.heap.size w6 w7) := b7
  have W7 : Hid (Below w.heap.size w w7) := (B3.out.trans (B6.out.mono B3.out.size)).trans (b7.mono (by have := B3.out.size; omega))
  clear b7 i6
  go_wp2_with fail
  refine (toIntS_any a1 c1 ks w7 (h1.later W7.out) (by omega)).mono ?_
  rintro r w8 ⟨rfl, k8, _, b8⟩
  have B8 : Hid (Below w6.heap.size w6 w8) := B7.out.trans (b8.mono B7.out.size)
  go_wp2_with fail
  refine (eqIntS_same _ _ _ _ ks w8 (K6.out.1.later B8.out) k8 (by omega)).mono ?_
  rintro r w9 ⟨rfl, b9⟩
  have B9 : Hid (Below w6.heap.size w6 w9) := B8.out.trans (b9.mono B8.out.size)
  have W9 : Hid (Below w.heap.size w w9) := W7.out.trans ((b8.mono W7.out.size).trans (b9.mono (by have := W7.out.size; have := b8.size; omega)))
  clear b8 b9 k8 B7 B8 W7
  go_wp2_with fail
  refine (toSealS_any a2 c2 xs w9 (h2.later W9.out) (by omega)).mono ?_
  rintro r w10 ⟨rfl, s10, b10⟩
  have B10 : Hid (Below w6.heap.size w6 w10) := B9.out.trans (b10.mono B9.out.size)
  go_wp2_with fail
  refine (eqSealS_same _ _ _ _ xs w10 (S6.out.1.later B10.out) s10 (by omega)).mono ?_
  rintro r w11 ⟨rfl, b11⟩
  have B11 : Hid (Below w6.heap.size w6 w11) := B10.out.trans (b11.mono B10.out.size)
  have W11 : Hid (Below w.heap.size w w11) := W9.out.trans ((b10.mono W9.out.size).trans (b11.mono (by have := W9.out.size; have := b10.size; omega)))
  have E11 : Hid (Below w3.heap.size w3 w11) := B6.out.trans (B11.out.mono (by omega))
  have O11 : Hid (OwnI w11 w5.heap.size (.slice ag (keysOf H 61).length cg) (keysOf H 61)) := O6.out.later B11.out
  have K11 : Hid (WB w11 w3.heap.size ks.length) := K6.out.2.same (B11.out.block _ (by omega))
  have S11 : Hid (WB w11 w4.heap.size (xs.length * 7)) := S6.out.2.same (B11.out.block _ (by omega))
  have L11 : w6.heap.size ≤ w11.heap.size := B11.out.size
  have L3 : w.heap.size ≤ w3.heap.size := B3.out.size
  clear b10 b11 s10 B9 B10 B11 W9 K6 S6 O6 B6 B3
  -- marks
  go_wp2_with fail
  refine (markIntS_any w3.heap.size ks.length ks.length 1 w11 K11.out (by omega) (by omega) (by omega)).mono ?_
  rintro r w12 ⟨rfl, t12, _, _⟩
  go_wp2_with fail
  refine (markSealS_any w4.heap.size xs.length xs.length _ w12 (S11.out.same (t12.block _ (by omega))) (by omega) (by omega) (by omega)).mono ?_
  rintro r w13 ⟨rfl, t13, _, _⟩
  have E13 : Hid (Below w3.heap.size w3 w13) := E11.out.trans ((t12.below (Nat.le_refl _)).trans (t13.below (by omega)))
  have W13 : Hid (Below w.heap.size w w13) := W11.out.trans ((t12.below (by omega)).trans (t13.below (by omega)))
  have O13 : Hid (OwnI w13 w5.heap.size (.slice ag (keysOf H 61).length cg) (keysOf H 61)) := (O11.out.touch t12 (by omega)).touch t13 L5
  have L13 : w6.heap.size ≤ w13.heap.size := by rw [t13.size, t12.size]; exact L11
  clear t12 t13 K11 S11 O11 E11 W11
  have hm0 : ¬ (1 + (ks.length : Int) + 7 * xs.length) < 0 := by omega
  obtain ⟨ag', cg', hag, i13⟩ := O13.out.row
  obtain ⟨rfl, rfl⟩ : ag = ag' ∧ cg = cg' := by injection hag with e1 e2 e3; exact ⟨e1, e3⟩
  clear hag
  go_wp2_with fail
  refine (eqIntS_same ag aw cg cw (keysOf H 61) w13 i13 (I3.out.later E13.out) (by omega)).mono ?_
  rintro r w14 ⟨rfl, b14⟩
  have E14 : Hid (Below w3.heap.size w3 w14) := E13.out.trans (b14.mono E13.out.size)
  have W14 : Hid (Below w.heap.size w w14) := W13.out.trans (b14.mono W13.out.size)
  have O14 : Hid (OwnI w14 w5.heap.size (.slice ag (keysOf H 61).length cg) (keysOf H 61)) := O13.out.later b14
  have L14 : w6.heap.size ≤ w14.heap.size := Nat.le_trans L13 b14.size
  clear b14 i13 O13 E13 W13
  go_wp2_with fail
  refine (markInt_own 1 O14.out (by omega) (by omega) (by omega) (by omega)).mono ?_
  rintro r w15 ⟨rfl, b15, m15⟩
  have E15 : Hid (Below w3.heap.size w3 w15) := E14.out.trans (b15.mono (by omega))
  have W15 : Hid (Below w.heap.size w w15) := W14.out.trans (b15.mono (by omega))
  have M15 : Hid (Mk w15 (.slice ag (keysOf H 61).length cg) (keysOf H 61).length 1) := m15
  clear b15 m15 O14 E14 W14
  have hq0 : ¬ (1 + ((keysOf H 61).length : Int)) < 0 := by omega
  go_wp2_with fail
  refine (heldInt_own 1 M15.out (by omega) (by omega) (by omega)).mono ?_
  rintro r w15' ⟨rfl, hw⟩
  rw [hw]
  clear hw w15'
  go_wp2_with fail
  -- once more
  refine (toIntS_any a1 c1 ks _ (h1.later W15.out) (by omega)).mono ?_
  rintro r w16 ⟨rfl, k16, _, b16⟩
  go_wp2_with fail
  refine (toSealS_any a2 c2 xs w16 ((h2.later W15.out).later b16) (by omega)).mono ?_
  rintro r w17 ⟨rfl, s17, b17⟩
  go_wp2_with fail
  refine (implKeys_any _ _ _ _ ks xs w17 (k16.later b17) s17 (by omega) (by omega)).mono ?_
  rintro r w18 ⟨⟨v18, H', rfl, hR', o18⟩, b18⟩
  obtain rfl : H = H' := HR.out.one hR' (fun _ => Iff.rfl)
  obtain ⟨ah, ch, rfl, i18⟩ := o18.row
  have b15 : Below w15.heap.size w15 w18 := b16.trans ((b17.mono b16.size).trans (b18.mono (Nat.le_trans b16.size b17.size)))
  have E18 : Hid (Below w3.heap.size w3 w18) := E15.out.trans (b15.mono E15.out.size)
  have W18 : Hid (Below w.heap.size w w18) := W15.out.trans (b15.mono W15.out.size)
  have M18 : Hid (Mk w18 (.slice ag (keysOf H 61).length cg) (keysOf H 61).length 1) := M15.out.later b15
  clear b15 b16 b17 b18 k16 s17 o18 E15 W15 M15 hR' h1 h2
  go_wp2_with fail
  refine (eqIntS_same ah aw ch cw (keysOf H 61) w18 i18 (I3.out.later E18.out) (by omega)).mono ?_
  rintro r w19 ⟨rfl, b19⟩
  have W19 : Hid (Below w.heap.size w w19) := W18.out.trans (b19.mono W18.out.size)
  have M19 : Hid (Mk w19 (.slice ag (keysOf H 61).length cg) (keysOf H 61).length 1) := M18.out.later b19
  clear b19 i18
  go_wp2_with fail
  refine (heldInt_own 1 M19.out (by omega) (by omega) (by omega)).mono ?_
  rintro r w20 ⟨rfl, hw⟩
  rw [hw]
  go_wp2_with fail
  go_ret
  exact ⟨rfl, W19.out⟩

theorem lawKeys_any (a1 a2 : Option Addr) (c1 c2 : Nat) (ks : List Int) (xs : List Sl) (w : World) (h1 : IRow w a1 ks) (h2 : SRow w a2 xs) (hx : xs.length ≤ 9223372036854775807) :
    Calls Try.prog 3 #[.slice a1 ks.length c1, .slice a2 xs.length c2] w fun r w' => r = .returned (.bool true) ∧ Below w.heap.size w w' := by
  by_cases q1 : 1048576 < ks.length
  · exact lawKeys_long _ _ _ _ _ _ w q1
  · by_cases q2 : 1048576 < xs.length
    · exact lawKeys_long2 _ _ _ _ _ _ w q1 q2 hx
    · exact lawKeys_short _ _ _ _ _ _ w h1 h2 (by omega) (by omega)

end Go.Proofs.Ythgglnjjbpjonaa
