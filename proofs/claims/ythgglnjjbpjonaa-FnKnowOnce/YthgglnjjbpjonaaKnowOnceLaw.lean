/-
  The law 'who has come to all comes to nothing more', walked at every list of bytes: it returns true, and nothing that was in memory is turned.
-/
import Derived.Test.YthgglnjjbpjonaaKnowKeysS
import Derived.Test.YthgglnjjbpjonaaKnowKeysI
import Derived.Test.YthgglnjjbpjonaaDrawKnowKeys
import Derived.Test.YthgglnjjbpjonaaIntLb
namespace Go.Proofs.Ythgglnjjbpjonaa
open Go.RowKit

theorem Right.once {ks : List Int} {xs : List Sl} {H : List Bool} (h : Right ks xs H) (n : Int) : Come (keysOf H 61) xs n ↔ Come ks xs n := by
  constructor
  · exact Come.back (fun m hm => Or.inr (h.mem.1 hm)) (fun s hs => Or.inl hs)
  · intro hn
    obtain ⟨h1, h2⟩ := hn.range
    exact .had (h.mem.2 hn) h1 h2
theorem Come.turn {ks : List Int} {xs : List Sl} (n : Int) : Come ks xs.reverse n ↔ Come ks xs n :=
  ⟨Come.mono (fun _ h => h) (fun _ h => List.mem_reverse.1 h), Come.mono (fun _ h => h) (fun _ h => List.mem_reverse.2 h)⟩
theorem Come.none {xs : List Sl} {n : Int} (h : Come [] xs n) : False :=
  h.ind (P := fun _ => False) (fun _ h _ _ => by simp at h) (fun _ _ _ ih _ => ih)
theorem keysOf_nil {xs : List Sl} {H : List Bool} (h : Right [] xs H) : keysOf H 61 = [] := by
  cases hl : keysOf H 61 with
  | nil => rfl
  | cons n l => exact (h.mem.1 (by rw [hl]; exact List.mem_cons_self)).none.elim

set_option maxRecDepth 100000 in
set_option maxHeartbeats 1000000 in
theorem knowOnce_long (a : Option Addr) (len cap : Nat) (w : World) (h : 1048576 < (len : Int)) :
    Calls Try.prog 5 #[.slice a len cap] w fun r w' => r = .returned (.bool true) ∧ Below w.heap.size w w' := by
  go_enter Try.func5, Try.ntmps5
  go_wp2_with fail
  go_ret
  exact ⟨rfl, Below.refl _ _⟩

/-- On the way: the seals turned round, from the last one on. -/
structure Bk (W : World) (xs : List Sl) (m : Nat) (v : Value) (w : World) : Prop where
  own : w.ownsRow W.heap.size 40 7 v (xs.drop m).reverse.length (cellsL (xs.drop m).reverse)
  below : Below W.heap.size W w
theorem Bk.step {W : World} {xs : List Sl} {m : Nat} {v v' : Value} {w w1 : World} {o : Obj} {s : Sl} (h : Bk W xs (m + 1) v w) (hs : xs[m]? = some s)
    (ho : w1.ownsRow W.heap.size 40 7 v' ((xs.drop (m + 1)).reverse.length + 1) (cellsL (xs.drop (m + 1)).reverse ++ s.cs)) (hg : (w.alloc o).grownBy w1 v.ownBlock) : Bk W xs m v' w1 := by
  have hal := (World.grownBy_alloc w o v.ownBlock).trans hg
  have hd : xs.drop m = s :: xs.drop (m + 1) := by
    obtain ⟨hl, he⟩ := List.getElem?_eq_some_iff.1 hs
    rw [List.drop_eq_getElem_cons hl, he]
  refine ⟨?_, h.below.grown hal h.below.size (fun k hk => (h.own.lt k hk).1)⟩
  rw [hd, List.reverse_cons, cellsL_add]
  simpa using ho

set_option maxRecDepth 100000 in
set_option maxHeartbeats 4000000 in
theorem knowOnce_short (a : Option Addr) (len cap : Nat) (w : World) (h : (len : Int) ≤ 1048576) (hc : Code w a len cap) :
    Calls Try.prog 5 #[.slice a len cap] w fun r w' => r = .returned (.bool true) ∧ Below w.heap.size w w' := by
  obtain ⟨i0, hi, hz0, hz1, hz2⟩ := info_parts infoSealM
  go_enter Try.func5, Try.ntmps5
  go_wp2_with fail
  refine (drawKeys_any a len cap w hc).mono ?_
  rintro r w1 ⟨a1, c1, ks, a2, c2, xs, rfl, d1⟩
  have D1 : Hid (Drawn w a1 ks a2 xs w1) := d1
  clear d1 hc
  have f1 := D1.out.few1
  have f2 := D1.out.few2
  go_wp2_with fail
  refine (implKeys_any a1 a2 c1 c2 ks xs w1 D1.out.keys D1.out.seals (by omega) (by omega)).mono ?_
  rintro r w2 ⟨⟨v2, H, rfl, hR, o2⟩, b2⟩
  obtain ⟨aa, ca, rfl, i2⟩ := o2.row
  have D2 : Hid (Drawn w a1 ks a2 xs w2) := D1.out.later b2
  have I2 : Hid (IRow w2 aa (keysOf H 61)) := i2
  have HR : Hid (Right ks xs H) := hR
  have hkl := keysOf_len H 61
  clear D1 b2 o2 i2 hR
  go_wp2_with fail
  refine (specKeys_any a1 a2 c1 c2 ks xs w2 D2.out.keys D2.out.seals (by omega) (by omega)).mono ?_
  rintro r w3 ⟨⟨v3, H', rfl, hR', o3⟩, b3⟩
  obtain rfl : H = H' := HR.out.one hR' (fun _ => Iff.rfl)
  obtain ⟨az, cz, rfl, i3⟩ := o3.row
  have D3 : Hid (Drawn w a1 ks a2 xs w3) := D2.out.later b3
  have I3 : Hid (IRow w3 aa (keysOf H 61)) := I2.out.later b3
  clear D2 I2 b3 o3 hR'
  go_wp2_with fail
  refine (lbInts_same aa az ca cz (keysOf H 61) w3 I3.out i3 (by omega)).mono ?_
  rintro r w4 ⟨rfl, b4⟩
  have D4 : Hid (Drawn w a1 ks a2 xs w4) := D3.out.later b4
  have I4 : Hid (IRow w4 aa (keysOf H 61)) := I3.out.later b4
  clear D3 I3 b4 i3
  have hwl : IntKind.i64.wrap ((xs.length : Int) - 1) = (xs.length : Int) - 1 := wrapM (by omega) (by omega)
  have T0 : Hid (Bk w4 xs xs.length (.slice (some ⟨w4.heap.size, 0, none⟩) 0 0) (w4.alloc (.cells #[] 40))) := by
    refine ⟨?_, Below.alloc_ _ _⟩
    rw [List.drop_length]
    exact ⟨rfl, Or.inr ⟨w4.heap.size, 0, #[], rfl, Nat.le_refl _, heap_alloc_new _ _, Nat.le_refl _, Nat.zero_le _, rfl, rfl⟩⟩
  go_wp2_with fail
  go_loopw [6, 7] (fun v i wr => ∃ (m : Nat), m ≤ xs.length ∧ i = .int .i64 ((m : Int) - 1) ∧ Hid (Bk w4 xs m v wr)) (fun _ i _ => (intOf i + 1).toNat)
  case atStart => exact ⟨xs.length, Nat.le_refl _, rfl, T0⟩
  case round =>
    clear T0
    obtain ⟨m, hm, rfl, C⟩ := hrel
    cases m with
    | zero =>
      have D5 : Hid (Drawn w a1 ks a2 xs wr) := D4.out.later C.out.below
      have I5 : Hid (IRow wr aa (keysOf H 61)) := I4.out.later C.out.below
      have hown := C.out.own
      rw [List.drop_zero] at hown
      obtain ⟨ab, cb, rfl, _, r5, _⟩ := own_row hown
      have R5 : Hid (SRow wr ab xs.reverse) := r5
      clear D4 I4 C hown r5
      have hrl : xs.reverse.length = xs.length := List.length_reverse
      go_wp2_with fail
      refine (implKeys_any aa a2 ca c2 (keysOf H 61) xs wr I5.out D5.out.seals (by omega) (by omega)).mono ?_
      rintro r w6 ⟨⟨v6, H', rfl, hR', o6⟩, b6⟩
      obtain rfl : H' = H := hR'.one HR.out (fun n => HR.out.once n)
      obtain ⟨a6, c6, rfl, i6⟩ := o6.row
      have D6 : Hid (Drawn w a1 ks a2 xs w6) := D5.out.later b6
      have I6 : Hid (IRow w6 aa (keysOf H' 61)) := I5.out.later b6
      have R6 : Hid (SRow w6 ab xs.reverse) := R5.out.later b6
      clear D5 I5 R5 b6 o6 hR'
      go_wp2_with fail
      refine (lbInts_same a6 aa c6 ca (keysOf H' 61) w6 i6 I6.out (by omega)).mono ?_
      rintro r w7 ⟨rfl, b7⟩
      have D7 : Hid (Drawn w a1 ks a2 xs w7) := D6.out.later b7
      have I7 : Hid (IRow w7 aa (keysOf H' 61)) := I6.out.later b7
      have R7 : Hid (SRow w7 ab xs.reverse) := R6.out.later b7
      clear D6 I6 R6 b7 i6
      go_wp2_with fail
      have q8 := implKeys_any a1 ab c1 cb ks xs.reverse w7 D7.out.keys R7.out (by omega) (by omega)
      rw [hrl] at q8
      refine q8.mono ?_
      rintro r w8 ⟨⟨v8, H8, rfl, hR8, o8⟩, b8⟩
      obtain rfl : H8 = H' := hR8.one HR.out (fun n => Come.turn n)
      obtain ⟨a8, c8, rfl, i8⟩ := o8.row
      have D8 : Hid (Drawn w a1 ks a2 xs w8) := D7.out.later b8
      have I8 : Hid (IRow w8 aa (keysOf H8 61)) := I7.out.later b8
      clear D7 I7 R7 b8 o8 hR8 q8
      go_wp2_with fail
      refine (lbInts_same a8 aa c8 ca (keysOf H8 61) w8 i8 I8.out (by omega)).mono ?_
      rintro r w9 ⟨rfl, b9⟩
      have D9 : Hid (Drawn w a1 ks a2 xs w9) := D8.out.later b9
      clear D8 I8 b9 i8
      go_wp2_with fail
      refine (implKeys_any none a2 0 c2 [] xs w9 (Or.inl rfl) D9.out.seals (by simp) (by omega)).mono ?_
      rintro r w10 ⟨⟨v10, H10, rfl, hR10, o10⟩, b10⟩
      rw [keysOf_nil hR10] at o10
      obtain ⟨a10, c10, rfl, _⟩ := o10.row
      have D10 : Hid (Drawn w a1 ks a2 xs w10) := D9.out.later b10
      clear D9 b10 o10 hR10
      go_wp2_with fail
      go_ret
      exact ⟨rfl, D10.out.below⟩
    | succ m =>
      obtain ⟨s, hs⟩ : ∃ s, xs[m]? = some s := ⟨xs[m], List.getElem?_eq_getElem (by omega)⟩
      have hrw : ((m + 1 : Nat) : Int) - 1 = m := by omega
      rw [hrw]
      have hse := (D4.out.later C.out.below).seals
      rcases hse with hn | ⟨b, off, rfl, hl, hr⟩
      · rw [hn] at hs; simp at hs
      obtain ⟨k0, k1, k2, k3, k4, k5, k6⟩ := hr m s hs
      have hsz := C.out.below.size
      have hlen : (xs.drop (m + 1)).reverse.length ≤ 8 := by rw [List.length_reverse, List.length_drop]; omega
      have hwm : IntKind.i64.wrap ((m : Int) - 1) = (m : Int) - 1 := wrapM (by omega) (by omega)
      clear hr D4 I4
      go_wp2_with (first
        | (at_builtin; refine wpList_append_own_at _ rfl _ _ 27 rfl w4.heap.size 40 i0 (.agg #[.int .i64 0, .int .i64 0, .int .i64 0, .int .i64 0, .int .i64 0, .int .i64 0, .int .i64 0]) 7 56 Try.underlying27 hi hz0 hz1 hz2 rfl (by decide) _ _ _ rfl (C.out.own.alloc _) ⟨wr.heap.size, 0, none⟩ 1 1 s.cs rfl rfl (cs_at ⟨by go_simp, by go_simp, by go_simp, by go_simp, by go_simp, by go_simp, by go_simp⟩) (cs_one s) (by unfold maxLen; omega) (by omega) (by simp; omega) ?_; intro v' w6 hown' hgrow hnil hloc)
        | go_in)
      go_roundw
      case rel => exact ⟨m, by omega, rfl, C.out.step hs hown' hgrow⟩
      case measure => simp [intOf]

end Go.Proofs.Ythgglnjjbpjonaa
