/-
  The law 'who reads more has more', walked at every list of bytes: it returns true, and nothing that was in memory is turned.
-/
import Derived.Test.YtadjphljohdieaaKnowReadS
import Derived.Test.YtadjphljohdieaaDrawKnowRead
import Derived.Test.YtadjphljohdieaaIntLb
import Derived.Test.YtadjphljohdieaaSealLb
namespace Go.Proofs.Ytadjphljohdieaa
open Go.RowKit
attribute [local go_sem ↓] Go.wp_at_zero Go.wp_at_succ

theorem Right.once' {ks : List Int} {xs : List Sl} {H : List Bool} (h : Right ks xs H) (n : Int) : Come (keysOf H 61) xs n ↔ Come ks xs n := by
  constructor
  · exact Come.back (fun m hm => Or.inr (h.mem.1 hm)) (fun s hs => Or.inl hs)
  · intro hn
    obtain ⟨h1, h2⟩ := hn.range
    exact .had (h.mem.2 hn) h1 h2
theorem Right.reads {ks : List Int} {xs : List Sl} {H : List Bool} (h : Right ks xs H) {s : Sl} (hs : s ∈ readOf H xs xs.length) (hi : s.inn ≠ 0) : s.inn ∈ keysOf H 61 := by
  unfold readOf at hs
  rw [List.take_length, List.mem_filter, Bool.and_eq_true] at hs
  obtain ⟨h1, h2⟩ := Sl.key_of_ok hs.2.1
  refine h.mem.2 (.read hs.1 ?_ hi)
  have := (h.iff s.k.toNat (by omega)).1 hs.2.2
  rwa [Int.toNat_of_nonneg (by omega)] at this

set_option maxRecDepth 100000 in
set_option maxHeartbeats 1000000 in
theorem knowReads_long (a : Option Addr) (len cap : Nat) (w : World) (h : 1048576 < (len : Int)) :
    Calls Try.prog 5 #[.slice a len cap] w fun r w' => r = .returned (.bool true) ∧ Below w.heap.size w w' := by
  go_enter Try.func5, Try.ntmps5
  go_wp2_with fail
  go_ret
  exact ⟨rfl, Below.refl _ _⟩

set_option maxRecDepth 100000 in
set_option maxHeartbeats 8000000 in
theorem knowReads_short (a : Option Addr) (len cap : Nat) (w : World) (h : (len : Int) ≤ 1048576) (hc : Code w a len cap) :
    Calls Try.prog 5 #[.slice a len cap] w fun r w' => r = .returned (.bool true) ∧ Below w.heap.size w w' := by
  go_enter Try.func5, Try.ntmps5
  go_wp2_with fail
  refine (drawRead_any a len cap w hc).mono ?_
  rintro r w1 ⟨a1, c1, ks, a2, c2, xs, rfl, d1⟩
  have D1 : Hid (Drawn w a1 ks a2 xs w1) := d1
  clear d1 hc
  have f1 := D1.out.few1
  have f2 := D1.out.few2
  go_wp2_with fail
  refine (implRead_any a1 a2 c1 c2 ks xs w1 D1.out.keys D1.out.seals (by omega) (by omega)).mono ?_
  rintro r w2 ⟨⟨v2, H, rfl, hR, o2⟩, b2⟩
  obtain ⟨aa, ca, rfl, i2⟩ := o2.row
  have D2 : Hid (Drawn w a1 ks a2 xs w2) := D1.out.later b2
  have I2 : Hid (SRow w2 aa (readOf H xs xs.length)) := i2
  have HR : Hid (Right ks xs H) := hR
  have hrl := readOf_len H xs xs.length
  clear D1 b2 o2 i2 hR
  go_wp2_with fail
  refine (specRead_any a1 a2 c1 c2 ks xs w2 D2.out.keys D2.out.seals (by omega) (by omega)).mono ?_
  rintro r w3 ⟨⟨v3, H', rfl, hR', o3⟩, b3⟩
  obtain rfl : H = H' := HR.out.one hR' (fun _ => Iff.rfl)
  obtain ⟨az, cz, rfl, i3⟩ := o3.row
  have D3 : Hid (Drawn w a1 ks a2 xs w3) := D2.out.later b3
  have I3 : Hid (SRow w3 aa (readOf H xs xs.length)) := I2.out.later b3
  clear D2 I2 b3 o3 hR'
  go_wp2_with fail
  refine (lbSeals_any aa az ca cz _ _ w3 I3.out i3 (by omega) (by omega)).mono ?_
  rintro r w4 ⟨rfl, b4⟩
  rw [eqS_true rfl]
  have D4 : Hid (Drawn w a1 ks a2 xs w4) := D3.out.later b4
  have I4 : Hid (SRow w4 aa (readOf H xs xs.length)) := I3.out.later b4
  clear D3 I3 b4 i3
  go_wp2_with fail
  refine (implKeys_any a1 a2 c1 c2 ks xs w4 D4.out.keys D4.out.seals (by omega) (by omega)).mono ?_
  rintro r w5 ⟨⟨v5, H', rfl, hR', o5⟩, b5⟩
  obtain rfl : H = H' := HR.out.one hR' (fun _ => Iff.rfl)
  obtain ⟨ab, cb, rfl, i5⟩ := o5.row
  have D5 : Hid (Drawn w a1 ks a2 xs w5) := D4.out.later b5
  have I5 : Hid (SRow w5 aa (readOf H xs xs.length)) := I4.out.later b5
  have J5 : Hid (IRow w5 ab (keysOf H 61)) := i5
  have hkl := keysOf_len H 61
  clear D4 I4 b5 o5 hR' i5
  go_wp2_with fail
  go_loopw [7] (fun i wr => ∃ (j : Nat), j ≤ (readOf H xs xs.length).length ∧ i = .int .i64 j ∧ Hid (Below w5.heap.size w5 wr)) (fun i _ => (readOf H xs xs.length).length - (intOf i).toNat)
  case atStart => exact ⟨0, Nat.zero_le _, rfl, Below.refl _ _⟩
  case round =>
    obtain ⟨j, hj, rfl, C⟩ := hrel
    by_cases hlt : j < (readOf H xs xs.length).length
    · obtain ⟨s, hs⟩ : ∃ s, (readOf H xs xs.length)[j]? = some s := ⟨(readOf H xs xs.length)[j], List.getElem?_eq_getElem hlt⟩
      rcases I5.out.later C.out with hz | ⟨b2, off2, rfl, hl2, hr2⟩
      · simp [hz] at hlt
      obtain ⟨c0, c1', c2', c3, c4, c5, c6⟩ := hr2 j s hs
      clear hr2
      go_wp2_with fail
      refine (implH_any _ _ _ _ _ _ _ _).mono ?_
      rintro r w6 ⟨rfl, hb6⟩
      have hinn : Go.Proofs.Ytadjphljohdieaa.hK s.k s.t s.a s.b s.c s.d s.e = s.inn := rfl
      rw [hinn]
      have C6 : Hid (Below w5.heap.size w5 w6) := C.out.trans (hb6.mono C.out.size)
      clear C c0 c1' c2' c3 c4 c5 c6 hb6 hinn
      by_cases hin : s.inn = 0
      · rw [hin]
        go_wp2_with fail
        go_roundw
        case rel => exact ⟨j + 1, by omega, by go_num, C6⟩
        case measure => simp [intOf]; omega
      · have hpos : 0 < s.inn := by rcases s.inn_cases with q | q <;> omega
        have hmem := HR.out.reads (List.mem_of_getElem? hs) hin
        go_wp2_with fail
        refine (lbHas_any ab cb (keysOf H 61) s.inn w6 (J5.out.later C6.out) (by omega)).mono ?_
        rintro r w' ⟨rfl, hw⟩
        rw [hw, decide_eq_true hmem]
        clear hw w'
        go_wp2_with fail
        go_roundw
        case rel => exact ⟨j + 1, by omega, by go_num, C6⟩
        case measure => simp [intOf]; omega
    · obtain rfl : j = (readOf H xs xs.length).length := by omega
      have D6 : Hid (Drawn w a1 ks a2 xs wr) := D5.out.later C.out
      have I6 : Hid (SRow wr aa (readOf H xs xs.length)) := I5.out.later C.out
      have J6 : Hid (IRow wr ab (keysOf H 61)) := J5.out.later C.out
      clear D5 I5 J5 C
      go_wp2_with fail
      refine (implRead_any ab a2 cb c2 (keysOf H 61) xs wr J6.out D6.out.seals (by omega) (by omega)).mono ?_
      rintro r w7 ⟨⟨v7, H', rfl, hR', o7⟩, b7⟩
      obtain rfl : H' = H := hR'.one HR.out (fun n => HR.out.once' n)
      obtain ⟨ay, cy, rfl, i7⟩ := o7.row
      have D7 : Hid (Drawn w a1 ks a2 xs w7) := D6.out.later b7
      have I7 : Hid (SRow w7 aa (readOf H' xs xs.length)) := I6.out.later b7
      clear D6 I6 J6 b7 o7 hR'
      go_wp2_with fail
      refine (lbSeals_any ay aa cy ca _ _ w7 i7 I7.out (by omega) (by omega)).mono ?_
      rintro r w8 ⟨rfl, b8⟩
      rw [eqS_true rfl]
      have D8 : Hid (Drawn w a1 ks a2 xs w8) := D7.out.later b8
      clear D7 I7 b8 i7
      go_wp2_with fail
      go_ret
      exact ⟨rfl, D8.out.below⟩

end Go.Proofs.Ytadjphljohdieaa
