/-
  The specification's l3All and KnowKeys: a row that is right about what one can come to, and the keys of it, ascending; nothing that was in memory is turned.
-/
import Derived.Test.YtepnijocfilgoaaDoorKnowBits
import Derived.Test.YtepnijocfilgoaaDoorSealSame
namespace Go.Proofs.YtepnijocfilgoaaDoor
open Go.RowKit

theorem infoBool : (Tryd.prog.info? 4).map (fun i => (i.zero, i.size, i.bytes)) = some (some (.bool false), 1, 1) := by kernel_rfl
theorem infoInt : (Tryd.prog.info? 3).map (fun i => (i.zero, i.size, i.bytes)) = some (some (.int .i64 0), 1, 8) := by kernel_rfl

/-- On the way through the keys. -/
structure Lk (W : World) (ks : List Int) (xs : List Sl) (j : Nat) (H : List Bool) (w : World) : Prop where
  bits : Bits w W.heap.size H
  below : Below W.heap.size W w
  sound : ∀ n : Nat, n < 61 → H.getD n false = true → Come ks xs n
  had : ∀ (i : Nat) n, i < j → ks[i]? = some n → 1 ≤ n → n ≤ 60 → H.getD n.toNat false = true
/-- On the way through the seals. -/
structure Ls (W : World) (ks : List Int) (xs : List Sl) (j : Nat) (H : List Bool) (w : World) : Prop where
  bits : Bits w W.heap.size H
  below : Below W.heap.size W w
  sound : ∀ n : Nat, n < 61 → H.getD n false = true → Come ks xs n
  had : ∀ n ∈ ks, 1 ≤ n → n ≤ 60 → H.getD n.toNat false = true
  closed : ∀ (i : Nat) s, i < j → xs[i]? = some s → s.inn ≠ 0 → H.getD s.k.toNat false = true → H.getD s.inn.toNat false = true

theorem made_cell (m n : Nat) (hn : n < m) : (madeCells #[Value.bool false] m)[n]? = some (.bool false) := by
  have e : n % 1 = 0 := by omega
  simp [madeCells, hn, e]
theorem bits_new (w : World) (t : TypeId) (c : Array Value) (hc : ∀ n, n < 61 → c[n]? = some (.bool false)) : Bits (w.alloc (.cells c t)) w.heap.size (List.replicate 61 false) := by
  refine ⟨List.length_replicate, ⟨_, _, heap_alloc_new _ _⟩, fun n hn => ?_⟩
  rw [cell_of_row _ _ _ _ _ _ (heap_alloc_new _ _), hc n hn, List.getD_eq_getElem?_getD, List.getElem?_replicate, if_pos hn]
  rfl
theorem no_bits (n : Nat) (hn : n < 61) : ¬ (List.replicate 61 false).getD n false = true := by
  rw [List.getD_eq_getElem?_getD, List.getElem?_replicate, if_pos hn]
  decide

set_option maxRecDepth 100000 in
set_option maxHeartbeats 2000000 in
theorem l3All_any (a1 a2 : Option Addr) (c1 c2 : Nat) (ks : List Int) (xs : List Sl) (w : World) (h1 : IRow w a1 ks) (h2 : SRow w a2 xs) (hk : ks.length ≤ 2000000) (hx : xs.length ≤ 2000000) :
    Calls Tryd.prog 27 #[.slice a1 ks.length c1, .slice a2 xs.length c2] w fun r w' => r = .returned (.slice (some ⟨w.heap.size, 0, none⟩) 61 61) ∧ (∃ H, Right ks xs H ∧ Bits w' w.heap.size H) ∧ Below w.heap.size w w' := by
  obtain ⟨i0, hi, hz0, hz1, hz2⟩ := info_parts infoBool
  go_enter Tryd.func27, Tryd.ntmps27
  go_wp2_with fail
  rw [run_makeSlice w 53 4 i0 _ Tryd.underlying53 hi hz0 .i64 .i64 61 61 (by omega) (by omega) (by rw [hz1]; omega) (by rw [hz2]; omega) (by omega)]
  rw [hz1]
  obtain ⟨W1, hW1⟩ : ∃ W1, W1 = w.alloc (.cells (madeCells (Value.bool false).cells (Int.toNat 61 * 1)) 4) := ⟨_, rfl⟩
  have T0 : Hid (Lk w ks xs 0 (List.replicate 61 false) W1) := by
    subst hW1
    exact ⟨bits_new _ _ _ (fun n hn => made_cell 61 n hn), (Below.refl _ _).alloc (Nat.le_refl _) _, fun n hn h => absurd h (no_bits n hn), fun i n hi => by omega⟩
  rw [← hW1]
  clear hW1 hi hz0 hz1 hz2
  have e61 : Int.toNat 61 = 61 := rfl
  rw [e61]
  go_wp2_with fail
  go_loopw [6] (fun i wr => ∃ (j : Nat) (H : List Bool), j ≤ ks.length ∧ i = .int .i64 j ∧ Hid (Lk w ks xs j H wr)) (fun i _ => ks.length - (intOf i).toNat)
  case atStart => exact ⟨0, _, Nat.zero_le _, rfl, T0⟩
  case round =>
    obtain ⟨j, H, hj, rfl, C⟩ := hrel
    clear T0
    by_cases hlt : j < ks.length
    · obtain ⟨n, hn⟩ : ∃ n, ks[j]? = some n := ⟨ks[j], List.getElem?_eq_getElem hlt⟩
      rcases h1 with h | ⟨b, off, rfl, hl, h1⟩
      · simp [h] at hlt
      have c0 := ((bcell C.out.below).1 _ _ hl).trans (h1 j n hn)
      go_wp2_with fail
      refine (l6In_any _ _ _ _).mono ?_
      rintro r w2 ⟨rfl, rfl⟩
      cases hin : inB n 1 60
      · go_wp2_with fail
        go_roundw
        case rel =>
          refine ⟨j + 1, H, by omega, by go_num, C.out.bits, C.out.below, C.out.sound, fun i m hi hm q1 q2 => ?_⟩
          by_cases e : i = j
          · subst e
            obtain rfl : n = m := Option.some.inj (hn.symm.trans hm)
            rw [inB_iff.2 ⟨q1, q2⟩] at hin
            cases hin
          · exact C.out.had i m (by omega) hm q1 q2
        case measure => simp [intOf]; omega
      · obtain ⟨g1, g2⟩ := inB_iff.1 hin
        obtain ⟨nn, rfl⟩ : ∃ nn : Nat, n = nn := ⟨n.toNat, by omega⟩
        have hn61 : nn < 61 := by omega
        have d0 := C.out.bits.cell nn hn61
        have f0 := C.out.bits.free nn
        go_wp2_with fail
        go_roundw
        case rel =>
          refine ⟨j + 1, H.set nn true, by omega, by go_num, C.out.bits.put hn61, C.out.below.setCell (Nat.le_refl _) _, fun m hm hh => ?_, fun i m hi hm q1 q2 => ?_⟩
          · rw [set_getD H nn m (by rw [C.out.bits.len]; exact hn61)] at hh
            by_cases e : m = nn
            · subst e
              exact .had (List.mem_of_getElem? hn) (by omega) (by omega)
            · rw [if_neg e] at hh
              exact C.out.sound m hm hh
          · rw [set_getD H nn _ (by rw [C.out.bits.len]; exact hn61)]
            by_cases e : i = j
            · subst e
              obtain rfl : (nn : Int) = m := Option.some.inj (hn.symm.trans hm)
              rw [if_pos (by simp)]
            · split
              · rfl
              · exact C.out.had i m (by omega) hm q1 q2
        case measure => simp [intOf]; omega
    · obtain rfl : j = ks.length := by omega
      have T1 : Hid (Ls w ks xs 0 H wr) := ⟨C.out.bits, C.out.below, C.out.sound, fun n hn q1 q2 => by
        obtain ⟨i, hi, he⟩ := List.mem_iff_getElem.1 hn
        exact C.out.had i n hi (by rw [List.getElem?_eq_getElem hi, he]) q1 q2, fun i s hi => by omega⟩
      clear C h1
      go_wp2_with fail
      go_loopw [7] (fun i wr => ∃ (j : Nat) (H : List Bool), j ≤ xs.length ∧ i = .int .i64 j ∧ Hid (Ls w ks xs j H wr)) (fun i wr => falsesW wr w.heap.size * (xs.length + 1) + (xs.length - (intOf i).toNat))
      case atStart => exact ⟨0, _, Nat.zero_le _, rfl, T1⟩
      case round =>
        clear T1 H
        obtain ⟨j, H, hj, rfl, C⟩ := hrel
        by_cases hlt : j < xs.length
        · obtain ⟨s, hs⟩ : ∃ s, xs[j]? = some s := ⟨xs[j], List.getElem?_eq_getElem hlt⟩
          rcases h2 with h | ⟨b, off, rfl, hl, h2⟩
          · simp [h] at hlt
          have hS := (h2 j s hs).later C.out.below hl
          clear h2
          have hfal := C.out.bits.falses
          by_cases hin : s.inn = 0
          · obtain ⟨c0, c1', c2', c3, c4, c5, c6⟩ := hS
            go_wp2_with fail
            refine (specH_any _ _ _ _ _ _ _ _).mono ?_
            rintro r w2 ⟨rfl, hb2⟩
            have e0 : hK s.k s.t s.a s.b s.c s.d s.e = 0 := hin
            rw [e0]
            have C2 : Hid (Ls w ks xs (j + 1) H w2) := ⟨C.out.bits.later hb2, C.out.below.trans (hb2.mono C.out.below.size), C.out.sound, C.out.had, fun i u hi hu q1 q2 => by
              by_cases e : i = j
              · subst e
                obtain rfl : s = u := Option.some.inj (hs.symm.trans hu)
                exact absurd hin q1
              · exact C.out.closed i u (by omega) hu q1 q2⟩
            clear c0 c1' c2' c3 c4 c5 c6
            have hfal2 := C2.out.bits.falses
            clear C hb2
            go_wp2_with fail
            go_roundw
            case rel => exact ⟨j + 1, H, by omega, by go_num, C2⟩
            case measure => rw [hfal2, hfal]; simp [intOf]; omega
          · obtain ⟨k1, k2⟩ := s.key_of_inn hin
            obtain ⟨q1, q2⟩ : 10 ≤ s.inn ∧ s.inn ≤ 60 := by rcases s.inn_cases with h | h; exact absurd h hin; exact h
            obtain ⟨kn, hkn⟩ : ∃ kn : Nat, s.k = kn := ⟨s.k.toNat, by omega⟩
            obtain ⟨pn, hpn⟩ : ∃ pn : Nat, s.inn = pn := ⟨s.inn.toNat, by omega⟩
            have hk61 : kn < 61 := by omega
            have hp61 : pn < 61 := by omega
            have hp0 : (0 : Int) < pn := by omega
            have e0 : hK s.k s.t s.a s.b s.c s.d s.e = pn := hpn
            rw [hkn] at e0
            obtain ⟨c0, c1', c2', c3, c4, c5, c6⟩ := hS
            rw [hkn] at c0
            have hlw : b < wr.heap.size := Nat.lt_of_lt_of_le hl C.out.below.size
            go_wp2_with fail
            refine (specH_any _ _ _ _ _ _ _ _).mono ?_
            rintro r w2 ⟨rfl, hb2⟩
            rw [e0]
            have B2 : Hid (Bits w2 w.heap.size H) := C.out.bits.later hb2
            have d0 := ((bcell hb2).1 b (off + j * 7) hlw).trans c0
            have dk := B2.out.cell kn hk61
            have dp := B2.out.cell pn hp61
            have fp := B2.out.free pn
            have L2 : Hid (Below w.heap.size w w2) := C.out.below.trans (hb2.mono C.out.below.size)
            have hfal2 := B2.out.falses
            clear c0 c1' c2' c3 c4 c5 c6 hb2
            cases hk' : H.getD kn false
            · rw [hk'] at dk
              go_wp2_with fail
              go_roundw
              case rel =>
                refine ⟨j + 1, H, by omega, by go_num, B2.out, L2.out, C.out.sound, C.out.had, fun i u hi hu r1 r2 => ?_⟩
                by_cases e : i = j
                · subst e
                  obtain rfl : s = u := Option.some.inj (hs.symm.trans hu)
                  rw [hkn] at r2
                  simp only [Int.toNat_natCast] at r2
                  rw [hk'] at r2
                  cases r2
                · exact C.out.closed i u (by omega) hu r1 r2
              case measure => rw [hfal2, hfal]; simp [intOf]; omega
            · cases hp' : H.getD pn false
              · rw [hk'] at dk
                rw [hp'] at dp
                go_wp2_with fail
                go_roundw
                case rel =>
                  refine ⟨0, H.set pn true, by omega, by go_num, B2.out.put hp61, L2.out.setCell (Nat.le_refl _) _, fun m hm hh => ?_, fun n hn r1 r2 => ?_, fun i u hi => by omega⟩
                  · rw [set_getD H pn m (by rw [B2.out.len]; exact hp61)] at hh
                    by_cases e : m = pn
                    · subst e
                      rw [← hpn]
                      exact .read (List.mem_of_getElem? hs) (by rw [hkn]; exact C.out.sound kn hk61 hk') hin
                    · rw [if_neg e] at hh
                      exact C.out.sound m hm hh
                  · rw [set_getD H pn _ (by rw [B2.out.len]; exact hp61)]
                    split
                    · rfl
                    · exact C.out.had n hn r1 r2
                case measure =>
                  have hf3 := (B2.out.put hp61).falses
                  have hcs := count_set H pn (by rw [B2.out.len]; exact hp61) hp'
                  rw [hf3, hfal, ← hcs, Nat.add_mul]
                  simp [intOf]
                  omega
              · rw [hk'] at dk
                rw [hp'] at dp
                go_wp2_with fail
                go_roundw
                case rel =>
                  refine ⟨j + 1, H, by omega, by go_num, B2.out, L2.out, C.out.sound, C.out.had, fun i u hi hu r1 r2 => ?_⟩
                  by_cases e : i = j
                  · subst e
                    obtain rfl : s = u := Option.some.inj (hs.symm.trans hu)
                    rw [hpn]
                    simpa using hp'
                  · exact C.out.closed i u (by omega) hu r1 r2
                case measure => rw [hfal2, hfal]; simp [intOf]; omega
        · obtain rfl : j = xs.length := by omega
          go_wp2_with fail
          go_ret
          refine ⟨rfl, ⟨H, Right.of C.out.bits.len C.out.sound C.out.had (fun s hs => ?_), C.out.bits⟩, C.out.below⟩
          obtain ⟨i, hi, he⟩ := List.mem_iff_getElem.1 hs
          exact C.out.closed i s hi (by rw [List.getElem?_eq_getElem hi, he])

end Go.Proofs.YtepnijocfilgoaaDoor
