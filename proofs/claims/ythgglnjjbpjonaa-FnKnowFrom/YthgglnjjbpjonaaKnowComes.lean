/-
  The program's comesTo: 61 truth values, right about what one can come to; nothing that was in memory is turned.
-/
import Derived.Test.YthgglnjjbpjonaaKnowArr
namespace Go.Proofs.Ythgglnjjbpjonaa
open Go.RowKit Go.Maps

theorem Who.new {w : World} {c : Array Value} {t : TypeId} (h : ∀ n, n < 61 → c[n]? = some (.bool false)) (h1 : c[61]? = some (.slice none 0 0)) : Who (w.alloc (.cells c t)) w.heap.size (List.replicate 61 false) (.slice none 0 0) [] :=
  ⟨bits_new _ _ _ h, (cell_of_row _ _ _ _ _ _ (heap_alloc_new _ _)).trans h1, Or.inl ⟨rfl, rfl⟩⟩
theorem zeros61 : ∀ n, n < 61 → (#[.bool false, .bool false, .bool false, .bool false, .bool false, .bool false, .bool false, .bool false, .bool false, .bool false, .bool false, .bool false, .bool false, .bool false, .bool false, .bool false, .bool false, .bool false, .bool false, .bool false, .bool false, .bool false, .bool false, .bool false, .bool false, .bool false, .bool false, .bool false, .bool false, .bool false, .bool false, .bool false, .bool false, .bool false, .bool false, .bool false, .bool false, .bool false, .bool false, .bool false, .bool false, .bool false, .bool false, .bool false, .bool false, .bool false, .bool false, .bool false, .bool false, .bool false, .bool false, .bool false, .bool false, .bool false, .bool false, .bool false, .bool false, .bool false, .bool false, .bool false, .bool false] : Array Value)[n]? = some (.bool false) := by
  intro n hn
  show ((List.replicate 61 (Value.bool false)).toArray)[n]? = _
  rw [List.getElem?_toArray, List.getElem?_replicate, if_pos hn]
theorem zeros62 : ∀ n, n < 61 → (#[.bool false, .bool false, .bool false, .bool false, .bool false, .bool false, .bool false, .bool false, .bool false, .bool false, .bool false, .bool false, .bool false, .bool false, .bool false, .bool false, .bool false, .bool false, .bool false, .bool false, .bool false, .bool false, .bool false, .bool false, .bool false, .bool false, .bool false, .bool false, .bool false, .bool false, .bool false, .bool false, .bool false, .bool false, .bool false, .bool false, .bool false, .bool false, .bool false, .bool false, .bool false, .bool false, .bool false, .bool false, .bool false, .bool false, .bool false, .bool false, .bool false, .bool false, .bool false, .bool false, .bool false, .bool false, .bool false, .bool false, .bool false, .bool false, .bool false, .bool false, .bool false, .slice none 0 0] : Array Value)[n]? = some (.bool false) := by
  intro n hn
  show ((List.replicate 61 (Value.bool false) ++ [Value.slice none 0 0]).toArray)[n]? = _
  rw [List.getElem?_toArray, List.getElem?_append_left (by rw [List.length_replicate]; exact hn), List.getElem?_replicate, if_pos hn]
theorem Cq.start {W : World} {ks : List Int} {xs : List Sl} {w : World} (h : Who w W.heap.size (List.replicate 61 false) (.slice none 0 0) []) (hb : Below W.heap.size W w) : Cq W ks xs 0 0 (List.replicate 61 false) (.slice none 0 0) [] w :=
  ⟨h, hb, fun n hn hh => absurd hh (no_bits n hn), fun i n hi => by omega, fun n hn hh => absurd hh (no_bits n hn), fun n hn => by simp at hn, by rw [List.count_replicate_self]; simp⟩

theorem below_setCells {B : Nat} {W : World} {b : Nat} : ∀ (vs : List Value) (o : Nat) {w : World}, Below B W w → B ≤ b → Below B W (w.setCells b o vs)
  | [], _, _, h, _ => h
  | v :: vs, o, w, h, hb => below_setCells vs (o + 1) (w := w.setCell ⟨b, o, none⟩ v) (h.setCell (p := ⟨b, o, none⟩) hb v) hb
theorem Bits.there {w : World} {B : Nat} {H H' : List Bool} (h : Bits w B H) (hl : H'.length = 61) : w.there B 0 (bl H').toArray.size := by
  intro j hj
  rw [List.size_toArray, bl_len hl] at hj
  rw [Nat.zero_add, h.cell j hj]
  exact ⟨rfl, h.free j⟩

set_option maxRecDepth 100000 in
set_option maxHeartbeats 4000000 in
theorem comesTo_any (a1 a2 : Option Addr) (c1 c2 : Nat) (ks : List Int) (xs : List Sl) (w : World) (h1 : IRow w a1 ks) (h2 : SRow w a2 xs) (hk : ks.length ≤ 2000000) (hx : xs.length ≤ 1999999) :
    Calls Try.prog 23 #[.slice a1 ks.length c1, .slice a2 xs.length c2] w fun r w' => (∃ H, r = .returned (.agg (bl H).toArray) ∧ Right ks xs H) ∧ Below w.heap.size w w' := by
  go_enter Try.func23, Try.ntmps23
  go_wp2_with fail
  obtain ⟨W0, hW0⟩ : ∃ W0, W0 = w.alloc (.cells #[.bool false, .bool false, .bool false, .bool false, .bool false, .bool false, .bool false, .bool false, .bool false, .bool false, .bool false, .bool false, .bool false, .bool false, .bool false, .bool false, .bool false, .bool false, .bool false, .bool false, .bool false, .bool false, .bool false, .bool false, .bool false, .bool false, .bool false, .bool false, .bool false, .bool false, .bool false, .bool false, .bool false, .bool false, .bool false, .bool false, .bool false, .bool false, .bool false, .bool false, .bool false, .bool false, .bool false, .bool false, .bool false, .bool false, .bool false, .bool false, .bool false, .bool false, .bool false, .bool false, .bool false, .bool false, .bool false, .bool false, .bool false, .bool false, .bool false, .bool false, .bool false] 47) := ⟨_, rfl⟩
  rw [← hW0]
  have B0 : Below w.heap.size w W0 := hW0 ▸ Below.alloc_ _ _
  have R0 : Bits W0 w.heap.size (List.replicate 61 false) := hW0 ▸ bits_new _ _ _ zeros61
  clear hW0
  refine (holders_any a2 c2 xs W0 (h2.later B0) hx).mono ?_
  rintro r W1 ⟨rfl, f, D, G1⟩
  have GG : Hid (Gm W0 xs xs.length f D W1) := G1
  have R1 : Hid (Bits W1 w.heap.size (List.replicate 61 false)) := R0.same (G1.below.block _ R0.lt)
  have B1 : Hid (Below w.heap.size w W1) := B0.trans (G1.below.mono B0.size)
  have K1 : Hid (IRow W1 a1 ks) := (h1.later B0).later G1.below
  clear G1 R0 B0 h1 h2
  go_wp2_with fail
  obtain ⟨W2, hW2⟩ : ∃ W2, W2 = W1.alloc (.cells #[.bool false, .bool false, .bool false, .bool false, .bool false, .bool false, .bool false, .bool false, .bool false, .bool false, .bool false, .bool false, .bool false, .bool false, .bool false, .bool false, .bool false, .bool false, .bool false, .bool false, .bool false, .bool false, .bool false, .bool false, .bool false, .bool false, .bool false, .bool false, .bool false, .bool false, .bool false, .bool false, .bool false, .bool false, .bool false, .bool false, .bool false, .bool false, .bool false, .bool false, .bool false, .bool false, .bool false, .bool false, .bool false, .bool false, .bool false, .bool false, .bool false, .bool false, .bool false, .bool false, .bool false, .bool false, .bool false, .bool false, .bool false, .bool false, .bool false, .bool false, .bool false, .slice none 0 0] 63) := ⟨_, rfl⟩
  rw [← hW2]
  have T0 : Hid (Cq W1 ks xs 0 0 (List.replicate 61 false) (.slice none 0 0) [] W2) := by
    subst hW2
    exact Cq.start (Who.new zeros62 rfl) (Below.alloc_ _ _)
  clear hW2
  go_loopw [15] (fun i wr => ∃ (j : Nat) (H : List Bool) (v : Value) (q : List Int), j ≤ ks.length ∧ i = .int .i64 j ∧ Hid (Cq W1 ks xs j 0 H v q wr)) (fun i _ => ks.length - (intOf i).toNat)
  case atStart => exact ⟨0, _, _, _, Nat.zero_le _, rfl, T0⟩
  case round =>
    clear T0
    obtain ⟨j, H, v, q, hj, rfl, C⟩ := hrel
    by_cases hlt : j < ks.length
    · obtain ⟨n, hn⟩ : ∃ n, ks[j]? = some n := ⟨ks[j], List.getElem?_eq_getElem hlt⟩
      rcases K1.out.later C.out.below with h | ⟨b, off, rfl, hl, hr⟩
      · simp [h] at hlt
      have c0 := hr j n hn
      clear hr
      go_wp2_with fail
      refine (learn_any _ _ H v q _ C.out.who (by have := C.out.cost; omega)).mono ?_
      rintro r w2 ⟨rfl, ⟨H', v', q', hw', hL⟩, hb2⟩
      have C2 : Hid (Cq W1 ks xs (j + 1) 0 H' v' q' w2) := (C.out.learn hw' hL hb2 (fun h1 h2 => .had (List.mem_of_getElem? hn) h1 h2)).gone hn (fun h1 h2 => hL.got C.out.who.bits.len h1 h2)
      clear c0 hw' hL hb2 C
      go_wp2_with fail
      go_roundw
      case rel => exact ⟨j + 1, H', v', q', by omega, by go_num, C2⟩
      case measure => simp [intOf]; omega
    · obtain rfl : j = ks.length := by omega
      clear K1
      go_wp2_with fail
      go_loopw [] (fun wr => ∃ (H : List Bool) (v : Value) (q : List Int), Hid (Cq W1 ks xs ks.length 0 H v q wr)) (fun wr => leftW wr W1.heap.size)
      case atStart => exact ⟨H, v, q, C⟩
      case round =>
        clear C H v q
        obtain ⟨H, v, q, C⟩ := hrel
        have hleft := C.out.who.left
        have hlt := C.out.who.lt
        have dq := C.out.who.cell
        obtain ⟨qa, qc, rfl⟩ := C.out.who.que.len
        cases q with
        | nil =>
          have LD : Hid (Bits wr W1.heap.size H) := C.out.who.bits
          have RD : Hid (Bits wr w.heap.size (List.replicate 61 false)) := R1.out.same (C.out.below.block _ R1.out.lt)
          have hl := LD.out.len
          have TH : Hid (wr.there w.heap.size 0 (bl H).toArray.size) := RD.out.there hl
          go_wp2_with (first
            | (refine wpList_load_mid rfl 47 _ rfl W1.heap.size 0 rfl (bl H) _ LD.out.range Try.underlying47 rfl (infoArr' hl) ?_)
            | (refine wpList_store_mid rfl 47 _ _ rfl w.heap.size 0 (bl H).toArray rfl rfl TH.out (infoArr' hl) (all_oneCell_toArray (bl_one H)) ?_)
            | go_in)
          have hres := run_loadVar_mid (P := Try.prog) (wr.setCells w.heap.size 0 (bl H).toArray.toList) w.heap.size 0 47 (bl H) _ (World.rangeAt_setCells_same _ _ _ _ TH.out) Try.underlying47 rfl (infoArr' hl)
          refine bodyPost_ret (v := .agg (bl H).toArray) ?_ rfl ⟨⟨H, rfl, C.out.right⟩, ?_⟩
          · have hres' : (loadVar 47 ⟨w.heap.size, 0, none⟩).run Try.prog (wr.setCells w.heap.size 0 (bl H)) = .ok (.agg (bl H).toArray) (wr.setCells w.heap.size 0 (bl H)) := hres
            simp [results, Try.results23, Act.put, asAddr, hres']
          · have hw1 : w.heap.size ≤ W1.heap.size := Nat.le_of_lt R1.out.lt
            exact below_setCells _ _ ((B1.out.trans (C.out.below.mono hw1))) (Nat.le_refl _)
        | cons k q =>
          simp only [List.length_cons] at dq
          have hcost := C.out.cost
          simp only [List.length_cons] at hcost
          have hrk := C.out.rng k (List.mem_cons_self)
          go_wp2_with fail
          refine (next_any _ k H _ q _ C.out.who (by omega)).mono ?_
          rintro r w2 ⟨rfl, ⟨v2, hw2⟩, hb2⟩
          have C2 : Hid (Cq W1 ks xs ks.length k H v2 q w2) := C.out.next hw2 hb2
          have hG : Gm W0 xs xs.length f D w2 := GG.out.later C2.out.below
          have hlook := hG.at hrk.1 hrk.2.1
          obtain ⟨la, lc, hlv, _, hSR, _⟩ := own_row (hG.own k)
          rw [hlv] at hlook
          have hfv := hlv
          have SR : Hid (SRow w2 la (grp xs xs.length k)) := hSR
          have hgl := grp_len xs xs.length k
          obtain ⟨m, hm⟩ : ∃ m, m = 2 * H.count false + q.length := ⟨_, rfl⟩
          have hm2 : leftW wr W1.heap.size = m + 1 := by rw [hleft, hm]; simp; omega
          have HM : Hid (2 * H.count false + q.length ≤ m) := Nat.le_of_eq hm.symm
          clear hw2 hb2 C dq hG hSR hlv hm hleft
          go_wp2_with fail
          clear hlook
          go_loopw [30] (fun i wi => ∃ (j : Nat) (H : List Bool) (v : Value) (q : List Int), j ≤ (grp xs xs.length k).length ∧ i = .int .i64 j ∧ Hid (Cq W1 ks xs ks.length k H v q wi ∧ 2 * H.count false + q.length ≤ m ∧ ∀ (i : Nat) s, i < j → (grp xs xs.length k)[i]? = some s → H.getD s.inn.toNat false = true)) (fun i _ => (grp xs xs.length k).length - (intOf i).toNat)
          case atStart => exact ⟨0, H, v2, q, Nat.zero_le _, rfl, C2.out, HM.out, fun i s hi => by omega⟩
          case round =>
            clear C2 HM hcost
            obtain ⟨j, H, v, q, hj, rfl, C⟩ := hrel
            by_cases hlt2 : j < (grp xs xs.length k).length
            · obtain ⟨s, hs⟩ : ∃ s, (grp xs xs.length k)[j]? = some s := ⟨(grp xs xs.length k)[j], List.getElem?_eq_getElem hlt2⟩
              obtain ⟨hsx, hsk, hsi⟩ := mem_grp.1 (List.mem_of_getElem? hs)
              obtain ⟨a', cap', hv', _, hr', _⟩ := own_row ((GG.out.later C.out.1.below).own k)
              rw [hfv] at hv'
              injection hv' with e1 e2 e3
              subst e1
              subst e3
              clear e2
              rcases hr' with h | ⟨b, off, rfl, hl, hr⟩
              · simp [h] at hlt2
              obtain ⟨c0, c1', c2', c3, c4, c5, c6⟩ := hr j s hs
              clear hr SR
              go_wp2_with fail
              refine (implH_any _ _ _ _ _ _ _ _).mono ?_
              rintro r w3 ⟨rfl, hb3⟩
              have e0 : hK k s.t s.a s.b s.c s.d s.e = s.inn := by rw [← hsk]; rfl
              rw [e0]
              have C3 : Hid (Cq W1 ks xs ks.length k H v q w3) := C.out.1.later ((Below.alloc_ _ _).trans (hb3.mono (by simp)))
              have D3 : Hid (2 * H.count false + q.length ≤ m ∧ ∀ (i : Nat) s, i < j → (grp xs xs.length k)[i]? = some s → H.getD s.inn.toNat false = true) := C.out.2
              clear c0 c1' c2' c3 c4 c5 c6 C hb3
              go_wp2_with fail
              refine (learn_any _ _ H v q _ C3.out.who (by have := C3.out.cost; omega)).mono ?_
              rintro r w4 ⟨rfl, ⟨H', v', q', hw', hL⟩, hb4⟩
              have hlen := C3.out.who.bits.len
              have hcs := hL.cost hlen
              have C4 : Hid (Cq W1 ks xs ks.length k H' v' q' w4 ∧ 2 * H'.count false + q'.length ≤ m ∧ ∀ (i : Nat) s, i < j + 1 → (grp xs xs.length k)[i]? = some s → H'.getD s.inn.toNat false = true) := by
                refine ⟨C3.out.learn hw' hL hb4 (fun _ _ => .read hsx (by rw [hsk]; exact hrk.2.2) hsi), Nat.le_trans hcs D3.out.1, fun i u hi hu => ?_⟩
                by_cases e : i = j
                · subst e
                  obtain rfl : s = u := Option.some.inj (hs.symm.trans hu)
                  rcases s.inn_cases with q0 | q0
                  · exact absurd q0 hsi
                  · exact hL.got hlen (by omega) (by omega)
                · exact hL.keep hlen (D3.out.2 i u (by omega) hu)
              clear hw' hL hb4 C3 D3
              go_wp2_with fail
              go_roundw
              case rel => exact ⟨j + 1, H', v', q', by omega, by go_num, C4⟩
              case measure => simp [intOf]; omega
            · obtain rfl : j = (grp xs xs.length k).length := by omega
              have CE : Hid (Cq W1 ks xs ks.length 0 H v q wr) := C.out.1.through fun s hs hi hk => by
                obtain ⟨i, hi', he⟩ := List.mem_iff_getElem.1 (mem_grp.2 ⟨hs, hk, hi⟩)
                exact C.out.2.2 i s hi' (by rw [List.getElem?_eq_getElem hi', he])
              have hle := C.out.2.1
              have hlw := C.out.1.who.left
              clear C
              go_wp2_with fail
              go_roundw
              case rel => exact ⟨H, v, q, CE⟩
              case measure => rw [hlw, hm2]; omega

theorem blk_setCells {B b : Nat} : ∀ (vs : List Value) (o : Nat) {w : World}, (∃ cur t, w.heap[B]? = some (.cells cur t (0, 0))) → ∃ cur t, (w.setCells b o vs).heap[B]? = some (.cells cur t (0, 0))
  | [], _, _, h => h
  | v :: vs, o, w, h => blk_setCells vs (o + 1) (w := w.setCell ⟨b, o, none⟩ v) (blk_set h)
theorem Bits.laid {w : World} {B : Nat} {H0 H : List Bool} (h : Bits w B H0) (hl : H.length = 61) : Bits (w.setCells B 0 (bl H)) B H := by
  have ht : w.there B 0 (bl H).length := by
    intro j hj
    rw [bl_len hl] at hj
    rw [Nat.zero_add, h.cell j hj]
    exact ⟨rfl, h.free j⟩
  refine ⟨hl, blk_setCells _ _ h.blk, fun n hn => ?_⟩
  have := World.rangeAt_setCells_same w B 0 (bl H) ht n (.bool (H.getD n false)) (by
    unfold bl
    rw [List.getElem?_map, List.getElem?_eq_getElem (by omega), List.getD_eq_getElem?_getD, List.getElem?_eq_getElem (by omega)]
    rfl)
  rwa [Nat.zero_add] at this

end Go.Proofs.Ythgglnjjbpjonaa
