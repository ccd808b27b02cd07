/-
  The specification's and the program's KnowRead: the seals that one can read, in order, in a row of its own; nothing that was in memory is turned.
-/
import Derived.Test.YtadjphljohdieaaKnowKeysI
import Derived.Test.YtadjphljohdieaaKnowApp
import Derived.Test.YtadjphljohdieaaSealOkd
namespace Go.Proofs.Ytadjphljohdieaa
open Go.RowKit

/-- Of the first seals those that are ok, and whose key one has. -/
def readOf (H : List Bool) (xs : List Sl) (m : Nat) : List Sl := (xs.take m).filter (fun s => s.ok && H.getD s.k.toNat false)
theorem readOf_zero (H : List Bool) (xs : List Sl) : readOf H xs 0 = [] := rfl
theorem readOf_succ {H : List Bool} {xs : List Sl} {j : Nat} {s : Sl} (h : xs[j]? = some s) : readOf H xs (j + 1) = readOf H xs j ++ (if s.ok && H.getD s.k.toNat false then [s] else []) := by
  unfold readOf
  rw [List.take_add_one, h, Option.toList_some, List.filter_append]
  congr 1
  cases hb : (s.ok && H.getD s.k.toNat false)
  · rw [List.filter_cons_of_neg (by rw [hb]; decide)]; rfl
  · rw [List.filter_cons_of_pos (by exact hb)]; rfl
theorem readOf_len (H : List Bool) (xs : List Sl) (m : Nat) : (readOf H xs m).length ≤ xs.length := by
  unfold readOf
  exact Nat.le_trans (List.length_filter_le _ _) (by rw [List.length_take]; omega)

/-- On the way through the seals. -/
structure Rr (W : World) (B : Nat) (H : List Bool) (xs : List Sl) (j : Nat) (v : Value) (w : World) : Prop where
  own : w.ownsRow (B + 1) 41 7 v (readOf H xs j).length (cellsL (readOf H xs j))
  bits : Bits w B H
  below : Below W.heap.size W w
section
variable {W : World} {B : Nat} {H : List Bool} {xs : List Sl} {j : Nat} {v : Value} {w : World}
theorem Rr.later {w' : World} (h : Rr W B H xs j v w) (hb : Below w.heap.size w w') : Rr W B H xs j v w' :=
  ⟨h.own.kept (grown_of_below hb none) (by cases v.ownBlock <;> simp), h.bits.later hb, h.below.trans (hb.mono h.below.size)⟩
theorem Rr.skip {s : Sl} (h : Rr W B H xs j v w) (hs : xs[j]? = some s) (hb : (s.ok && H.getD s.k.toNat false) = false) : Rr W B H xs (j + 1) v w :=
  ⟨by rw [readOf_succ hs, hb]; simpa using h.own, h.bits, h.below⟩
theorem Rr.step {v' : Value} {w1 : World} {o : Obj} {s : Sl} (h : Rr W B H xs j v w) (hs : xs[j]? = some s) (hb : (s.ok && H.getD s.k.toNat false) = true) (hW : W.heap.size ≤ B)
    (ho : w1.ownsRow (B + 1) 41 7 v' ((readOf H xs j).length + 1) (cellsL (readOf H xs j) ++ s.cs)) (hg : (w.alloc o).grownBy w1 v.ownBlock) : Rr W B H xs (j + 1) v' w1 := by
  have hal := (World.grownBy_alloc w o v.ownBlock).trans hg
  refine ⟨?_, h.bits.same (hal.block _ h.bits.lt (fun e => ?_)), h.below.grown hal h.below.size (fun k hk => ?_)⟩
  · rw [readOf_succ hs, hb, if_pos rfl, cellsL_add, List.length_append, List.length_singleton]
    exact ho
  · have := (h.own.lt B e.symm).1
    omega
  · have := (h.own.lt k hk).1
    omega
end

set_option maxRecDepth 100000 in
set_option maxHeartbeats 4000000 in
theorem specRead_any (a1 a2 : Option Addr) (c1 c2 : Nat) (ks : List Int) (xs : List Sl) (w : World) (h1 : IRow w a1 ks) (h2 : SRow w a2 xs) (hk : ks.length ≤ 2000000) (hx : xs.length ≤ 1999999) :
    Calls Try.prog 9 #[.slice a1 ks.length c1, .slice a2 xs.length c2] w fun r w' => (∃ v H, r = .returned v ∧ Right ks xs H ∧ OwnS w' w.heap.size v (readOf H xs xs.length)) ∧ Below w.heap.size w w' := by
  obtain ⟨i0, hi, hz0, hz1, hz2⟩ := info_parts infoSealM
  go_enter Try.func9, Try.ntmps9
  go_wp2_with fail
  refine (l3All_any a1 a2 c1 c2 ks xs w h1 h2 hk (by omega)).mono ?_
  rintro r w2 ⟨rfl, ⟨H, hR, hB⟩, hb2⟩
  obtain ⟨B, hBe⟩ : ∃ B, B = w.heap.size := ⟨_, rfl⟩
  rw [← hBe] at hB ⊢
  have HB : Hid (B = w.heap.size) := hBe
  clear hBe
  have hlt := hB.lt
  have T0 : Hid (Rr w B H xs 0 (.slice (some ⟨w2.heap.size, 0, none⟩) 0 0) (w2.alloc (.cells #[] 41))) :=
    ⟨⟨rfl, Or.inr ⟨w2.heap.size, 0, #[], rfl, hlt, heap_alloc_new _ _, Nat.le_refl _, Nat.zero_le _, rfl, rfl⟩⟩, hB.same (Below.heap_alloc _ _ _ hlt), hb2.alloc hb2.size _⟩
  clear h1 hB hb2
  go_wp2_with fail
  go_loopw [6, 7] (fun v i wr => ∃ (j : Nat), j ≤ xs.length ∧ i = .int .i64 j ∧ Hid (Rr w B H xs j v wr)) (fun _ i _ => xs.length - (intOf i).toNat)
  case atStart => exact ⟨0, Nat.zero_le _, rfl, T0⟩
  case round =>
    obtain ⟨j, hj, rfl, C⟩ := hrel
    clear T0
    by_cases hl : j < xs.length
    · obtain ⟨s, hs⟩ : ∃ s, xs[j]? = some s := ⟨xs[j], List.getElem?_eq_getElem hl⟩
      rcases h2.later C.out.below with h | ⟨b, off, rfl, hlb, h2⟩
      · simp [h] at hl
      have hS := h2 j s hs
      obtain ⟨c0, c1', c2', c3, c4, c5, c6⟩ := id hS
      clear h2
      go_wp2_with fail
      refine (specOk_any _ _ _ _ _ _ _ _).mono ?_
      rintro r w3 ⟨rfl, hb3⟩
      have hok : okB s.k s.t s.a s.b s.c s.d s.e = s.ok := rfl
      rw [hok]
      clear c0 c1' c2' c3 c4 c5 c6
      obtain ⟨c0, c1', c2', c3, c4, c5, c6⟩ := hS.later hb3 hlb
      have CC := C.out.later hb3
      have C3 : Hid (Rr w B H xs j u6 w3) := CC
      have hrl := readOf_len H xs j
      clear hS C hb3 CC
      cases hso : s.ok
      · go_wp2_with fail
        go_roundw
        case rel => exact ⟨j + 1, by omega, by go_num, C3.out.skip hs (by rw [hso]; rfl)⟩
        case measure => simp [intOf]; omega
      · obtain ⟨k1, k2⟩ := Sl.key_of_ok hso
        obtain ⟨kn, hkn⟩ : ∃ kn : Nat, s.k = kn := ⟨s.k.toNat, by omega⟩
        have hk61 : kn < 61 := by omega
        have d0 := C3.out.bits.cell kn hk61
        have htn : s.k.toNat = kn := by omega
        cases hb : H.getD kn false
        · rw [hb] at d0
          rw [hkn] at c0
          go_wp2_with fail
          go_roundw
          case rel => exact ⟨j + 1, by omega, by go_num, C3.out.skip hs (by rw [hso, htn, hb]; rfl)⟩
          case measure => simp [intOf]; omega
        · rw [hb] at d0
          rw [hkn] at c0
          have hcs : s.cs = [.int .i64 (kn : Int), .int .i64 s.t, .int .i64 s.a, .int .i64 s.b, .int .i64 s.c, .int .i64 s.d, .int .i64 s.e] := by unfold Sl.cs; rw [hkn]
          go_wp2_with (first
            | (at_builtin; refine wpList_append_own_at _ rfl _ _ 25 rfl (B + 1) 41 i0 (.agg #[.int .i64 0, .int .i64 0, .int .i64 0, .int .i64 0, .int .i64 0, .int .i64 0, .int .i64 0]) 7 56 Try.underlying25 hi hz0 hz1 hz2 rfl (by decide) _ _ _ rfl (C3.out.own.alloc _) ⟨w3.heap.size, 0, none⟩ 1 1 s.cs rfl (by rw [hcs]; rfl) (cs_at ⟨by rw [hkn]; go_simp, by go_simp, by go_simp, by go_simp, by go_simp, by go_simp, by go_simp⟩) (cs_one s) (by unfold maxLen; omega) (by omega) (by have := C3.out.bits.lt; simp; omega) ?_; intro v' w6 hown' hgrow hnil hloc)
            | go_in)
          go_roundw
          case rel => exact ⟨j + 1, by omega, by go_num, C3.out.step hs (by rw [hso, htn, hb]; rfl) (Nat.le_of_eq HB.out.symm) hown' hgrow⟩
          case measure => simp [intOf]; omega
    · obtain rfl : j = xs.length := by omega
      go_wp2_with fail
      go_ret
      exact ⟨⟨_, H, rfl, hR, by have := C.out.own; exact ⟨this.1, this.2.imp id fun ⟨g, cap, cur, q1, q2, q3⟩ => ⟨g, cap, cur, q1, by have := HB.out; omega, q3⟩⟩⟩, C.out.below⟩

set_option maxRecDepth 100000 in
set_option maxHeartbeats 4000000 in
theorem implRead_any (a1 a2 : Option Addr) (c1 c2 : Nat) (ks : List Int) (xs : List Sl) (w : World) (h1 : IRow w a1 ks) (h2 : SRow w a2 xs) (hk : ks.length ≤ 2000000) (hx : xs.length ≤ 1999999) :
    Calls Try.prog 12 #[.slice a1 ks.length c1, .slice a2 xs.length c2] w fun r w' => (∃ v H, r = .returned v ∧ Right ks xs H ∧ OwnS w' w.heap.size v (readOf H xs xs.length)) ∧ Below w.heap.size w w' := by
  obtain ⟨i0, hi, hz0, hz1, hz2⟩ := info_parts infoSealM
  go_enter Try.func12, Try.ntmps12
  go_wp2_with fail
  refine (comesTo_any a1 a2 c1 c2 ks xs w h1 h2 hk hx).mono ?_
  rintro r w2 ⟨⟨H, rfl, hR⟩, hb2⟩
  have hl := hR.len
  obtain ⟨W3, hW3⟩ : ∃ W3, W3 = w2.alloc (.cells #[.bool false, .bool false, .bool false, .bool false, .bool false, .bool false, .bool false, .bool false, .bool false, .bool false, .bool false, .bool false, .bool false, .bool false, .bool false, .bool false, .bool false, .bool false, .bool false, .bool false, .bool false, .bool false, .bool false, .bool false, .bool false, .bool false, .bool false, .bool false, .bool false, .bool false, .bool false, .bool false, .bool false, .bool false, .bool false, .bool false, .bool false, .bool false, .bool false, .bool false, .bool false, .bool false, .bool false, .bool false, .bool false, .bool false, .bool false, .bool false, .bool false, .bool false, .bool false, .bool false, .bool false, .bool false, .bool false, .bool false, .bool false, .bool false, .bool false, .bool false, .bool false] 49) := ⟨_, rfl⟩
  have B3 : Hid (Below w.heap.size w W3) := hW3 ▸ hb2.alloc hb2.size _
  have R3 : Bits W3 w2.heap.size (List.replicate 61 false) := hW3 ▸ bits_new _ _ _ zeros61
  have TH : Hid (W3.there w2.heap.size 0 (bl H).toArray.size) := R3.there hl
  have L3 : Hid (Bits (W3.setCells w2.heap.size 0 (bl H)) w2.heap.size H) := R3.laid hl
  have hsz := hb2.size
  clear h1 hb2 R3
  go_wp2_with (first
    | (refine wpList_store_mid rfl 49 _ _ rfl w2.heap.size 0 (bl H).toArray rfl rfl (by rw [hW3] at TH; exact TH.out) (infoArr' hl) (all_oneCell_toArray (bl_one H)) ?_; rw [← hW3]; clear hW3)
    | go_in)
  obtain ⟨B, hBe⟩ : ∃ B, B = w2.heap.size := ⟨_, rfl⟩
  rw [← hBe] at L3 ⊢
  have HB : Hid (B = w2.heap.size) := hBe
  clear hBe
  have T0 : Hid (Rr w B H xs 0 (.slice none 0 0) (W3.setCells B 0 (bl H))) := ⟨World.ownsRow_nil _ _ _ _, L3.out, below_setCells _ _ B3.out (by have := HB.out; omega)⟩
  clear L3 B3 TH
  go_loopw [6, 14] (fun v i wr => ∃ (j : Nat), j ≤ xs.length ∧ i = .int .i64 j ∧ Hid (Rr w B H xs j v wr)) (fun _ i _ => xs.length - (intOf i).toNat)
  case atStart => exact ⟨0, Nat.zero_le _, rfl, T0⟩
  case round =>
    obtain ⟨j, hj, rfl, C⟩ := hrel
    clear T0
    by_cases hl : j < xs.length
    · obtain ⟨s, hs⟩ : ∃ s, xs[j]? = some s := ⟨xs[j], List.getElem?_eq_getElem hl⟩
      rcases h2.later C.out.below with h | ⟨b, off, rfl, hlb, h2⟩
      · simp [h] at hl
      obtain ⟨c0, c1', c2', c3, c4, c5, c6⟩ := h2 j s hs
      clear h2
      go_wp2_with fail
      refine (implOk_any _ _ _ _ _ _ _ _).mono ?_
      rintro r w3 ⟨rfl, hb3⟩
      have hok : okB s.k s.t s.a s.b s.c s.d s.e = s.ok := rfl
      rw [hok]
      have SA : SealAt w3 wr.heap.size 0 s := by
        obtain ⟨hc, _⟩ := bcell hb3
        refine ⟨?_, ?_, ?_, ?_, ?_, ?_, ?_⟩ <;> (rw [hc _ _ (by simp)]; go_simp)
      clear c0 c1' c2' c3 c4 c5 c6
      have CC := (C.out.later (Below.alloc_ wr _)).later hb3
      have C3 : Hid (Rr w B H xs j u6 w3) := CC
      have hrl := readOf_len H xs j
      obtain ⟨c0, c1', c2', c3, c4, c5, c6⟩ := SA
      simp only [Nat.zero_add] at c1' c2' c3 c4 c5 c6
      clear C hb3 CC
      cases hso : s.ok
      · go_wp2_with fail
        go_roundw
        case rel => exact ⟨j + 1, by omega, by go_num, C3.out.skip hs (by rw [hso]; rfl)⟩
        case measure => simp [intOf]; omega
      · obtain ⟨k1, k2⟩ := Sl.key_of_ok hso
        obtain ⟨kn, hkn⟩ : ∃ kn : Nat, s.k = kn := ⟨s.k.toNat, by omega⟩
        have hk61 : kn < 61 := by omega
        have d0 := C3.out.bits.cell kn hk61
        have htn : s.k.toNat = kn := by omega
        cases hb : H.getD kn false
        · rw [hb] at d0
          rw [hkn] at c0
          go_wp2_with fail
          go_roundw
          case rel => exact ⟨j + 1, by omega, by go_num, C3.out.skip hs (by rw [hso, htn, hb]; rfl)⟩
          case measure => simp [intOf]; omega
        · rw [hb] at d0
          rw [hkn] at c0
          have hcs : s.cs = [.int .i64 (kn : Int), .int .i64 s.t, .int .i64 s.a, .int .i64 s.b, .int .i64 s.c, .int .i64 s.d, .int .i64 s.e] := by unfold Sl.cs; rw [hkn]
          go_wp2_with (first
            | (at_builtin; refine wpList_append_own_at _ rfl _ _ 25 rfl (B + 1) 41 i0 (.agg #[.int .i64 0, .int .i64 0, .int .i64 0, .int .i64 0, .int .i64 0, .int .i64 0, .int .i64 0]) 7 56 Try.underlying25 hi hz0 hz1 hz2 rfl (by decide) _ _ _ rfl (C3.out.own.alloc _) ⟨w3.heap.size, 0, none⟩ 1 1 s.cs rfl (by rw [hcs]; rfl) (cs_at ⟨by rw [hkn]; go_simp, by go_simp, by go_simp, by go_simp, by go_simp, by go_simp, by go_simp⟩) (cs_one s) (by unfold maxLen; omega) (by omega) (by have := C3.out.bits.lt; simp; omega) ?_; intro v' w6 hown' hgrow hnil hloc)
            | go_in)
          go_roundw
          case rel => exact ⟨j + 1, by omega, by go_num, C3.out.step hs (by rw [hso, htn, hb]; rfl) (by have := HB.out; omega) hown' hgrow⟩
          case measure => simp [intOf]; omega
    · obtain rfl : j = xs.length := by omega
      go_wp2_with fail
      go_ret
      exact ⟨⟨_, H, rfl, hR, by have := C.out.own; exact ⟨this.1, this.2.imp id fun ⟨g, cap, cur, q1, q2, q3⟩ => ⟨g, cap, cur, q1, by have := HB.out; omega, q3⟩⟩⟩, C.out.below⟩

end Go.Proofs.Ytadjphljohdieaa
