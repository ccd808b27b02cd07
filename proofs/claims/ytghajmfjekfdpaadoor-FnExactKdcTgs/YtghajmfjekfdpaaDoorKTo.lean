/-
  The laws' own copies of rows of seals: a row of the same seals of its own; nothing that was in memory is turned.
-/
import Derived.Test.YtghajmfjekfdpaaDoorPut7
import Derived.Test.YtghajmfjekfdpaaDoorSealTo
namespace Go.Proofs.YtghajmfjekfdpaaDoor
open Go.RowKit
attribute [local go_sem ↓] Go.wp_at_zero Go.wp_at_succ

/-- On the way: so many seals are copied into a row of the call's own. -/
structure Tr (W : World) (n : Nat) (xs : List Sl) (j : Nat) (w : World) : Prop where
  below : Below W.heap.size W w
  row : ∃ cur, w.heap[W.heap.size]? = some (.cells cur 64 (0, 0)) ∧ cur.size = n * 7
  done : ∀ (i : Nat) s, i < j → xs[i]? = some s → SealAt w W.heap.size (i * 7) s
theorem Tr.lt {W : World} {n : Nat} {xs : List Sl} {j : Nat} {w : World} (h : Tr W n xs j w) : W.heap.size < w.heap.size := by
  obtain ⟨cur, hc, _⟩ := h.row
  exact (Array.getElem?_eq_some_iff.1 hc).1
theorem Tr.later {W : World} {n : Nat} {xs : List Sl} {j : Nat} {w w' : World} (h : Tr W n xs j w) (hb : Below w.heap.size w w') : Tr W n xs j w' :=
  ⟨h.below.trans (hb.mono h.below.size), h.row.imp fun _ hc => ⟨(hb.block _ h.lt).trans hc.1, hc.2⟩, fun i s hi hs => (h.done i s hi hs).later hb h.lt⟩
theorem Tr.cell {W : World} {n : Nat} {xs : List Sl} {j : Nat} {w : World} (h : Tr W n xs j w) {o : Nat} (ho : o < n * 7) : (∃ v, w.cell? ⟨W.heap.size, o, none⟩ = some v) ∧ w.frozen? ⟨W.heap.size, o, none⟩ = false := by
  obtain ⟨cur, hc, hn⟩ := h.row
  have ho' : o < cur.size := by omega
  exact ⟨⟨cur[o], by simp [World.cell?, hc, ho']⟩, by simp [World.frozen?, hc]⟩

theorem Tr.step {W : World} {n : Nat} {xs : List Sl} {j : Nat} {w : World} {s : Sl} (h : Tr W n xs j w) (hj : j < n) (hs : xs[j]? = some s) : Tr W n xs (j + 1) (put7 w W.heap.size (j * 7) s) := by
  refine ⟨put7_below h.below (Nat.le_refl _), put7_row h.row, fun i u hi hu => ?_⟩
  by_cases e : i = j
  · subst e
    obtain rfl : s = u := Option.some.inj (hs.symm.trans hu)
    exact put7_at fun q hq => (h.cell (by omega)).1
  · have hd := h.done i u (by omega) hu
    exact ⟨(put7_else (by omega)).trans hd.c0, (put7_else (by omega)).trans hd.c1, (put7_else (by omega)).trans hd.c2, (put7_else (by omega)).trans hd.c3, (put7_else (by omega)).trans hd.c4, (put7_else (by omega)).trans hd.c5, (put7_else (by omega)).trans hd.c6⟩

set_option maxRecDepth 100000 in
set_option maxHeartbeats 1000000 in
theorem toSealS_wb (a : Option Addr) (cap : Nat) (xs : List Sl) (w : World) (h : SRow w a xs) (hx : xs.length ≤ 2000000) :
    Calls Tryd.prog 29 #[.slice a xs.length cap] w fun r w' => r = .returned (.slice (some ⟨w.heap.size, 0, none⟩) xs.length xs.length) ∧ SRow w' (some ⟨w.heap.size, 0, none⟩) xs ∧ (∃ cur, w'.heap[w.heap.size]? = some (.cells cur 64 (0, 0)) ∧ cur.size = xs.length * 7) ∧ Below w.heap.size w w' := by
  obtain ⟨i0, hi, hz0, hz1, hz2⟩ := info_parts infoSeal
  go_enter Tryd.func29, Tryd.ntmps29
  go_wp2_with fail
  rw [run_makeSlice w 29 64 i0 _ Tryd.underlying29 hi hz0 .i64 .i64 xs.length xs.length (by omega) (by omega) (by rw [hz1]; omega) (by rw [hz2]; omega) (by omega)]
  rw [hz1]
  simp only [Int.toNat_natCast]
  obtain ⟨W1, hW1⟩ : ∃ W1, W1 = w.alloc (.cells (madeCells (Value.agg #[.int .i64 0, .int .i64 0, .int .i64 0, .int .i64 0, .int .i64 0, .int .i64 0, .int .i64 0]).cells (xs.length * 7)) 64) := ⟨_, rfl⟩
  rw [← hW1]
  have T0 : Hid (Tr w xs.length xs 0 W1) := by
    subst hW1
    exact ⟨(Below.refl _ _).alloc (Nat.le_refl _) _, ⟨_, heap_alloc_new _ _, by simp [madeCells]⟩, fun i s hi => by omega⟩
  clear hW1 hi hz0 hz1 hz2
  go_wp2_with fail
  go_loopw [4] (fun i wr => ∃ (j : Nat), j ≤ xs.length ∧ i = .int .i64 j ∧ Hid (Tr w xs.length xs j wr)) (fun i _ => xs.length - (intOf i).toNat)
  case atStart => exact ⟨0, Nat.zero_le _, rfl, T0⟩
  case round =>
    obtain ⟨j, hj, rfl, C⟩ := hrel
    by_cases hlt : j < xs.length
    · obtain ⟨s, hs⟩ : ∃ s, xs[j]? = some s := ⟨xs[j], List.getElem?_eq_getElem hlt⟩
      rcases h with h | ⟨b, off, rfl, hl, h⟩
      · simp [h] at hlt
      obtain ⟨c0, c1, c2, c3, c4, c5, c6⟩ := (h j s hs).later C.out.below hl
      clear h
      go_wp2_with fail
      refine (toSeal_any _ _ _ _ _ _ _ _).mono ?_
      rintro r w2 ⟨rfl, hb2⟩
      have C2 : Hid (Tr w xs.length xs j w2) := C.out.later hb2
      clear c0 c1 c2 c3 c4 c5 c6 C hb2
      obtain ⟨⟨v0, d0⟩, f0⟩ := C2.out.cell (o := j * 7) (by omega)
      obtain ⟨⟨v1, d1⟩, f1⟩ := C2.out.cell (o := j * 7 + 1) (by omega)
      obtain ⟨⟨v2, d2⟩, f2⟩ := C2.out.cell (o := j * 7 + 2) (by omega)
      obtain ⟨⟨v3, d3⟩, f3⟩ := C2.out.cell (o := j * 7 + 3) (by omega)
      obtain ⟨⟨v4, d4⟩, f4⟩ := C2.out.cell (o := j * 7 + 4) (by omega)
      obtain ⟨⟨v5, d5⟩, f5⟩ := C2.out.cell (o := j * 7 + 5) (by omega)
      obtain ⟨⟨v6, d6⟩, f6⟩ := C2.out.cell (o := j * 7 + 6) (by omega)
      have hlw := C2.out.lt
      have hst : xs[j]? = some s := hs
      go_wp2_with fail
      refine ⟨⟨j + 1, by omega, by go_num, (C2.out.step hlt hst)⟩, by simp [intOf]; omega⟩
    · obtain rfl : j = xs.length := by omega
      have HA : Hid (Tr w xs.length xs xs.length wr) := C.out
      clear C T0 h
      go_wp2_with fail
      go_ret
      refine ⟨rfl, Or.inr ⟨w.heap.size, 0, rfl, HA.out.lt, fun i s hs => ?_⟩, HA.out.row, HA.out.below⟩
      have := HA.out.done i s (by have := (List.getElem?_eq_some_iff.1 hs).1; omega) hs
      rw [Nat.zero_add]; exact this
theorem toSealS_any (a : Option Addr) (cap : Nat) (xs : List Sl) (w : World) (h : SRow w a xs) (hx : xs.length ≤ 2000000) :
    Calls Tryd.prog 29 #[.slice a xs.length cap] w fun r w' => r = .returned (.slice (some ⟨w.heap.size, 0, none⟩) xs.length xs.length) ∧ SRow w' (some ⟨w.heap.size, 0, none⟩) xs ∧ Below w.heap.size w w' :=
  (toSealS_wb a cap xs w h hx).mono fun _ _ ⟨h1, h2, _, h4⟩ => ⟨h1, h2, h4⟩

set_option maxRecDepth 100000 in
set_option maxHeartbeats 1000000 in
theorem eqSeal_same (s : Sl) (w : World) : Calls Tryd.prog 71 #[s.v, s.v] w fun r w' => r = .returned (.bool true) ∧ Below w.heap.size w w' := by
  unfold Sl.v
  go_enter Tryd.func71, Tryd.ntmps71
  go_wp2_with fail
  go_ret
  exact ⟨rfl, ((Below.refl _ _).alloc (Nat.le_refl _) _).alloc (by simp) _⟩

end Go.Proofs.YtghajmfjekfdpaaDoor
