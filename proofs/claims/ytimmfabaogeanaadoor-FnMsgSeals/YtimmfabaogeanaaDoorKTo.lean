/-
  The laws' own copies of rows of seals: a row of the same seals of its own; nothing that was in memory is turned.
-/
import Derived.Test.YtimmfabaogeanaaDoorPut7
import Derived.Test.YtimmfabaogeanaaDoorSealTo
namespace Go.Proofs.YtimmfabaogeanaaDoor
open Go.RowKit
attribute [local go_sem ↓] Go.wp_at_zero Go.wp_at_succ

/-- On the way: so many seals are copied into a row of the call's own. -/
structure Tr (W : World) (n : Nat) (xs : List Sl) (j : Nat) (w : World) : Prop where
  below : Below W.heap.size W w
  row : ∃ cur, w.heap[W.heap.size]? = some (.cells cur 28 (0, 0)) ∧ cur.size = n * 7
  done : ∀ (i : Nat) s, i < j → xs[i]? = some s → SealAt w W.heap.size (i * 7) s
theorem Tr.lt {W : World} {n : Nat} {xs : List Sl} {j : Nat} {w : World} (h : Tr W n xs j w) : W.heap.size < w.heap.size := by
  obtain ⟨cur, hc, _⟩ := h.row
  exact (Array.getElem?_eq_some_iff.1 hc).1
theorem Tr.later {W : World} {n : Nat} {xs : List Sl} {j : Nat} {w w' : World} (h : Tr W n xs j w) (hb : Below w.heap.size w w') : Tr W n xs j w' :=
  ⟨h.below.trans (hb.mono h.below.size), h.row.imp fun _ hc => ⟨(hb.block _ h.lt).trans hc.1, hc.2⟩, fun i s hi hs => (h.done i s hi hs).later hb h.lt⟩
theorem Tr.cell {W : World} {n : Nat} {xs : List Sl} {j : Nat} {w : World} (h : Tr W n xs j w) {o : Nat} (ho : o < n * 7) : (∃ v, w.cell? ⟨W.heap.size, o, none⟩ = some v) ∧ w.frozen? ⟨W.heap.size, o, none⟩ = false := by
  obtain ⟨cur, hc, hn⟩ := h.row
  have ho' : o < cur.size := by omega
  exact ⟨⟨cur[o], by simp [World.cell?, hc, ho']⟩, by simp [World.frozen?, hc]⟩

theorem Tr.step {W : World} {n : Nat} {xs : List Sl} {j : Nat} {w : World} {s : Sl} (h : Tr W n xs j w) (hj : j < n) (hs : xs[j]? = some s) : Tr W n xs (j + 1) (put7 w W.heap.size (j * 7) s) := by
  refine ⟨put7_below h.below (Nat.le_refl _), put7_row h.row, fun i u hi hu => ?_⟩
  by_cases e : i = j
  · subst e
    obtain rfl : s = u := Option.some.inj (hs.symm.trans hu)
    exact put7_at fun q hq => (h.cell (by omega)).1
  · have hd := h.done i u (by omega) hu
    exact ⟨(put7_else (by omega)).trans hd.c0, (put7_else (by omega)).trans hd.c1, (put7_else (by omega)).trans hd.c2, (put7_else (by omega)).trans hd.c3, (put7_else (by omega)).trans hd.c4, (put7_else (by omega)).trans hd.c5, (put7_else (by omega)).trans hd.c6⟩

end Go.Proofs.YtimmfabaogeanaaDoor
