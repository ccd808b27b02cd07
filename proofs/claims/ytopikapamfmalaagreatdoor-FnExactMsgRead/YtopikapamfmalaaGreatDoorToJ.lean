/-
  The laws' own copy of a seal: the same numbers; nothing that was in memory is turned.
-/
import Derived.Test.YtopikapamfmalaaGreatDoorBaseJ
import Derived.Test.YtopikapamfmalaaGreatDoorPut7
import Derived.Test.YtopikapamfmalaaGreatDoorMsgRow
namespace Go.Proofs.YtopikapamfmalaaGreatDoor
open Go.RowKit

end Go.Proofs.YtopikapamfmalaaGreatDoor

namespace Go.Proofs.YtopikapamfmalaaGreatDoor
open Go.RowKit
attribute [local go_sem ↓] Go.wp_at_zero Go.wp_at_succ

/-- On the way: so many seals are copied into a row of the call's own. -/
structure Tr (W : World) (n : Nat) (xs : List Sl) (j : Nat) (w : World) : Prop where
  below : Below W.heap.size W w
  row : ∃ cur, w.heap[W.heap.size]? = some (.cells cur 39 (0, 0)) ∧ cur.size = n * 7
  done : ∀ (i : Nat) s, i < j → xs[i]? = some s → SealAt w W.heap.size (i * 7) s
theorem Tr.lt {W : World} {n : Nat} {xs : List Sl} {j : Nat} {w : World} (h : Tr W n xs j w) : W.heap.size < w.heap.size := by
  obtain ⟨cur, hc, _⟩ := h.row
  exact (Array.getElem?_eq_some_iff.1 hc).1
theorem Tr.later {W : World} {n : Nat} {xs : List Sl} {j : Nat} {w w' : World} (h : Tr W n xs j w) (hb : Below w.heap.size w w') : Tr W n xs j w' :=
  ⟨h.below.trans (hb.mono h.below.size), h.row.imp fun _ hc => ⟨(hb.block _ h.lt).trans hc.1, hc.2⟩, fun i s hi hs => (h.done i s hi hs).later hb h.lt⟩
theorem Tr.cell {W : World} {n : Nat} {xs : List Sl} {j : Nat} {w : World} (h : Tr W n xs j w) {o : Nat} (ho : o < n * 7) : (∃ v, w.cell? ⟨W.heap.size, o, none⟩ = some v) ∧ w.frozen? ⟨W.heap.size, o, none⟩ = false := by
  obtain ⟨cur, hc, hn⟩ := h.row
  have ho' : o < cur.size := by omega
  exact ⟨⟨cur[o], by simp [World.cell?, hc, ho']⟩, by simp [World.frozen?, hc]⟩

theorem Tr.step {W : World} {n : Nat} {xs : List Sl} {j : Nat} {w : World} {s : Sl} (h : Tr W n xs j w) (hj : j < n) (hs : xs[j]? = some s) : Tr W n xs (j + 1) (put7 w W.heap.size (j * 7) s) := by
  refine ⟨put7_below h.below (Nat.le_refl _), put7_row h.row, fun i u hi hu => ?_⟩
  by_cases e : i = j
  · subst e
    obtain rfl : s = u := Option.some.inj (hs.symm.trans hu)
    exact put7_at fun q hq => (h.cell (by omega)).1
  · have hd := h.done i u (by omega) hu
    exact ⟨(put7_else (by omega)).trans hd.c0, (put7_else (by omega)).trans hd.c1, (put7_else (by omega)).trans hd.c2, (put7_else (by omega)).trans hd.c3, (put7_else (by omega)).trans hd.c4, (put7_else (by omega)).trans hd.c5, (put7_else (by omega)).trans hd.c6⟩

set_option maxRecDepth 100000 in
set_option maxHeartbeats 1000000 in
theorem eqSeal_same (s : Sl) (w : World) : Calls Tryz.prog 54 #[s.v, s.v] w fun r w' => r = .returned (.bool true) ∧ Below w.heap.size w w' := by
  unfold Sl.v
  go_enter Tryz.func54, Tryz.ntmps54
  go_wp2_with fail
  go_ret
  exact ⟨rfl, ((Below.refl _ _).alloc (Nat.le_refl _) _).alloc (by simp) _⟩

end Go.Proofs.YtopikapamfmalaaGreatDoor

namespace Go.Proofs.YtopikapamfmalaaGreatDoor
open Go.RowKit
attribute [local go_sem ↓] Go.wp_at_zero Go.wp_at_succ

end Go.Proofs.YtopikapamfmalaaGreatDoor
