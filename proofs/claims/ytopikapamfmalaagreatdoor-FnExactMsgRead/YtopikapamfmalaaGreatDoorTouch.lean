/-
  Just one block is turned; a row that may be written.
-/
import Derived.Test.YtopikapamfmalaaGreatDoorBaseJ
namespace Go.Proofs.YtopikapamfmalaaGreatDoor
open Go.RowKit

theorem Hid.mk' {p : Prop} (h : p) : Hid p := h
/-- Just one block is turned. -/
structure Touch (g : Nat) (w w' : World) : Prop where
  os : w'.os = w.os
  tape : w'.tape = w.tape
  output : w'.output = w.output
  size : w'.heap.size = w.heap.size
  block : ∀ k, k ≠ g → w'.heap[k]? = w.heap[k]?
theorem Touch.refl (g : Nat) (w : World) : Touch g w w := ⟨rfl, rfl, rfl, rfl, fun _ _ => rfl⟩
theorem Touch.below {g : Nat} {w w' : World} (h : Touch g w w') {B : Nat} (hB : B ≤ g) : Below B w w' := ⟨h.os, h.tape, h.output, Nat.le_of_eq h.size.symm, fun k hk => h.block k (by omega)⟩
theorem Touch.set {g o : Nat} {w w' : World} {v : Value} (h : Touch g w w') : Touch g w (w'.setCell ⟨g, o, none⟩ v) :=
  ⟨h.os, h.tape, h.output, by simpa using h.size, fun k hk => by
    rw [← h.block k hk]
    simp [World.setCell, Array.getElem?_modify, Ne.symm hk]⟩
/-- A row that may be written: so many cells of a block. -/
def WB (w : World) (g n : Nat) : Prop := ∃ cur t, w.heap[g]? = some (.cells cur t (0, 0)) ∧ n ≤ cur.size
theorem WB.set {w : World} {g o n : Nat} {v : Value} (h : WB w g n) : WB (w.setCell ⟨g, o, none⟩ v) g n := by
  obtain ⟨cur, t, hc, hn⟩ := h
  exact ⟨cur.setIfInBounds o v, t, by simp [World.setCell, Array.getElem?_modify, hc], by simpa using hn⟩
theorem WB.lt {w : World} {g n : Nat} (h : WB w g n) : g < w.heap.size := by
  obtain ⟨cur, t, hc, _⟩ := h
  exact (Array.getElem?_eq_some_iff.1 hc).1
theorem WB.cell {w : World} {g n : Nat} (h : WB w g n) {o : Nat} (ho : o < n) : (∃ v, w.cell? ⟨g, o, none⟩ = some v) ∧ w.frozen? ⟨g, o, none⟩ = false := by
  obtain ⟨cur, t, hc, hn⟩ := h
  have ho' : o < cur.size := by omega
  exact ⟨⟨cur[o], by simp [World.cell?, hc, ho']⟩, by simp [World.frozen?, hc]⟩
theorem WB.same {w w' : World} {g n : Nat} (h : WB w g n) (e : w'.heap[g]? = w.heap[g]?) : WB w' g n := by
  obtain ⟨cur, t, hc, hn⟩ := h
  exact ⟨cur, t, e.trans hc, hn⟩

end Go.Proofs.YtopikapamfmalaaGreatDoor
