/-
  A seal, written over seven cells of a block.
-/
import Derived.Test.YtopikapamfmalaaGreatDoorBaseJ
namespace Go.Proofs.YtopikapamfmalaaGreatDoor
open Go.RowKit

theorem cell_else {w : World} {b o b' o' : Nat} {v : Value} (h : b ≠ b' ∨ o ≠ o') : (w.setCell ⟨b, o, none⟩ v).cell? ⟨b', o', none⟩ = w.cell? ⟨b', o', none⟩ := by
  apply World.cell?_setCell_other
  intro e
  injection e with e1 e2
  rcases h with h | h
  · exact h e1
  · exact h e2

theorem SRow.set {w : World} {g off p o : Nat} {v : Value} {xs : List Sl} (h : SRow w (some ⟨g, off, none⟩) xs) (hp : p ≠ g) : SRow (w.setCell ⟨p, o, none⟩ v) (some ⟨g, off, none⟩) xs := by
  rcases h with h | ⟨b, o', he, hl, h⟩
  · exact Or.inl h
  · injection he with he
    injection he with e1 e2
    subst e1 e2
    refine Or.inr ⟨g, off, rfl, by simpa using hl, fun i s hs => ?_⟩
    have hd := h i s hs
    exact ⟨(cell_else (Or.inl hp)).trans hd.c0, (cell_else (Or.inl hp)).trans hd.c1, (cell_else (Or.inl hp)).trans hd.c2, (cell_else (Or.inl hp)).trans hd.c3, (cell_else (Or.inl hp)).trans hd.c4, (cell_else (Or.inl hp)).trans hd.c5, (cell_else (Or.inl hp)).trans hd.c6⟩

theorem infoSeal : (Tryz.prog.info? 39).map (fun i => (i.zero, i.size, i.bytes)) = some (some (.agg #[.int .i64 0, .int .i64 0, .int .i64 0, .int .i64 0, .int .i64 0, .int .i64 0, .int .i64 0]), 7, 56) := by kernel_rfl

/-- A seal, written over seven cells. -/
def put7 (w : World) (b o : Nat) (s : Sl) : World :=
  (((((((w.setCell ⟨b, o, none⟩ (.int .i64 s.k)).setCell ⟨b, o + 1, none⟩ (.int .i64 s.t)).setCell ⟨b, o + 2, none⟩ (.int .i64 s.a)).setCell ⟨b, o + 3, none⟩ (.int .i64 s.b)).setCell ⟨b, o + 4, none⟩ (.int .i64 s.c)).setCell ⟨b, o + 5, none⟩ (.int .i64 s.d)).setCell ⟨b, o + 6, none⟩ (.int .i64 s.e))
theorem put7_else {w : World} {b o b' o' : Nat} {s : Sl} (h : b ≠ b' ∨ o' < o ∨ o + 6 < o') : (put7 w b o s).cell? ⟨b', o', none⟩ = w.cell? ⟨b', o', none⟩ := by
  unfold put7
  rw [cell_else (by omega), cell_else (by omega), cell_else (by omega), cell_else (by omega), cell_else (by omega), cell_else (by omega), cell_else (by omega)]
theorem cell_same {w : World} {b o : Nat} {v : Value} (h : ∃ u, w.cell? ⟨b, o, none⟩ = some u) : (w.setCell ⟨b, o, none⟩ v).cell? ⟨b, o, none⟩ = some v := by
  obtain ⟨u, hu⟩ := h
  exact World.cell?_setCell_same (u := u) _ _ _ hu
theorem put7_at {w : World} {b o : Nat} {s : Sl} (h : ∀ q, q < 7 → ∃ u, w.cell? ⟨b, o + q, none⟩ = some u) : SealAt (put7 w b o s) b o s := by
  have h0 := h 0 (by omega); have h1 := h 1 (by omega); have h2 := h 2 (by omega); have h3 := h 3 (by omega); have h4 := h 4 (by omega); have h5 := h 5 (by omega); have h6 := h 6 (by omega)
  unfold put7
  constructor
  · rw [cell_else (by omega), cell_else (by omega), cell_else (by omega), cell_else (by omega), cell_else (by omega), cell_else (by omega), cell_same (by simpa using h0)]
  · rw [cell_else (by omega), cell_else (by omega), cell_else (by omega), cell_else (by omega), cell_else (by omega), cell_same (by rw [cell_else (by omega)]; exact h1)]
  · rw [cell_else (by omega), cell_else (by omega), cell_else (by omega), cell_else (by omega), cell_same (by rw [cell_else (by omega), cell_else (by omega)]; exact h2)]
  · rw [cell_else (by omega), cell_else (by omega), cell_else (by omega), cell_same (by rw [cell_else (by omega), cell_else (by omega), cell_else (by omega)]; exact h3)]
  · rw [cell_else (by omega), cell_else (by omega), cell_same (by rw [cell_else (by omega), cell_else (by omega), cell_else (by omega), cell_else (by omega)]; exact h4)]
  · rw [cell_else (by omega), cell_same (by rw [cell_else (by omega), cell_else (by omega), cell_else (by omega), cell_else (by omega), cell_else (by omega)]; exact h5)]
  · rw [cell_same (by rw [cell_else (by omega), cell_else (by omega), cell_else (by omega), cell_else (by omega), cell_else (by omega), cell_else (by omega)]; exact h6)]
theorem row_set {w : World} {b o n : Nat} {t : TypeId} {v : Value} (h : ∃ cur, w.heap[b]? = some (.cells cur t (0, 0)) ∧ cur.size = n) : ∃ cur, (w.setCell ⟨b, o, none⟩ v).heap[b]? = some (.cells cur t (0, 0)) ∧ cur.size = n := by
  obtain ⟨cur, hc, hn⟩ := h
  exact ⟨cur.setIfInBounds o v, by simp [World.setCell, Array.getElem?_modify, hc], by simpa using hn⟩
theorem put7_row {w : World} {b o n : Nat} {t : TypeId} {s : Sl} (h : ∃ cur, w.heap[b]? = some (.cells cur t (0, 0)) ∧ cur.size = n) : ∃ cur, (put7 w b o s).heap[b]? = some (.cells cur t (0, 0)) ∧ cur.size = n :=
  row_set (row_set (row_set (row_set (row_set (row_set (row_set h))))))
theorem put7_below {W w : World} {b o B : Nat} {s : Sl} (h : Below B W w) (hb : B ≤ b) : Below B W (put7 w b o s) :=
  ((((((h.setCell (p := ⟨b, o, none⟩) hb _).setCell (p := ⟨b, o + 1, none⟩) hb _).setCell (p := ⟨b, o + 2, none⟩) hb _).setCell (p := ⟨b, o + 3, none⟩) hb _).setCell (p := ⟨b, o + 4, none⟩) hb _).setCell (p := ⟨b, o + 5, none⟩) hb _).setCell (p := ⟨b, o + 6, none⟩) hb _

theorem put7_heap {w : World} {g k o : Nat} {s : Sl} (h : g ≠ k) : (put7 w g o s).heap[k]? = w.heap[k]? := by
  unfold put7
  simp [World.setCell, Array.getElem?_modify, h]
theorem put7_size {w : World} {b o : Nat} {s : Sl} : (put7 w b o s).heap.size = w.heap.size := by
  simp [put7]

end Go.Proofs.YtopikapamfmalaaGreatDoor
