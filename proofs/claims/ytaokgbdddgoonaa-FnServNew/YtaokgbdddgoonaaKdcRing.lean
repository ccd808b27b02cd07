/-
  The ring: seals from a place on, those past the end at the beginning; one more behind all, the first taken out.
-/
import Derived.Test.YtaokgbdddgoonaaKdcMath
import Derived.Test.YtaokgbdddgoonaaPut7
import Derived.Test.YtaokgbdddgoonaaSOwn
namespace Go.Proofs.Ytaokgbdddgoonaa
open Go.RowKit
attribute [local go_sem ↓] Go.wp_at_zero Go.wp_at_succ

theorem cells7r {w : World} {B t : Nat} {a0 a1 a2 a3 a4 a5 a6 : Value} (h : w.heap[B]? = some (.cells #[a0, a1, a2, a3, a4, a5, a6] t (0, 0))) :
    w.cell? ⟨B, 0, none⟩ = some a0 ∧ w.cell? ⟨B, 1, none⟩ = some a1 ∧ w.cell? ⟨B, 2, none⟩ = some a2 ∧ w.cell? ⟨B, 3, none⟩ = some a3 ∧ w.cell? ⟨B, 4, none⟩ = some a4 ∧ w.cell? ⟨B, 5, none⟩ = some a5 ∧ w.cell? ⟨B, 6, none⟩ = some a6 ∧ (∀ i, w.frozen? ⟨B, i, none⟩ = false) := by
  refine ⟨?_, ?_, ?_, ?_, ?_, ?_, ?_, fun i => ?_⟩
  all_goals simp [World.cell?, World.frozen?, h]
theorem set_grown {W w : World} {b o : Nat} {v : Value} (g : W.grownBy w (some b)) : W.grownBy (w.setCell ⟨b, o, none⟩ v) (some b) :=
  ⟨g.os, g.tape, g.output, by simpa using g.size, fun k hk hne => by
    rw [← g.block k hk hne]
    have : ¬ b = k := fun e => hne (by rw [e])
    simp [World.setCell, Array.getElem?_modify, this]⟩
theorem put7_grown {W w : World} {b o : Nat} {s : Sl} (g : W.grownBy w (some b)) : W.grownBy (put7 w b o s) (some b) :=
  set_grown (set_grown (set_grown (set_grown (set_grown (set_grown (set_grown g))))))
theorem put7_aside {W w : World} {b o : Nat} {s : Sl} {r : Option Nat} (g : W.grownBy w r) (hb : W.heap.size ≤ b) : W.grownBy (put7 w b o s) r :=
  have hh : Below b w (put7 w b o s) := put7_below (Below.refl _ _) (Nat.le_refl _)
  ⟨hh.os.trans g.os, hh.tape.trans g.tape, hh.output.trans g.output, Nat.le_trans g.size hh.size, fun k hk hne => (put7_heap (show b ≠ k by omega)).trans (g.block k hk hne)⟩
theorem SealAt.side {w : World} {b o b' o' : Nat} {v : Value} {s : Sl} (d : SealAt w b o s) (h : b' ≠ b ∨ o' < o ∨ o + 6 < o') : SealAt (w.setCell ⟨b', o', none⟩ v) b o s :=
  ⟨(cell_else (by omega)).trans d.c0, (cell_else (by omega)).trans d.c1, (cell_else (by omega)).trans d.c2, (cell_else (by omega)).trans d.c3, (cell_else (by omega)).trans d.c4, (cell_else (by omega)).trans d.c5, (cell_else (by omega)).trans d.c6⟩
end Go.Proofs.Ytaokgbdddgoonaa
