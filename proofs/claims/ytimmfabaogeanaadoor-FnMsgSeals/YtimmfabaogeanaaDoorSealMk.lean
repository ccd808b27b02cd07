/-
  The laws' own marks in rows of seals.
-/
import Derived.Test.YtimmfabaogeanaaDoorTouch
import Derived.Test.YtimmfabaogeanaaDoorPut7
namespace Go.Proofs.YtimmfabaogeanaaDoor
open Go.RowKit
attribute [local go_sem ↓] Go.wp_at_zero Go.wp_at_succ

theorem marks7 {w : World} {g j : Nat} {k0 : Int} {s : Sl} (hc : ∀ q, q < 7 → ∃ u, w.cell? ⟨g, j * 7 + q, none⟩ = some u) (hb : ∀ i, i < j * 7 → w.cell? ⟨g, i, none⟩ = some (.int .i64 (k0 + i)))
    (h0 : s.k = k0 + (j * 7 : Nat)) (h1 : s.t = k0 + (j * 7 + 1 : Nat)) (h2 : s.a = k0 + (j * 7 + 2 : Nat)) (h3 : s.b = k0 + (j * 7 + 3 : Nat)) (h4 : s.c = k0 + (j * 7 + 4 : Nat)) (h5 : s.d = k0 + (j * 7 + 5 : Nat)) (h6 : s.e = k0 + (j * 7 + 6 : Nat)) :
    ∀ i, i < (j + 1) * 7 → (put7 w g (j * 7) s).cell? ⟨g, i, none⟩ = some (.int .i64 (k0 + i)) := by
  intro i hi
  have hat := put7_at (s := s) hc
  by_cases hi7 : i < j * 7
  · exact (put7_else (by omega)).trans (hb i hi7)
  · rcases (by omega : i = j * 7 ∨ i = j * 7 + 1 ∨ i = j * 7 + 2 ∨ i = j * 7 + 3 ∨ i = j * 7 + 4 ∨ i = j * 7 + 5 ∨ i = j * 7 + 6) with h | h | h | h | h | h | h
    · rw [h, hat.c0, h0]
    · rw [h, hat.c1, h1]
    · rw [h, hat.c2, h2]
    · rw [h, hat.c3, h3]
    · rw [h, hat.c4, h4]
    · rw [h, hat.c5, h5]
    · rw [h, hat.c6, h6]

end Go.Proofs.YtimmfabaogeanaaDoor
