/-
  A row of numbers that was handed over: what it is in memory. No condition.
-/
import Derived.Test.YtepnijocfilgoaaDoorKAgg
import Derived.Test.YtepnijocfilgoaaDoorKnowBits
namespace Go.Proofs.YtepnijocfilgoaaDoor
open Go.ChangeShapes Go.WideShapes Go.Deep Go.RowKit

/-- A row of numbers that was handed over. -/
theorem open_introw {H : Type} {enc : TypeId × Value → H} {P : Program} {w : World} {spare : Nat → Bool} {base : Nat} {held : Bool} {t e : TypeId} {v : Value} {fuel : Nat} {x : DataW H × List MemPlace}
    (ht : P.underlying t = some (.slice e)) (he : P.underlying e = some (.int .i64)) (hc : P.cellsOf e = 1) (h : DataW.trod enc P w base spare held fuel t [v] = some x) :
    ∃ (a : Option Addr) (ks : List Int) (cap : Nat), v = .slice a ks.length cap ∧ IRow w a ks := by
  rcases open_ints ht he hc h with ⟨hcs, _⟩ | ⟨x, l, c, zs, hcs, _, hl, hm, hz, _, hcell, hwz⟩
  · exact ⟨none, [], 0, by simpa using hcs, Or.inl rfl⟩
  · have hv : v = .slice (some x) l c := by simpa using hcs
    by_cases h0 : l = 0
    · exact ⟨some x, [], c, by simp [hv, h0], Or.inl rfl⟩
    obtain ⟨cb, off, spot⟩ := x
    have hlz : l ≤ zs.length := by rw [hz]; split <;> omega
    have hc0 := hcell 0 (by omega)
    have hspot : spot = none := by simpa [Addr.add] using World.cell?_spot hc0
    subst hspot
    refine ⟨some ⟨cb, off, none⟩, zs.take l, c, by simp [hv]; omega, Or.inr ⟨cb, off, rfl, block_lt_of_cell hc0, fun i n hn => ?_⟩⟩
    have hi : i < (zs.take l).length := (List.getElem?_eq_some_iff.1 hn).1
    rw [List.length_take] at hi
    have ea : (⟨cb, off, none⟩ : Addr).add i = ⟨cb, off + i, none⟩ := by by_cases h : i = 0 <;> simp [Addr.add, h]
    have hc2 := hcell i (by omega)
    rw [ea] at hc2
    rw [hc2]
    rw [List.getElem?_take_of_lt (by omega)] at hn
    simp [List.getD, hn]

end Go.Proofs.YtepnijocfilgoaaDoor
