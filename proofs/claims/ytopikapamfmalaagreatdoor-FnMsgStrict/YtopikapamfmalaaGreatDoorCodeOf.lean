/-
  A list of bytes that was handed over: its bytes lie in memory; no condition.
-/
import Derived.Test.YtopikapamfmalaaGreatDoorDrawSeal
import Derived.ProofKit
import Derived.OpenShut
namespace Go.Proofs.YtopikapamfmalaaGreatDoor
open Go.ChangeShapes Go.WideShapes Go.ChangeAt Go.RowKit

theorem ownK : ownKnob Tryz.prog.godebug = none := by kernel_rfl
theorem laidOut : laidOutB Tryz.prog = true := by kernel_rfl
theorem cellsU8 : Tryz.prog.cellsOf 5 = 1 := by kernel_rfl

/-- A list of bytes that was handed over. -/
theorem code_of {H : Type} {enc : TypeId × Value → H} {W : World} {a : Option Addr} {len cap : Nat} {d : DataW H} {p : List MemPlace} (h : DataW.Trod enc Tryz.prog W 0 (fun _ => true) true 30 (.slice a len cap) d p) : Code W a len cap := by
  obtain ⟨fuel, hf⟩ := h
  rcases open_ints Tryz.underlying30 Tryz.underlying5 cellsU8 hf with ⟨hcs, _⟩ | ⟨x, l, c, zs, hcs, _, hl, hm, hz, _, hcell, hwz⟩
  · simp [Value.cells] at hcs
    exact Or.inl hcs.2.1
  · simp [Value.cells] at hcs
    obtain ⟨rfl, rfl, rfl⟩ := hcs
    by_cases h0 : len = 0
    · exact Or.inl h0
    obtain ⟨cb, off, spot⟩ := x
    have hzl : zs.length = cap := by simpa using hz
    have hc := hcell 0 (by omega)
    have hspot : spot = none := by simpa [Addr.add] using World.cell?_spot hc
    subst hspot
    refine Or.inr ⟨hl, cb, off, rfl, block_lt_of_cell hc, fun i hi => ?_⟩
    have hi' : i < zs.length := by omega
    have hb := range_u8 hwz i
    rw [← List.getD_eq_getElem?_getD] at hb
    have ea : (⟨cb, off, none⟩ : Addr).add i = ⟨cb, off + i, none⟩ := by by_cases h : i = 0 <;> simp [Addr.add, h]
    have hc2 := hcell i hi'
    rw [ea] at hc2
    exact ⟨zs.getD i 0, hb.1, hb.2, hc2⟩

end Go.Proofs.YtopikapamfmalaaGreatDoor
