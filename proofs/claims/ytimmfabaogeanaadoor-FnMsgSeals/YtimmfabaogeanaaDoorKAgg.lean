/-
  A row of seals, and a row of numbers, that were handed over: what they are in memory. No condition.
-/
import Derived.Test.YtimmfabaogeanaaDoorKRow
import Derived.Test.YtimmfabaogeanaaDoorSealAgg
import Derived.Deep.Slices
import Derived.Lib.SmallJoins
import Derived.ProofKit
import Derived.OpenShut
namespace Go.Proofs.YtimmfabaogeanaaDoor
open Go.ChangeShapes Go.WideShapes Go.Deep Go.RowKit

/-- Seven cells that read as a struct of seven ints. -/
theorem cells_seven {H : Type} {enc : TypeId × Value → H} {P : Program} {w : World} {base : Nat} {spare : Nat → Bool} {held : Bool} {e tI : TypeId} {fs : Array Field} {cs : List Value} {fuel : Nat} {x : DataW H × List MemPlace}
    (he : P.underlying e = some (.struct fs)) (h7 : fs.size = 7) (hI : P.underlying tI = some (.int .i64)) (hone : oneCellFields P fs = true) (hty : (fs.all fun f => f.type == tI) = true) (hC : P.cellsOf e = 7)
    (h : DataW.trod enc P w base spare held fuel e cs = some x) :
    ∃ s : Sl, cs = [.int .i64 s.k, .int .i64 s.t, .int .i64 s.a, .int .i64 s.b, .int .i64 s.c, .int .i64 s.d, .int .i64 s.e] := by
  obtain ⟨xs, n, _, hx, hl, hlen, hf⟩ := DataW.trod_struct he h
  have hcl : cs.length = fs.size := by rw [hl, hC, h7]
  have hg := fun i hi => SealAgg.intAt hI hone hty hlen hf hcl i hi
  obtain ⟨n0, c0, _⟩ := hg 0 (by omega)
  obtain ⟨n1, c1, _⟩ := hg 1 (by omega)
  obtain ⟨n2, c2, _⟩ := hg 2 (by omega)
  obtain ⟨n3, c3, _⟩ := hg 3 (by omega)
  obtain ⟨n4, c4, _⟩ := hg 4 (by omega)
  obtain ⟨n5, c5, _⟩ := hg 5 (by omega)
  obtain ⟨n6, c6, _⟩ := hg 6 (by omega)
  exact ⟨⟨n0, n1, n2, n3, n4, n5, n6⟩, SealAgg.list7 (by rw [hcl, h7]) c0 c1 c2 c3 c4 c5 c6⟩

/-- A row of such structs. -/
theorem open_seals {H : Type} {enc : TypeId × Value → H} {P : Program} {w : World} {base : Nat} {spare : Nat → Bool} {held : Bool} {t e tI : TypeId} {fs : Array Field} {v : Value} {fuel : Nat} {x : DataW H × List MemPlace}
    (ht : P.underlying t = some (.slice e)) (he : P.underlying e = some (.struct fs)) (h7 : fs.size = 7) (hI : P.underlying tI = some (.int .i64)) (hone : oneCellFields P fs = true) (hty : (fs.all fun f => f.type == tI) = true) (hC : P.cellsOf e = 7)
    (h : DataW.trod enc P w base spare held fuel t [v] = some x) :
    ∃ (a : Option Addr) (xs : List Sl) (cap : Nat), v = .slice a xs.length cap ∧ SRow w a xs ∧ xs.length ≤ maxLen := by
  rcases open_slice ht h with ⟨h0, _⟩ | ⟨a, len, cap, m, n, D, Pl, h0, hb, hl, hm, hmm, _, hx⟩
  · exact ⟨none, [], 0, by simpa using h0, Or.inl rfl, by simp⟩
  · have hv : v = .slice (some a) len cap := by simpa using h0
    have hlm : len ≤ m := by rw [hmm]; split <;> omega
    by_cases hz : len = 0
    · exact ⟨some a, [], cap, by simp [hv, hz], Or.inl rfl, by simp⟩
    rw [hC] at hx
    have hsp : a.spot = none := by
      obtain ⟨cs, h1, h2⟩ := hx 0 (by omega)
      obtain ⟨s, rfl⟩ := cells_seven he h7 hI hone hty hC h2
      obtain ⟨_, _, hc⟩ := World.cells?_some h1
      have hs0 := World.cell?_spot (hc 0 (by omega))
      simpa [Addr.add] using hs0
    have iS : Inhabited Sl := ⟨⟨0, 0, 0, 0, 0, 0, 0⟩⟩
    obtain ⟨S, hS⟩ := choose_lt (α := Sl) (n := len) (p := fun i s => SealAt w a.block (a.off + i * 7) s) (fun i hi => by
      obtain ⟨cs, h1, h2⟩ := hx i (by omega)
      obtain ⟨s, rfl⟩ := cells_seven he h7 hI hone hty hC h2
      obtain ⟨_, _, hc⟩ := World.cells?_some h1
      have hg : ∀ q, q < 7 → w.cell? ⟨a.block, a.off + i * 7 + q, none⟩ = [Value.int .i64 s.k, .int .i64 s.t, .int .i64 s.a, .int .i64 s.b, .int .i64 s.c, .int .i64 s.d, .int .i64 s.e][q]? := by
        intro q hq
        rw [← hc q hq]
        congr 1
        obtain ⟨ab, ao, asp⟩ := a
        simp only at hsp
        subst hsp
        by_cases e1 : i * 7 = 0 <;> by_cases e2 : q = 0 <;> simp [Addr.add, e1, e2]
      exact ⟨s, ⟨by simpa using hg 0 (by omega), hg 1 (by omega), hg 2 (by omega), hg 3 (by omega), hg 4 (by omega), hg 5 (by omega), hg 6 (by omega)⟩⟩)
    obtain ⟨ab, ao, asp⟩ := a
    obtain rfl : asp = none := hsp
    refine ⟨some ⟨ab, ao, none⟩, (List.range len).map S, cap, by simp [hv], Or.inr ⟨ab, ao, rfl, block_lt_of_cell (hS 0 (by omega)).c0, fun i s hs => ?_⟩, by simp; omega⟩
    have hil : i < len := by
      have := (List.getElem?_eq_some_iff.1 hs).1; simpa using this
    have e : S i = s := by simpa [hil] using hs
    exact e ▸ hS i hil

end Go.Proofs.YtimmfabaogeanaaDoor
