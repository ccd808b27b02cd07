/-
  The laws' own ways with a user: a copy, whether two are the same, how long, marks.
-/
import Derived.Test.YtaokgbdddgoonaaClTo
import Derived.Test.YtaokgbdddgoonaaClMk
namespace Go.Proofs.Ytaokgbdddgoonaa
open Go.RowKit

/-- A user lies in a block of its own. -/
def CBlk (w : World) (b : Nat) (i n : Int) (v1 v2 v3 v4 : Value) : Prop := w.heap[b]? = some (.cells #[.int .i64 i, .int .i64 n, v1, v2, v3, v4] 36 (0, 0))
theorem CBlk.lt {w : World} {b : Nat} {i n : Int} {v1 v2 v3 v4 : Value} (h : CBlk w b i n v1 v2 v3 v4) : b < w.heap.size := (Array.getElem?_eq_some_iff.1 h).1
theorem CBlk.later {w w' : World} {b : Nat} {i n : Int} {v1 v2 v3 v4 : Value} (h : CBlk w b i n v1 v2 v3 v4) (hb : Below w.heap.size w w') : CBlk w' b i n v1 v2 v3 v4 := (hb.block _ h.lt).trans h
theorem CBlk.new (w : World) (i n : Int) (v1 v2 v3 v4 : Value) : CBlk (w.alloc (.cells #[.int .i64 i, .int .i64 n, v1, v2, v3, v4] 36)) w.heap.size i n v1 v2 v3 v4 := heap_alloc_new _ _
theorem CBlk.cells {w : World} {b : Nat} {i n : Int} {v1 v2 v3 v4 : Value} (h : CBlk w b i n v1 v2 v3 v4) : w.cell? ⟨b, 0, none⟩ = some (.int .i64 i) ∧ w.cell? ⟨b, 1, none⟩ = some (.int .i64 n) ∧ w.cell? ⟨b, 2, none⟩ = some v1 ∧ w.cell? ⟨b, 3, none⟩ = some v2 ∧ w.cell? ⟨b, 4, none⟩ = some v3 ∧ w.cell? ⟨b, 5, none⟩ = some v4 := by
  unfold CBlk at h
  refine ⟨?_, ?_, ?_, ?_, ?_, ?_⟩ <;> simp [World.cell?, h]
theorem CBlk.fro {w : World} {b : Nat} {i n : Int} {v1 v2 v3 v4 : Value} (h : CBlk w b i n v1 v2 v3 v4) : ∀ q, w.frozen? ⟨b, q, none⟩ = false := by
  intro q
  unfold CBlk at h
  simp [World.frozen?, h]
theorem CBlk.gr {w w' : World} {b : Nat} {i n : Int} {v1 v2 v3 v4 : Value} {r : Option Nat} (h : CBlk w b i n v1 v2 v3 v4) (hb : w.grownBy w' r) (hB : some b ≠ r) : CBlk w' b i n v1 v2 v3 v4 := (hb.block _ h.lt hB).trans h
theorem CBlk.put {w : World} {b : Nat} {i n : Int} {v1 v2 v3 v4 : Value} (h : CBlk w b i n v1 v2 v3 v4) (i' n' : Int) (u1 u2 u3 u4 : Value) : CBlk ((((((w.setCell ⟨b, 0, none⟩ (.int .i64 i')).setCell ⟨b, 1, none⟩ (.int .i64 n')).setCell ⟨b, 2, none⟩ u1).setCell ⟨b, 3, none⟩ u2).setCell ⟨b, 4, none⟩ u3).setCell ⟨b, 5, none⟩ u4) b i' n' u1 u2 u3 u4 := by
  unfold CBlk at h ⊢
  simp [World.setCell, Array.getElem?_modify, h]
/-- The lists of a user. -/
structure CRows (w : World) (a1 a2 a3 a4 : Option Addr) (ws : List Wn) (cs : List Cd) (ss ms : List Ca) : Prop where
  w1 : NRow celW w a1 ws
  w2 : NRow celD w a2 cs
  w3 : NRow celC w a3 ss
  w4 : NRow celC w a4 ms
theorem CRows.later {w w' : World} {a1 a2 a3 a4 : Option Addr} {ws : List Wn} {cs : List Cd} {ss ms : List Ca} (h : CRows w a1 a2 a3 a4 ws cs ss ms) (hb : Below w.heap.size w w') : CRows w' a1 a2 a3 a4 ws cs ss ms := ⟨h.w1.later hb, h.w2.later hb, h.w3.later hb, h.w4.later hb⟩

theorem CBlk.set2 {w : World} {b : Nat} {i n : Int} {v1 v2 v3 v4 : Value} (h : CBlk w b i n v1 v2 v3 v4) (u : Value) : CBlk (w.setCell ⟨b, 2, none⟩ u) b i n u v2 v3 v4 := by
  unfold CBlk at h ⊢
  simp [World.setCell, Array.getElem?_modify, h]
theorem CBlk.set3 {w : World} {b : Nat} {i n : Int} {v1 v2 v3 v4 : Value} (h : CBlk w b i n v1 v2 v3 v4) (u : Value) : CBlk (w.setCell ⟨b, 3, none⟩ u) b i n v1 u v3 v4 := by
  unfold CBlk at h ⊢
  simp [World.setCell, Array.getElem?_modify, h]
theorem CBlk.set4 {w : World} {b : Nat} {i n : Int} {v1 v2 v3 v4 : Value} (h : CBlk w b i n v1 v2 v3 v4) (u : Value) : CBlk (w.setCell ⟨b, 4, none⟩ u) b i n v1 v2 u v4 := by
  unfold CBlk at h ⊢
  simp [World.setCell, Array.getElem?_modify, h]
theorem CBlk.set5 {w : World} {b : Nat} {i n : Int} {v1 v2 v3 v4 : Value} (h : CBlk w b i n v1 v2 v3 v4) (u : Value) : CBlk (w.setCell ⟨b, 5, none⟩ u) b i n v1 v2 v3 u := by
  unfold CBlk at h ⊢
  simp [World.setCell, Array.getElem?_modify, h]
theorem CBlk.else {w : World} {b p o : Nat} {i n : Int} {v1 v2 v3 v4 u : Value} (h : CBlk w b i n v1 v2 v3 v4) (hp : p ≠ b) : CBlk (w.setCell ⟨p, o, none⟩ u) b i n v1 v2 v3 v4 := by
  unfold CBlk at h ⊢
  rw [← h]
  simp [World.setCell, Array.getElem?_modify, hp]
theorem WB.else {w : World} {g n p o : Nat} {u : Value} (h : WB w g n) (hp : p ≠ g) : WB (w.setCell ⟨p, o, none⟩ u) g n := h.same (by simp [World.setCell, Array.getElem?_modify, hp])
theorem WB.later {w w' : World} {g n : Nat} (h : WB w g n) (hb : Below w.heap.size w w') : WB w' g n := h.same (hb.block _ h.lt)

theorem restI_neg {q : Int} {len : Nat} (h : restI q len < 0) : restI q len = -1 := by
  unfold restI at h ⊢
  split at h
  · rw [if_pos (by assumption)]
  · omega
/-- What is left behind the four lists of a user. -/
def restC (q : Int) (l1 l2 l3 l4 : Nat) : Int := if q - l1 < 0 then -1 else if q - l1 - l2 < 0 then -1 else if q - l1 - l2 - l3 < 0 then -1 else if q - l1 - l2 - l3 - l4 < 0 then -1 else q - l1 - l2 - l3 - l4
end Go.Proofs.Ytaokgbdddgoonaa
