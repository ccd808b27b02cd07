/-
  The laws' own ways with a user: a copy, whether two are the same, how long, marks.
-/
import Derived.Test.YtimmfabaogeanaaDoorClTo
import Derived.Test.YtimmfabaogeanaaDoorClMk
namespace Go.Proofs.YtimmfabaogeanaaDoor
open Go.RowKit

/-- The lists of a user. -/
structure CRows (w : World) (a1 a2 a3 a4 : Option Addr) (ws : List Wn) (cs : List Cd) (ss ms : List Ca) : Prop where
  w1 : NRow celW w a1 ws
  w2 : NRow celD w a2 cs
  w3 : NRow celC w a3 ss
  w4 : NRow celC w a4 ms
theorem CRows.later {w w' : World} {a1 a2 a3 a4 : Option Addr} {ws : List Wn} {cs : List Cd} {ss ms : List Ca} (h : CRows w a1 a2 a3 a4 ws cs ss ms) (hb : Below w.heap.size w w') : CRows w' a1 a2 a3 a4 ws cs ss ms := ⟨h.w1.later hb, h.w2.later hb, h.w3.later hb, h.w4.later hb⟩

theorem WB.else {w : World} {g n p o : Nat} {u : Value} (h : WB w g n) (hp : p ≠ g) : WB (w.setCell ⟨p, o, none⟩ u) g n := h.same (by simp [World.setCell, Array.getElem?_modify, hp])
theorem WB.later {w w' : World} {g n : Nat} (h : WB w g n) (hb : Below w.heap.size w w') : WB w' g n := h.same (hb.block _ h.lt)

theorem restI_neg {q : Int} {len : Nat} (h : restI q len < 0) : restI q len = -1 := by
  unfold restI at h ⊢
  split at h
  · rw [if_pos (by assumption)]
  · omega
/-- What is left behind the four lists of a user. -/
def restC (q : Int) (l1 l2 l3 l4 : Nat) : Int := if q - l1 < 0 then -1 else if q - l1 - l2 < 0 then -1 else if q - l1 - l2 - l3 < 0 then -1 else if q - l1 - l2 - l3 - l4 < 0 then -1 else q - l1 - l2 - l3 - l4
end Go.Proofs.YtimmfabaogeanaaDoor
