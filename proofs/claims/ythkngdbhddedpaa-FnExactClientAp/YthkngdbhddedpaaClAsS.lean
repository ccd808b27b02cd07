/-
  Who asks for a first ticket, by the specification.
-/
import Derived.Test.YthkngdbhddedpaaClAsI
import Derived.Deep.DeepCutAuto
namespace Go.Proofs.Ythkngdbhddedpaa
open Go.RowKit
attribute [local go_sem ↓] Go.wp_at_zero Go.wp_at_succ

/-- What is known on the way through a region. -/
structure RgAsS (w : World) (B : Nat) (i n : Int) (b2 b3 b4 b5 : Option Addr) (e2 e3 e4 c5 : Nat) (WS : List Wn) (cs : List Cd) (ss ms : List Ca) (d : Nat → Bool) (s : Nat → Value) (w' : World) : Prop where
  bel : Below B w w'
  ba : ABlk 32 w' (w.heap.size) #[.int .i64 i, .int .i64 (n + 1), .slice b5 WS.length c5, .slice b2 cs.length e2, .slice b3 ss.length e3, .slice b4 ms.length e4]
  o4 : Own4 w' B (.slice b5 WS.length c5) (.slice b2 cs.length e2) (.slice b3 ss.length e3) (.slice b4 ms.length e4) WS cs ss ms
  r : ∃ x0 x1 x2 x3 x4 x5, ABlk 32 w' (w.heap.size + 1) #[x0, x1, x2, x3, x4, x5]
  rv : d 7 = true → ABlk 32 w' (w.heap.size + 1) #[.int .i64 i, .int .i64 (n + 1), .slice b5 WS.length c5, .slice b2 cs.length e2, .slice b3 ss.length e3, .slice b4 ms.length e4]
  m : ∃ y0 y1 y2 y3 y4, ABlk 35 w' (w.heap.size + 1 + 1) #[y0, y1, y2, y3, y4]
  mv : d 8 = true → ∃ g, ABlk 35 w' (w.heap.size + 1 + 1) #[.int .i64 1, .int .i64 i, .int .i64 0, .int .i64 (n + 1), .slice (some ⟨g, 0, none⟩) 0 0] ∧ OwnS w' w.heap.size (.slice (some ⟨g, 0, none⟩) 0 0) []
  fw : d 6 = true → ∃ g, s 28 = Value.agg #[.int .i64 1, .int .i64 i, .int .i64 0, .int .i64 (n + 1), .slice (some ⟨g, 0, none⟩) 0 0] ∧ OwnS w' w.heap.size (.slice (some ⟨g, 0, none⟩) 0 0) []
  fg : d 5 = true → ∃ g, s 27 = Value.slice (some ⟨g, 0, none⟩) 0 0 ∧ OwnS w' w.heap.size (.slice (some ⟨g, 0, none⟩) 0 0) []
  ft : d 9 = true → s 4 = Value.bool true
  f0 : d 0 = true → s 22 = Value.agg #[.int .i64 i, .int .i64 (n + 1), .slice b5 WS.length c5, .slice b2 cs.length e2, .slice b3 ss.length e3, .slice b4 ms.length e4]
  f1 : d 1 = true → s 23 = Value.pointer (some ⟨w.heap.size, 0, none⟩)
  f2 : d 2 = true → s 24 = Value.int .i64 i
  f3 : d 3 = true → s 25 = Value.pointer (some ⟨w.heap.size, 1, none⟩)
  f4 : d 4 = true → s 26 = Value.int .i64 (n + 1)
theorem RgAsS.later {w : World} {B : Nat} {i n : Int} {b2 b3 b4 b5 : Option Addr} {e2 e3 e4 c5 : Nat} {WS : List Wn} {cs : List Cd} {ss ms : List Ca} {d : Nat → Bool} {s : Nat → Value} {w1 w2 : World} (hB9 : B ≤ w.heap.size) (h : RgAsS w B i n b2 b3 b4 b5 e2 e3 e4 c5 WS cs ss ms d s w1) (hb : Below w1.heap.size w1 w2) : RgAsS w B i n b2 b3 b4 b5 e2 e3 e4 c5 WS cs ss ms d s w2 := by
  refine ⟨?_, ?_, ?_, ?_, ?_, ?_, ?_, ?_, ?_, h.ft, h.f0, h.f1, h.f2, h.f3, h.f4⟩
  · exact h.bel.trans (hb.mono (by have h7 := h.bel.size; omega))
  · exact h.ba.later hb
  · exact h.o4.later hb
  · obtain ⟨x0, x1, x2, x3, x4, x5, h1⟩ := h.r
    exact ⟨x0, x1, x2, x3, x4, x5, h1.later hb⟩
  · intro e
    exact (h.rv e).later hb
  · obtain ⟨y0, y1, y2, y3, y4, h1⟩ := h.m
    exact ⟨y0, y1, y2, y3, y4, h1.later hb⟩
  · intro e
    obtain ⟨g, h1, h2⟩ := h.mv e
    exact ⟨g, h1.later hb, h2.later hb⟩
  · intro e
    obtain ⟨g, h1, h2⟩ := h.fw e
    exact ⟨g, h1, h2.later hb⟩
  · intro e
    obtain ⟨g, h1, h2⟩ := h.fg e
    exact ⟨g, h1, h2.later hb⟩

end Go.Proofs.Ythkngdbhddedpaa
