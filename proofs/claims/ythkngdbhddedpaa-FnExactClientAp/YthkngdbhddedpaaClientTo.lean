/-
  The laws' own ways with a user: a copy, whether two are the same, how long, marks.
-/
import Derived.Test.YthkngdbhddedpaaClTo
import Derived.Test.YthkngdbhddedpaaClMk
namespace Go.Proofs.Ythkngdbhddedpaa
open Go.RowKit

/-- A user lies in a block of its own. -/
def CBlk (w : World) (b : Nat) (i n : Int) (v1 v2 v3 v4 : Value) : Prop := w.heap[b]? = some (.cells #[.int .i64 i, .int .i64 n, v1, v2, v3, v4] 32 (0, 0))
theorem CBlk.lt {w : World} {b : Nat} {i n : Int} {v1 v2 v3 v4 : Value} (h : CBlk w b i n v1 v2 v3 v4) : b < w.heap.size := (Array.getElem?_eq_some_iff.1 h).1
theorem CBlk.later {w w' : World} {b : Nat} {i n : Int} {v1 v2 v3 v4 : Value} (h : CBlk w b i n v1 v2 v3 v4) (hb : Below w.heap.size w w') : CBlk w' b i n v1 v2 v3 v4 := (hb.block _ h.lt).trans h
theorem CBlk.new (w : World) (i n : Int) (v1 v2 v3 v4 : Value) : CBlk (w.alloc (.cells #[.int .i64 i, .int .i64 n, v1, v2, v3, v4] 32)) w.heap.size i n v1 v2 v3 v4 := heap_alloc_new _ _
theorem CBlk.cells {w : World} {b : Nat} {i n : Int} {v1 v2 v3 v4 : Value} (h : CBlk w b i n v1 v2 v3 v4) : w.cell? ⟨b, 0, none⟩ = some (.int .i64 i) ∧ w.cell? ⟨b, 1, none⟩ = some (.int .i64 n) ∧ w.cell? ⟨b, 2, none⟩ = some v1 ∧ w.cell? ⟨b, 3, none⟩ = some v2 ∧ w.cell? ⟨b, 4, none⟩ = some v3 ∧ w.cell? ⟨b, 5, none⟩ = some v4 := by
  unfold CBlk at h
  refine ⟨?_, ?_, ?_, ?_, ?_, ?_⟩ <;> simp [World.cell?, h]
theorem CBlk.fro {w : World} {b : Nat} {i n : Int} {v1 v2 v3 v4 : Value} (h : CBlk w b i n v1 v2 v3 v4) : ∀ q, w.frozen? ⟨b, q, none⟩ = false := by
  intro q
  unfold CBlk at h
  simp [World.frozen?, h]
theorem CBlk.gr {w w' : World} {b : Nat} {i n : Int} {v1 v2 v3 v4 : Value} {r : Option Nat} (h : CBlk w b i n v1 v2 v3 v4) (hb : w.grownBy w' r) (hB : some b ≠ r) : CBlk w' b i n v1 v2 v3 v4 := (hb.block _ h.lt hB).trans h
theorem CBlk.put {w : World} {b : Nat} {i n : Int} {v1 v2 v3 v4 : Value} (h : CBlk w b i n v1 v2 v3 v4) (i' n' : Int) (u1 u2 u3 u4 : Value) : CBlk ((((((w.setCell ⟨b, 0, none⟩ (.int .i64 i')).setCell ⟨b, 1, none⟩ (.int .i64 n')).setCell ⟨b, 2, none⟩ u1).setCell ⟨b, 3, none⟩ u2).setCell ⟨b, 4, none⟩ u3).setCell ⟨b, 5, none⟩ u4) b i' n' u1 u2 u3 u4 := by
  unfold CBlk at h ⊢
  simp [World.setCell, Array.getElem?_modify, h]
/-- What was handed over lies in a block of the law's own. -/
def DBlk (w : World) (b : Nat) (i n : Int) (v1 v2 v3 v4 : Value) : Prop := w.heap[b]? = some (.cells #[.int .i64 i, .int .i64 n, v1, v2, v3, v4] 26 (0, 0))
theorem DBlk.lt {w : World} {b : Nat} {i n : Int} {v1 v2 v3 v4 : Value} (h : DBlk w b i n v1 v2 v3 v4) : b < w.heap.size := (Array.getElem?_eq_some_iff.1 h).1
theorem DBlk.later {w w' : World} {b : Nat} {i n : Int} {v1 v2 v3 v4 : Value} (h : DBlk w b i n v1 v2 v3 v4) (hb : Below w.heap.size w w') : DBlk w' b i n v1 v2 v3 v4 := (hb.block _ h.lt).trans h
theorem DBlk.new (w : World) (i n : Int) (v1 v2 v3 v4 : Value) : DBlk (w.alloc (.cells #[.int .i64 i, .int .i64 n, v1, v2, v3, v4] 26)) w.heap.size i n v1 v2 v3 v4 := heap_alloc_new _ _
theorem DBlk.cells {w : World} {b : Nat} {i n : Int} {v1 v2 v3 v4 : Value} (h : DBlk w b i n v1 v2 v3 v4) : w.cell? ⟨b, 0, none⟩ = some (.int .i64 i) ∧ w.cell? ⟨b, 1, none⟩ = some (.int .i64 n) ∧ w.cell? ⟨b, 2, none⟩ = some v1 ∧ w.cell? ⟨b, 3, none⟩ = some v2 ∧ w.cell? ⟨b, 4, none⟩ = some v3 ∧ w.cell? ⟨b, 5, none⟩ = some v4 := by
  unfold DBlk at h
  refine ⟨?_, ?_, ?_, ?_, ?_, ?_⟩ <;> simp [World.cell?, h]

/-- The lists of a user. -/
structure CRows (w : World) (a1 a2 a3 a4 : Option Addr) (ws : List Wn) (cs : List Cd) (ss ms : List Ca) : Prop where
  w1 : NRow celW w a1 ws
  w2 : NRow celD w a2 cs
  w3 : NRow celC w a3 ss
  w4 : NRow celC w a4 ms
theorem CRows.later {w w' : World} {a1 a2 a3 a4 : Option Addr} {ws : List Wn} {cs : List Cd} {ss ms : List Ca} (h : CRows w a1 a2 a3 a4 ws cs ss ms) (hb : Below w.heap.size w w') : CRows w' a1 a2 a3 a4 ws cs ss ms := ⟨h.w1.later hb, h.w2.later hb, h.w3.later hb, h.w4.later hb⟩

set_option maxHeartbeats 1000000 in
set_option maxRecDepth 100000 in
theorem eqClient_same (i n : Int) (a1 a2 a3 a4 b1 b2 b3 b4 : Option Addr) (c1 c2 c3 c4 e1 e2 e3 e4 : Nat) (ws : List Wn) (cs : List Cd) (ss ms : List Ca) (w : World) (h1 : CRows w a1 a2 a3 a4 ws cs ss ms) (h2 : CRows w b1 b2 b3 b4 ws cs ss ms) (hx1 : ws.length ≤ 2000000) (hx2 : cs.length ≤ 2000000) (hx3 : ss.length ≤ 2000000) (hx4 : ms.length ≤ 2000000) :
    Calls Try.prog 9 #[.agg #[.int .i64 i, .int .i64 n, .slice a1 ws.length c1, .slice a2 cs.length c2, .slice a3 ss.length c3, .slice a4 ms.length c4], .agg #[.int .i64 i, .int .i64 n, .slice b1 ws.length e1, .slice b2 cs.length e2, .slice b3 ss.length e3, .slice b4 ms.length e4]] w fun r w' => r = .returned (.bool true) ∧ Below w.heap.size w w' := by
  have HB : Hid (Below w.heap.size w ((w.alloc (.cells #[.int .i64 i, .int .i64 n, .slice a1 ws.length c1, .slice a2 cs.length c2, .slice a3 ss.length c3, .slice a4 ms.length c4] 32)).alloc (.cells #[.int .i64 i, .int .i64 n, .slice b1 ws.length e1, .slice b2 cs.length e2, .slice b3 ss.length e3, .slice b4 ms.length e4] 32))) := (Below.alloc_ _ _).trans ((Below.alloc_ _ _).mono (by simp))
  have HC : Hid (CBlk ((w.alloc (.cells #[.int .i64 i, .int .i64 n, .slice a1 ws.length c1, .slice a2 cs.length c2, .slice a3 ss.length c3, .slice a4 ms.length c4] 32)).alloc (.cells #[.int .i64 i, .int .i64 n, .slice b1 ws.length e1, .slice b2 cs.length e2, .slice b3 ss.length e3, .slice b4 ms.length e4] 32)) w.heap.size i n (.slice a1 ws.length c1) (.slice a2 cs.length c2) (.slice a3 ss.length c3) (.slice a4 ms.length c4)) := (CBlk.new _ _ _ _ _ _ _).later (Below.alloc_ _ _)
  have HD : Hid (CBlk ((w.alloc (.cells #[.int .i64 i, .int .i64 n, .slice a1 ws.length c1, .slice a2 cs.length c2, .slice a3 ss.length c3, .slice a4 ms.length c4] 32)).alloc (.cells #[.int .i64 i, .int .i64 n, .slice b1 ws.length e1, .slice b2 cs.length e2, .slice b3 ss.length e3, .slice b4 ms.length e4] 32)) (w.heap.size + 1) i n (.slice b1 ws.length e1) (.slice b2 cs.length e2) (.slice b3 ss.length e3) (.slice b4 ms.length e4)) := by
    have e := CBlk.new (w.alloc (.cells #[.int .i64 i, .int .i64 n, .slice a1 ws.length c1, .slice a2 cs.length c2, .slice a3 ss.length c3, .slice a4 ms.length c4] 32)) i n (.slice b1 ws.length e1) (.slice b2 cs.length e2) (.slice b3 ss.length e3) (.slice b4 ms.length e4)
    rw [World.size_alloc] at e
    exact e
  have H1 : Hid (CRows w a1 a2 a3 a4 ws cs ss ms ∧ CRows w b1 b2 b3 b4 ws cs ss ms) := ⟨h1, h2⟩
  clear h1 h2
  go_enter Try.func9, Try.ntmps9
  go_wp2_with fail
  generalize ((w.alloc (.cells #[.int .i64 i, .int .i64 n, .slice a1 ws.length c1, .slice a2 cs.length c2, .slice a3 ss.length c3, .slice a4 ms.length c4] 32)).alloc (.cells #[.int .i64 i, .int .i64 n, .slice b1 ws.length e1, .slice b2 cs.length e2, .slice b3 ss.length e3, .slice b4 ms.length e4] 32)) = W at HB HC HD ⊢
  refine (eqWantS_same a1 b1 c1 e1 ws _ (H1.out.1.later HB.out).w1 (H1.out.2.later HB.out).w1 hx1).mono ?_
  rintro r w1 ⟨rfl, b9⟩
  have HB1 : Hid (Below w.heap.size w w1 ∧ CBlk w1 w.heap.size i n (.slice a1 ws.length c1) (.slice a2 cs.length c2) (.slice a3 ss.length c3) (.slice a4 ms.length c4) ∧ CBlk w1 (w.heap.size + 1) i n (.slice b1 ws.length e1) (.slice b2 cs.length e2) (.slice b3 ss.length e3) (.slice b4 ms.length e4)) := ⟨HB.out.trans (b9.mono HB.out.size), HC.out.later b9, HD.out.later b9⟩
  clear b9 HB HC HD
  obtain ⟨p0, p1, p2, p3, p4, p5⟩ := HB1.out.2.1.cells
  obtain ⟨q0, q1, q2, q3, q4, q5⟩ := HB1.out.2.2.cells
  go_wp2_with fail
  clear p0 p1 p2 p3 p4 p5 q0 q1 q2 q3 q4 q5
  refine (eqCredS_same a2 b2 c2 e2 cs _ (H1.out.1.later HB1.out.1).w2 (H1.out.2.later HB1.out.1).w2 hx2).mono ?_
  rintro r w2 ⟨rfl, b9⟩
  have HB2 : Hid (Below w.heap.size w w2 ∧ CBlk w2 w.heap.size i n (.slice a1 ws.length c1) (.slice a2 cs.length c2) (.slice a3 ss.length c3) (.slice a4 ms.length c4) ∧ CBlk w2 (w.heap.size + 1) i n (.slice b1 ws.length e1) (.slice b2 cs.length e2) (.slice b3 ss.length e3) (.slice b4 ms.length e4)) := ⟨HB1.out.1.trans (b9.mono HB1.out.1.size), HB1.out.2.1.later b9, HB1.out.2.2.later b9⟩
  clear b9 HB1
  obtain ⟨p0, p1, p2, p3, p4, p5⟩ := HB2.out.2.1.cells
  obtain ⟨q0, q1, q2, q3, q4, q5⟩ := HB2.out.2.2.cells
  go_wp2_with fail
  clear p0 p1 p2 p3 p4 p5 q0 q1 q2 q3 q4 q5
  refine (eqCallS_same a3 b3 c3 e3 ss _ (H1.out.1.later HB2.out.1).w3 (H1.out.2.later HB2.out.1).w3 hx3).mono ?_
  rintro r w3 ⟨rfl, b9⟩
  have HB3 : Hid (Below w.heap.size w w3 ∧ CBlk w3 w.heap.size i n (.slice a1 ws.length c1) (.slice a2 cs.length c2) (.slice a3 ss.length c3) (.slice a4 ms.length c4) ∧ CBlk w3 (w.heap.size + 1) i n (.slice b1 ws.length e1) (.slice b2 cs.length e2) (.slice b3 ss.length e3) (.slice b4 ms.length e4)) := ⟨HB2.out.1.trans (b9.mono HB2.out.1.size), HB2.out.2.1.later b9, HB2.out.2.2.later b9⟩
  clear b9 HB2
  obtain ⟨p0, p1, p2, p3, p4, p5⟩ := HB3.out.2.1.cells
  obtain ⟨q0, q1, q2, q3, q4, q5⟩ := HB3.out.2.2.cells
  go_wp2_with fail
  clear p0 p1 p2 p3 p4 p5 q0 q1 q2 q3 q4 q5
  refine (eqCallS_same a4 b4 c4 e4 ms _ (H1.out.1.later HB3.out.1).w4 (H1.out.2.later HB3.out.1).w4 hx4).mono ?_
  rintro r w4 ⟨rfl, b9⟩
  have HB4 : Hid (Below w.heap.size w w4) := HB3.out.1.trans (b9.mono HB3.out.1.size)
  clear b9 HB3
  go_wp2_with fail
  go_ret
  exact ⟨rfl, HB4.out⟩

theorem CBlk.set2 {w : World} {b : Nat} {i n : Int} {v1 v2 v3 v4 : Value} (h : CBlk w b i n v1 v2 v3 v4) (u : Value) : CBlk (w.setCell ⟨b, 2, none⟩ u) b i n u v2 v3 v4 := by
  unfold CBlk at h ⊢
  simp [World.setCell, Array.getElem?_modify, h]
theorem CBlk.set3 {w : World} {b : Nat} {i n : Int} {v1 v2 v3 v4 : Value} (h : CBlk w b i n v1 v2 v3 v4) (u : Value) : CBlk (w.setCell ⟨b, 3, none⟩ u) b i n v1 u v3 v4 := by
  unfold CBlk at h ⊢
  simp [World.setCell, Array.getElem?_modify, h]
theorem CBlk.set4 {w : World} {b : Nat} {i n : Int} {v1 v2 v3 v4 : Value} (h : CBlk w b i n v1 v2 v3 v4) (u : Value) : CBlk (w.setCell ⟨b, 4, none⟩ u) b i n v1 v2 u v4 := by
  unfold CBlk at h ⊢
  simp [World.setCell, Array.getElem?_modify, h]
theorem CBlk.set5 {w : World} {b : Nat} {i n : Int} {v1 v2 v3 v4 : Value} (h : CBlk w b i n v1 v2 v3 v4) (u : Value) : CBlk (w.setCell ⟨b, 5, none⟩ u) b i n v1 v2 v3 u := by
  unfold CBlk at h ⊢
  simp [World.setCell, Array.getElem?_modify, h]
theorem CBlk.else {w : World} {b p o : Nat} {i n : Int} {v1 v2 v3 v4 u : Value} (h : CBlk w b i n v1 v2 v3 v4) (hp : p ≠ b) : CBlk (w.setCell ⟨p, o, none⟩ u) b i n v1 v2 v3 v4 := by
  unfold CBlk at h ⊢
  rw [← h]
  simp [World.setCell, Array.getElem?_modify, hp]
theorem DBlk.else {w : World} {b p o : Nat} {i n : Int} {v1 v2 v3 v4 u : Value} (h : DBlk w b i n v1 v2 v3 v4) (hp : p ≠ b) : DBlk (w.setCell ⟨p, o, none⟩ u) b i n v1 v2 v3 v4 := by
  unfold DBlk at h ⊢
  rw [← h]
  simp [World.setCell, Array.getElem?_modify, hp]
theorem WB.else {w : World} {g n p o : Nat} {u : Value} (h : WB w g n) (hp : p ≠ g) : WB (w.setCell ⟨p, o, none⟩ u) g n := h.same (by simp [World.setCell, Array.getElem?_modify, hp])
theorem WB.later {w w' : World} {g n : Nat} (h : WB w g n) (hb : Below w.heap.size w w') : WB w' g n := h.same (hb.block _ h.lt)

set_option maxHeartbeats 4000000 in
set_option maxRecDepth 100000 in
theorem toClient_any (i n : Int) (a1 a2 a3 a4 : Option Addr) (c1 c2 c3 c4 : Nat) (ws : List Wn) (cs : List Cd) (ss ms : List Ca) (w : World) (h : CRows w a1 a2 a3 a4 ws cs ss ms) (hx1 : ws.length ≤ 1048576) (hx2 : cs.length ≤ 1048576) (hx3 : ss.length ≤ 1048576) (hx4 : ms.length ≤ 1048576) :
    Calls Try.prog 7 #[.agg #[.int .i64 i, .int .i64 n, .slice a1 ws.length c1, .slice a2 cs.length c2, .slice a3 ss.length c3, .slice a4 ms.length c4]] w fun r w' => ∃ g1 g2 g3 g4, r = .returned (.agg #[.int .i64 i, .int .i64 n, .slice (some ⟨g1, 0, none⟩) ws.length ws.length, .slice (some ⟨g2, 0, none⟩) cs.length cs.length, .slice (some ⟨g3, 0, none⟩) ss.length ss.length, .slice (some ⟨g4, 0, none⟩) ms.length ms.length]) ∧ (w.heap.size ≤ g1 ∧ g1 < g2 ∧ g2 < g3 ∧ g3 < g4) ∧ CRows w' (some ⟨g1, 0, none⟩) (some ⟨g2, 0, none⟩) (some ⟨g3, 0, none⟩) (some ⟨g4, 0, none⟩) ws cs ss ms ∧ (WB w' g1 (ws.length * 2) ∧ WB w' g2 (cs.length * 10) ∧ WB w' g3 (ss.length * 4) ∧ WB w' g4 (ms.length * 4)) ∧ Below w.heap.size w w' := by
  obtain ⟨W, hW⟩ : ∃ W, W = (((w.alloc (.cells #[.int .i64 i, .int .i64 n, .slice a1 ws.length c1, .slice a2 cs.length c2, .slice a3 ss.length c3, .slice a4 ms.length c4] 26)).alloc (.cells #[.int .i64 0, .int .i64 0, .slice none 0 0, .slice none 0 0, .slice none 0 0, .slice none 0 0] 32)).alloc (.cells #[.int .i64 i, .int .i64 n, .slice none 0 0, .slice none 0 0, .slice none 0 0, .slice none 0 0] 32)) := ⟨_, rfl⟩
  have hz : W.heap.size = w.heap.size + 3 := by subst hW; simp
  have B0 : Below w.heap.size w W := hW ▸ (((Below.refl _ _).alloc (Nat.le_refl _) _).alloc (by simp) _).alloc (by simp; omega) _
  have A0 : Hid (DBlk W w.heap.size i n (.slice a1 ws.length c1) (.slice a2 cs.length c2) (.slice a3 ss.length c3) (.slice a4 ms.length c4) ∧ CBlk W (w.heap.size + 1) 0 0 (.slice none 0 0) (.slice none 0 0) (.slice none 0 0) (.slice none 0 0) ∧ CBlk W (w.heap.size + 1 + 1) i n (.slice none 0 0) (.slice none 0 0) (.slice none 0 0) (.slice none 0 0) ∧ Below w.heap.size w W ∧ w.heap.size + 3 ≤ W.heap.size) := by
    subst hW
    refine ⟨?_, ?_, ?_, B0, by omega⟩
    · exact ((DBlk.new _ _ _ _ _ _ _).later (Below.alloc_ _ _)).later (Below.alloc_ _ _)
    · have e := CBlk.new (w.alloc (.cells #[.int .i64 i, .int .i64 n, .slice a1 ws.length c1, .slice a2 cs.length c2, .slice a3 ss.length c3, .slice a4 ms.length c4] 26)) 0 0 (.slice none 0 0) (.slice none 0 0) (.slice none 0 0) (.slice none 0 0)
      rw [World.size_alloc] at e
      exact e.later (Below.alloc_ _ _)
    · have e := CBlk.new ((w.alloc (.cells #[.int .i64 i, .int .i64 n, .slice a1 ws.length c1, .slice a2 cs.length c2, .slice a3 ss.length c3, .slice a4 ms.length c4] 26)).alloc (.cells #[.int .i64 0, .int .i64 0, .slice none 0 0, .slice none 0 0, .slice none 0 0, .slice none 0 0] 32)) i n (.slice none 0 0) (.slice none 0 0) (.slice none 0 0) (.slice none 0 0)
      rw [World.size_alloc, World.size_alloc] at e
      exact e
  have H1 : Hid (CRows w a1 a2 a3 a4 ws cs ss ms) := h
  clear h B0 hz
  go_enter Try.func7, Try.ntmps7
  go_wp2_with fail
  rw [← hW]
  clear hW
  refine (toWantS_wb a1 c1 ws _ (H1.out.later A0.out.2.2.2.1).w1 hx1).mono ?_
  rintro r u1 ⟨rfl, hr, ⟨cu, hc, hsz⟩, b9⟩
  obtain ⟨g1, hg1⟩ : ∃ g, g = W.heap.size := ⟨_, rfl⟩
  rw [← hg1] at hr hc ⊢
  have hl1 : w.heap.size + 3 ≤ g1 := by have := A0.out.2.2.2.2; omega
  have A1 : Hid (DBlk u1 w.heap.size i n (.slice a1 ws.length c1) (.slice a2 cs.length c2) (.slice a3 ss.length c3) (.slice a4 ms.length c4) ∧ CBlk u1 (w.heap.size + 1) 0 0 (.slice none 0 0) (.slice none 0 0) (.slice none 0 0) (.slice none 0 0) ∧ CBlk u1 (w.heap.size + 1 + 1) i n (.slice none 0 0) (.slice none 0 0) (.slice none 0 0) (.slice none 0 0) ∧ Below w.heap.size w u1 ∧ w.heap.size + 3 ≤ u1.heap.size ∧ (NRow celW u1 (some ⟨g1, 0, none⟩) ws ∧ WB u1 g1 (ws.length * 2))) := ⟨A0.out.1.later b9, A0.out.2.1.later b9, A0.out.2.2.1.later b9, A0.out.2.2.2.1.trans (b9.mono A0.out.2.2.2.1.size), Nat.le_trans A0.out.2.2.2.2 b9.size, ⟨hr, cu, _, hc, by omega⟩⟩
  clear hr hc hsz b9 A0 hg1
  obtain ⟨p0, p1, p2, p3, p4, p5⟩ := A1.out.1.cells
  obtain ⟨q0, q1, q2, q3, q4, q5⟩ := A1.out.2.2.1.cells
  have qf := A1.out.2.2.1.fro 2
  go_wp2_with fail
  clear p0 p1 p2 p3 p4 p5 q0 q1 q2 q3 q4 q5 qf
  have B1 : Hid (DBlk (u1.setCell ⟨w.heap.size + 1 + 1, 2, none⟩ (.slice (some ⟨g1, 0, none⟩) ws.length ws.length)) w.heap.size i n (.slice a1 ws.length c1) (.slice a2 cs.length c2) (.slice a3 ss.length c3) (.slice a4 ms.length c4) ∧ CBlk (u1.setCell ⟨w.heap.size + 1 + 1, 2, none⟩ (.slice (some ⟨g1, 0, none⟩) ws.length ws.length)) (w.heap.size + 1) 0 0 (.slice none 0 0) (.slice none 0 0) (.slice none 0 0) (.slice none 0 0) ∧ CBlk (u1.setCell ⟨w.heap.size + 1 + 1, 2, none⟩ (.slice (some ⟨g1, 0, none⟩) ws.length ws.length)) (w.heap.size + 1 + 1) i n (.slice (some ⟨g1, 0, none⟩) ws.length ws.length) (.slice none 0 0) (.slice none 0 0) (.slice none 0 0) ∧ Below w.heap.size w (u1.setCell ⟨w.heap.size + 1 + 1, 2, none⟩ (.slice (some ⟨g1, 0, none⟩) ws.length ws.length)) ∧ w.heap.size + 3 ≤ (u1.setCell ⟨w.heap.size + 1 + 1, 2, none⟩ (.slice (some ⟨g1, 0, none⟩) ws.length ws.length)).heap.size ∧ (NRow celW (u1.setCell ⟨w.heap.size + 1 + 1, 2, none⟩ (.slice (some ⟨g1, 0, none⟩) ws.length ws.length)) (some ⟨g1, 0, none⟩) ws ∧ WB (u1.setCell ⟨w.heap.size + 1 + 1, 2, none⟩ (.slice (some ⟨g1, 0, none⟩) ws.length ws.length)) g1 (ws.length * 2))) := by
    have h9 := A1.out
    exact ⟨h9.1.else (by omega), h9.2.1.else (by omega), h9.2.2.1.set2 _, h9.2.2.2.1.setCell (p := ⟨w.heap.size + 1 + 1, 2, none⟩) (by show w.heap.size ≤ w.heap.size + 1 + 1; omega) _, by simpa using h9.2.2.2.2.1, ⟨h9.2.2.2.2.2.1.set (by omega), h9.2.2.2.2.2.2.else (by omega)⟩⟩
  clear A1
  generalize (u1.setCell ⟨w.heap.size + 1 + 1, 2, none⟩ (.slice (some ⟨g1, 0, none⟩) ws.length ws.length)) = W1 at B1 ⊢
  refine (toCredS_wb a2 c2 cs _ (H1.out.later B1.out.2.2.2.1).w2 hx2).mono ?_
  rintro r u2 ⟨rfl, hr, ⟨cu, hc, hsz⟩, b9⟩
  obtain ⟨g2, hg2⟩ : ∃ g, g = W1.heap.size := ⟨_, rfl⟩
  rw [← hg2] at hr hc ⊢
  have hl2 : w.heap.size + 3 ≤ g2 ∧ g1 < g2 := by have := B1.out.2.2.2.2.1; have h8 := (B1.out.2.2.2.2.2).2.lt; omega
  have A2 : Hid (DBlk u2 w.heap.size i n (.slice a1 ws.length c1) (.slice a2 cs.length c2) (.slice a3 ss.length c3) (.slice a4 ms.length c4) ∧ CBlk u2 (w.heap.size + 1) 0 0 (.slice none 0 0) (.slice none 0 0) (.slice none 0 0) (.slice none 0 0) ∧ CBlk u2 (w.heap.size + 1 + 1) i n (.slice (some ⟨g1, 0, none⟩) ws.length ws.length) (.slice none 0 0) (.slice none 0 0) (.slice none 0 0) ∧ Below w.heap.size w u2 ∧ w.heap.size + 3 ≤ u2.heap.size ∧ (NRow celW u2 (some ⟨g1, 0, none⟩) ws ∧ WB u2 g1 (ws.length * 2)) ∧ (NRow celD u2 (some ⟨g2, 0, none⟩) cs ∧ WB u2 g2 (cs.length * 10))) := ⟨B1.out.1.later b9, B1.out.2.1.later b9, B1.out.2.2.1.later b9, B1.out.2.2.2.1.trans (b9.mono B1.out.2.2.2.1.size), Nat.le_trans B1.out.2.2.2.2.1 b9.size, ⟨B1.out.2.2.2.2.2.1.later b9, B1.out.2.2.2.2.2.2.later b9⟩, ⟨hr, cu, _, hc, by omega⟩⟩
  clear hr hc hsz b9 B1 hg2
  obtain ⟨p0, p1, p2, p3, p4, p5⟩ := A2.out.1.cells
  obtain ⟨q0, q1, q2, q3, q4, q5⟩ := A2.out.2.2.1.cells
  have qf := A2.out.2.2.1.fro 3
  go_wp2_with fail
  clear p0 p1 p2 p3 p4 p5 q0 q1 q2 q3 q4 q5 qf
  have B2 : Hid (DBlk (u2.setCell ⟨w.heap.size + 1 + 1, 3, none⟩ (.slice (some ⟨g2, 0, none⟩) cs.length cs.length)) w.heap.size i n (.slice a1 ws.length c1) (.slice a2 cs.length c2) (.slice a3 ss.length c3) (.slice a4 ms.length c4) ∧ CBlk (u2.setCell ⟨w.heap.size + 1 + 1, 3, none⟩ (.slice (some ⟨g2, 0, none⟩) cs.length cs.length)) (w.heap.size + 1) 0 0 (.slice none 0 0) (.slice none 0 0) (.slice none 0 0) (.slice none 0 0) ∧ CBlk (u2.setCell ⟨w.heap.size + 1 + 1, 3, none⟩ (.slice (some ⟨g2, 0, none⟩) cs.length cs.length)) (w.heap.size + 1 + 1) i n (.slice (some ⟨g1, 0, none⟩) ws.length ws.length) (.slice (some ⟨g2, 0, none⟩) cs.length cs.length) (.slice none 0 0) (.slice none 0 0) ∧ Below w.heap.size w (u2.setCell ⟨w.heap.size + 1 + 1, 3, none⟩ (.slice (some ⟨g2, 0, none⟩) cs.length cs.length)) ∧ w.heap.size + 3 ≤ (u2.setCell ⟨w.heap.size + 1 + 1, 3, none⟩ (.slice (some ⟨g2, 0, none⟩) cs.length cs.length)).heap.size ∧ (NRow celW (u2.setCell ⟨w.heap.size + 1 + 1, 3, none⟩ (.slice (some ⟨g2, 0, none⟩) cs.length cs.length)) (some ⟨g1, 0, none⟩) ws ∧ WB (u2.setCell ⟨w.heap.size + 1 + 1, 3, none⟩ (.slice (some ⟨g2, 0, none⟩) cs.length cs.length)) g1 (ws.length * 2)) ∧ (NRow celD (u2.setCell ⟨w.heap.size + 1 + 1, 3, none⟩ (.slice (some ⟨g2, 0, none⟩) cs.length cs.length)) (some ⟨g2, 0, none⟩) cs ∧ WB (u2.setCell ⟨w.heap.size + 1 + 1, 3, none⟩ (.slice (some ⟨g2, 0, none⟩) cs.length cs.length)) g2 (cs.length * 10))) := by
    have h9 := A2.out
    exact ⟨h9.1.else (by omega), h9.2.1.else (by omega), h9.2.2.1.set3 _, h9.2.2.2.1.setCell (p := ⟨w.heap.size + 1 + 1, 3, none⟩) (by show w.heap.size ≤ w.heap.size + 1 + 1; omega) _, by simpa using h9.2.2.2.2.1, ⟨h9.2.2.2.2.2.1.1.set (by omega), h9.2.2.2.2.2.1.2.else (by omega)⟩, ⟨h9.2.2.2.2.2.2.1.set (by omega), h9.2.2.2.2.2.2.2.else (by omega)⟩⟩
  clear A2
  generalize (u2.setCell ⟨w.heap.size + 1 + 1, 3, none⟩ (.slice (some ⟨g2, 0, none⟩) cs.length cs.length)) = W2 at B2 ⊢
  refine (toCallS_wb a3 c3 ss _ (H1.out.later B2.out.2.2.2.1).w3 hx3).mono ?_
  rintro r u3 ⟨rfl, hr, ⟨cu, hc, hsz⟩, b9⟩
  obtain ⟨g3, hg3⟩ : ∃ g, g = W2.heap.size := ⟨_, rfl⟩
  rw [← hg3] at hr hc ⊢
  have hl3 : w.heap.size + 3 ≤ g3 ∧ g2 < g3 := by have := B2.out.2.2.2.2.1; have h8 := (B2.out.2.2.2.2.2.2).2.lt; omega
  have A3 : Hid (DBlk u3 w.heap.size i n (.slice a1 ws.length c1) (.slice a2 cs.length c2) (.slice a3 ss.length c3) (.slice a4 ms.length c4) ∧ CBlk u3 (w.heap.size + 1) 0 0 (.slice none 0 0) (.slice none 0 0) (.slice none 0 0) (.slice none 0 0) ∧ CBlk u3 (w.heap.size + 1 + 1) i n (.slice (some ⟨g1, 0, none⟩) ws.length ws.length) (.slice (some ⟨g2, 0, none⟩) cs.length cs.length) (.slice none 0 0) (.slice none 0 0) ∧ Below w.heap.size w u3 ∧ w.heap.size + 3 ≤ u3.heap.size ∧ (NRow celW u3 (some ⟨g1, 0, none⟩) ws ∧ WB u3 g1 (ws.length * 2)) ∧ (NRow celD u3 (some ⟨g2, 0, none⟩) cs ∧ WB u3 g2 (cs.length * 10)) ∧ (NRow celC u3 (some ⟨g3, 0, none⟩) ss ∧ WB u3 g3 (ss.length * 4))) := ⟨B2.out.1.later b9, B2.out.2.1.later b9, B2.out.2.2.1.later b9, B2.out.2.2.2.1.trans (b9.mono B2.out.2.2.2.1.size), Nat.le_trans B2.out.2.2.2.2.1 b9.size, ⟨B2.out.2.2.2.2.2.1.1.later b9, B2.out.2.2.2.2.2.1.2.later b9⟩, ⟨B2.out.2.2.2.2.2.2.1.later b9, B2.out.2.2.2.2.2.2.2.later b9⟩, ⟨hr, cu, _, hc, by omega⟩⟩
  clear hr hc hsz b9 B2 hg3
  obtain ⟨p0, p1, p2, p3, p4, p5⟩ := A3.out.1.cells
  obtain ⟨q0, q1, q2, q3, q4, q5⟩ := A3.out.2.2.1.cells
  have qf := A3.out.2.2.1.fro 4
  go_wp2_with fail
  clear p0 p1 p2 p3 p4 p5 q0 q1 q2 q3 q4 q5 qf
  have B3 : Hid (DBlk (u3.setCell ⟨w.heap.size + 1 + 1, 4, none⟩ (.slice (some ⟨g3, 0, none⟩) ss.length ss.length)) w.heap.size i n (.slice a1 ws.length c1) (.slice a2 cs.length c2) (.slice a3 ss.length c3) (.slice a4 ms.length c4) ∧ CBlk (u3.setCell ⟨w.heap.size + 1 + 1, 4, none⟩ (.slice (some ⟨g3, 0, none⟩) ss.length ss.length)) (w.heap.size + 1) 0 0 (.slice none 0 0) (.slice none 0 0) (.slice none 0 0) (.slice none 0 0) ∧ CBlk (u3.setCell ⟨w.heap.size + 1 + 1, 4, none⟩ (.slice (some ⟨g3, 0, none⟩) ss.length ss.length)) (w.heap.size + 1 + 1) i n (.slice (some ⟨g1, 0, none⟩) ws.length ws.length) (.slice (some ⟨g2, 0, none⟩) cs.length cs.length) (.slice (some ⟨g3, 0, none⟩) ss.length ss.length) (.slice none 0 0) ∧ Below w.heap.size w (u3.setCell ⟨w.heap.size + 1 + 1, 4, none⟩ (.slice (some ⟨g3, 0, none⟩) ss.length ss.length)) ∧ w.heap.size + 3 ≤ (u3.setCell ⟨w.heap.size + 1 + 1, 4, none⟩ (.slice (some ⟨g3, 0, none⟩) ss.length ss.length)).heap.size ∧ (NRow celW (u3.setCell ⟨w.heap.size + 1 + 1, 4, none⟩ (.slice (some ⟨g3, 0, none⟩) ss.length ss.length)) (some ⟨g1, 0, none⟩) ws ∧ WB (u3.setCell ⟨w.heap.size + 1 + 1, 4, none⟩ (.slice (some ⟨g3, 0, none⟩) ss.length ss.length)) g1 (ws.length * 2)) ∧ (NRow celD (u3.setCell ⟨w.heap.size + 1 + 1, 4, none⟩ (.slice (some ⟨g3, 0, none⟩) ss.length ss.length)) (some ⟨g2, 0, none⟩) cs ∧ WB (u3.setCell ⟨w.heap.size + 1 + 1, 4, none⟩ (.slice (some ⟨g3, 0, none⟩) ss.length ss.length)) g2 (cs.length * 10)) ∧ (NRow celC (u3.setCell ⟨w.heap.size + 1 + 1, 4, none⟩ (.slice (some ⟨g3, 0, none⟩) ss.length ss.length)) (some ⟨g3, 0, none⟩) ss ∧ WB (u3.setCell ⟨w.heap.size + 1 + 1, 4, none⟩ (.slice (some ⟨g3, 0, none⟩) ss.length ss.length)) g3 (ss.length * 4))) := by
    have h9 := A3.out
    exact ⟨h9.1.else (by omega), h9.2.1.else (by omega), h9.2.2.1.set4 _, h9.2.2.2.1.setCell (p := ⟨w.heap.size + 1 + 1, 4, none⟩) (by show w.heap.size ≤ w.heap.size + 1 + 1; omega) _, by simpa using h9.2.2.2.2.1, ⟨h9.2.2.2.2.2.1.1.set (by omega), h9.2.2.2.2.2.1.2.else (by omega)⟩, ⟨h9.2.2.2.2.2.2.1.1.set (by omega), h9.2.2.2.2.2.2.1.2.else (by omega)⟩, ⟨h9.2.2.2.2.2.2.2.1.set (by omega), h9.2.2.2.2.2.2.2.2.else (by omega)⟩⟩
  clear A3
  generalize (u3.setCell ⟨w.heap.size + 1 + 1, 4, none⟩ (.slice (some ⟨g3, 0, none⟩) ss.length ss.length)) = W3 at B3 ⊢
  refine (toCallS_wb a4 c4 ms _ (H1.out.later B3.out.2.2.2.1).w4 hx4).mono ?_
  rintro r u4 ⟨rfl, hr, ⟨cu, hc, hsz⟩, b9⟩
  obtain ⟨g4, hg4⟩ : ∃ g, g = W3.heap.size := ⟨_, rfl⟩
  rw [← hg4] at hr hc ⊢
  have hl4 : w.heap.size + 3 ≤ g4 ∧ g3 < g4 := by have := B3.out.2.2.2.2.1; have h8 := (B3.out.2.2.2.2.2.2.2).2.lt; omega
  have A4 : Hid (DBlk u4 w.heap.size i n (.slice a1 ws.length c1) (.slice a2 cs.length c2) (.slice a3 ss.length c3) (.slice a4 ms.length c4) ∧ CBlk u4 (w.heap.size + 1) 0 0 (.slice none 0 0) (.slice none 0 0) (.slice none 0 0) (.slice none 0 0) ∧ CBlk u4 (w.heap.size + 1 + 1) i n (.slice (some ⟨g1, 0, none⟩) ws.length ws.length) (.slice (some ⟨g2, 0, none⟩) cs.length cs.length) (.slice (some ⟨g3, 0, none⟩) ss.length ss.length) (.slice none 0 0) ∧ Below w.heap.size w u4 ∧ w.heap.size + 3 ≤ u4.heap.size ∧ (NRow celW u4 (some ⟨g1, 0, none⟩) ws ∧ WB u4 g1 (ws.length * 2)) ∧ (NRow celD u4 (some ⟨g2, 0, none⟩) cs ∧ WB u4 g2 (cs.length * 10)) ∧ (NRow celC u4 (some ⟨g3, 0, none⟩) ss ∧ WB u4 g3 (ss.length * 4)) ∧ (NRow celC u4 (some ⟨g4, 0, none⟩) ms ∧ WB u4 g4 (ms.length * 4))) := ⟨B3.out.1.later b9, B3.out.2.1.later b9, B3.out.2.2.1.later b9, B3.out.2.2.2.1.trans (b9.mono B3.out.2.2.2.1.size), Nat.le_trans B3.out.2.2.2.2.1 b9.size, ⟨B3.out.2.2.2.2.2.1.1.later b9, B3.out.2.2.2.2.2.1.2.later b9⟩, ⟨B3.out.2.2.2.2.2.2.1.1.later b9, B3.out.2.2.2.2.2.2.1.2.later b9⟩, ⟨B3.out.2.2.2.2.2.2.2.1.later b9, B3.out.2.2.2.2.2.2.2.2.later b9⟩, ⟨hr, cu, _, hc, by omega⟩⟩
  clear hr hc hsz b9 B3 hg4
  obtain ⟨q0, q1, q2, q3, q4, q5⟩ := A4.out.2.2.1.cells
  obtain ⟨p0, p1, p2, p3, p4, p5⟩ := A4.out.2.1.cells
  have pf0 := A4.out.2.1.fro 0
  have pf1 := A4.out.2.1.fro 1
  have pf2 := A4.out.2.1.fro 2
  have pf3 := A4.out.2.1.fro 3
  have pf4 := A4.out.2.1.fro 4
  have pf5 := A4.out.2.1.fro 5
  have qf := A4.out.2.2.1.fro 5
  have hlt1 := A4.out.2.1.lt
  have hlt2 := A4.out.2.2.1.lt
  go_wp2_with fail
  refine bodyPost_ret (v := .agg #[.int .i64 i, .int .i64 n, .slice (some ⟨g1, 0, none⟩) ws.length ws.length, .slice (some ⟨g2, 0, none⟩) cs.length cs.length, .slice (some ⟨g3, 0, none⟩) ss.length ss.length, .slice (some ⟨g4, 0, none⟩) ms.length ms.length]) (by simp [results, Try.results7, go_sem, *]) rfl ⟨g1, g2, g3, g4, rfl, ⟨by omega, by omega, by omega, by omega⟩, ?_, ?_, ?_⟩
  all_goals clear q0 q1 q2 q3 q4 q5 p0 p1 p2 p3 p4 p5 pf0 pf1 pf2 pf3 pf4 pf5 qf hlt1 hlt2
  · exact ⟨(((((((A4.out.2.2.2.2.2.1.1.set (by omega)).set (by omega)).set (by omega)).set (by omega)).set (by omega)).set (by omega)).set (by omega)), (((((((A4.out.2.2.2.2.2.2.1.1.set (by omega)).set (by omega)).set (by omega)).set (by omega)).set (by omega)).set (by omega)).set (by omega)), (((((((A4.out.2.2.2.2.2.2.2.1.1.set (by omega)).set (by omega)).set (by omega)).set (by omega)).set (by omega)).set (by omega)).set (by omega)), (((((((A4.out.2.2.2.2.2.2.2.2.1.set (by omega)).set (by omega)).set (by omega)).set (by omega)).set (by omega)).set (by omega)).set (by omega))⟩
  · exact ⟨(((((((A4.out.2.2.2.2.2.1.2.else (by omega)).else (by omega)).else (by omega)).else (by omega)).else (by omega)).else (by omega)).else (by omega)), (((((((A4.out.2.2.2.2.2.2.1.2.else (by omega)).else (by omega)).else (by omega)).else (by omega)).else (by omega)).else (by omega)).else (by omega)), (((((((A4.out.2.2.2.2.2.2.2.1.2.else (by omega)).else (by omega)).else (by omega)).else (by omega)).else (by omega)).else (by omega)).else (by omega)), (((((((A4.out.2.2.2.2.2.2.2.2.2.else (by omega)).else (by omega)).else (by omega)).else (by omega)).else (by omega)).else (by omega)).else (by omega))⟩
  · exact (((((((A4.out.2.2.2.1.setCell (p := ⟨w.heap.size + 1 + 1, 5, none⟩) (by show w.heap.size ≤ w.heap.size + 1 + 1; omega) _).setCell (p := ⟨w.heap.size + 1, 0, none⟩) (by show w.heap.size ≤ w.heap.size + 1; omega) _).setCell (p := ⟨w.heap.size + 1, 1, none⟩) (by show w.heap.size ≤ w.heap.size + 1; omega) _).setCell (p := ⟨w.heap.size + 1, 2, none⟩) (by show w.heap.size ≤ w.heap.size + 1; omega) _).setCell (p := ⟨w.heap.size + 1, 3, none⟩) (by show w.heap.size ≤ w.heap.size + 1; omega) _).setCell (p := ⟨w.heap.size + 1, 4, none⟩) (by show w.heap.size ≤ w.heap.size + 1; omega) _).setCell (p := ⟨w.heap.size + 1, 5, none⟩) (by show w.heap.size ≤ w.heap.size + 1; omega) _)

theorem restI_neg {q : Int} {len : Nat} (h : restI q len < 0) : restI q len = -1 := by
  unfold restI at h ⊢
  split at h
  · rw [if_pos (by assumption)]
  · omega
/-- What is left behind the four lists of a user. -/
def restC (q : Int) (l1 l2 l3 l4 : Nat) : Int := if q - l1 < 0 then -1 else if q - l1 - l2 < 0 then -1 else if q - l1 - l2 - l3 < 0 then -1 else if q - l1 - l2 - l3 - l4 < 0 then -1 else q - l1 - l2 - l3 - l4
set_option maxHeartbeats 1000000 in
theorem szClient_any (i n : Int) (a1 a2 a3 a4 : Option Addr) (l1 l2 l3 l4 c1 c2 c3 c4 : Nat) (q : Int) (w : World) (hq : 0 ≤ q) (hq2 : q ≤ 1048576) (hm1 : l1 ≤ 9223372036854775807) (hm2 : l2 ≤ 9223372036854775807) (hm3 : l3 ≤ 9223372036854775807) (hm4 : l4 ≤ 9223372036854775807) :
    Calls Try.prog 5 #[.agg #[.int .i64 i, .int .i64 n, .slice a1 l1 c1, .slice a2 l2 c2, .slice a3 l3 c3, .slice a4 l4 c4], .int .i64 q] w fun r w' => r = .returned (.int .i64 (restC q l1 l2 l3 l4)) ∧ Below w.heap.size w w' := by
  go_enter Try.func5, Try.ntmps5
  go_wp2_with fail
  refine (szWantS_any a1 l1 c1 _ _ (by omega) (by omega) hm1).mono ?_
  rintro r w2 ⟨rfl, rfl⟩
  by_cases h1 : q - (l1 : Int) < 0
  · rw [show restI (q) l1 = -1 from if_pos h1]
    have e : Hid (restC q l1 l2 l3 l4 = -1) := Hid.mk' (by unfold restC; (repeat' split) <;> omega)
    go_wp2_with fail
    go_ret
    exact ⟨ret_int e.out.symm, Below.alloc_ _ _⟩
  · rw [show restI (q) l1 = q - (l1 : Int) from if_neg h1]
    go_wp2_with fail
    refine (szCredS_any a2 l2 c2 _ _ (by omega) (by omega) hm2).mono ?_
    rintro r w3 ⟨rfl, rfl⟩
    by_cases h2 : q - (l1 : Int) - (l2 : Int) < 0
    · rw [show restI (q - (l1 : Int)) l2 = -1 from if_pos h2]
      have e : Hid (restC q l1 l2 l3 l4 = -1) := Hid.mk' (by unfold restC; (repeat' split) <;> omega)
      go_wp2_with fail
      go_ret
      exact ⟨ret_int e.out.symm, Below.alloc_ _ _⟩
    · rw [show restI (q - (l1 : Int)) l2 = q - (l1 : Int) - (l2 : Int) from if_neg h2]
      go_wp2_with fail
      refine (szCallS_any a3 l3 c3 _ _ (by omega) (by omega) hm3).mono ?_
      rintro r w4 ⟨rfl, rfl⟩
      by_cases h3 : q - (l1 : Int) - (l2 : Int) - (l3 : Int) < 0
      · rw [show restI (q - (l1 : Int) - (l2 : Int)) l3 = -1 from if_pos h3]
        have e : Hid (restC q l1 l2 l3 l4 = -1) := Hid.mk' (by unfold restC; (repeat' split) <;> omega)
        go_wp2_with fail
        go_ret
        exact ⟨ret_int e.out.symm, Below.alloc_ _ _⟩
      · rw [show restI (q - (l1 : Int) - (l2 : Int)) l3 = q - (l1 : Int) - (l2 : Int) - (l3 : Int) from if_neg h3]
        go_wp2_with fail
        refine (szCallS_any a4 l4 c4 _ _ (by omega) (by omega) hm4).mono ?_
        rintro r w5 ⟨rfl, rfl⟩
        by_cases h4 : q - (l1 : Int) - (l2 : Int) - (l3 : Int) - (l4 : Int) < 0
        · rw [show restI (q - (l1 : Int) - (l2 : Int) - (l3 : Int)) l4 = -1 from if_pos h4]
          have e : Hid (restC q l1 l2 l3 l4 = -1) := Hid.mk' (by unfold restC; (repeat' split) <;> omega)
          go_wp2_with fail
          go_ret
          exact ⟨ret_int e.out.symm, Below.alloc_ _ _⟩
        · rw [show restI (q - (l1 : Int) - (l2 : Int) - (l3 : Int)) l4 = q - (l1 : Int) - (l2 : Int) - (l3 : Int) - (l4 : Int) from if_neg h4]
          have e : Hid (restC q l1 l2 l3 l4 = q - (l1 : Int) - (l2 : Int) - (l3 : Int) - (l4 : Int)) := Hid.mk' (by unfold restC; (repeat' split) <;> omega)
          go_wp2_with fail
          go_ret
          exact ⟨ret_int e.out.symm, Below.alloc_ _ _⟩

end Go.Proofs.Ythkngdbhddedpaa
