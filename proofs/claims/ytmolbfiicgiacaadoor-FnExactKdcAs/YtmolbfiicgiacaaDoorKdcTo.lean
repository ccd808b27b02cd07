/-
  The laws' own ways with one who gives tickets: a copy, whether two are the same, how long, marks.
-/
import Derived.Test.YtmolbfiicgiacaaDoorKdcMath
import Derived.Test.YtmolbfiicgiacaaDoorSealMarks
import Derived.Test.YtmolbfiicgiacaaDoorKEq
import Derived.Test.YtmolbfiicgiacaaDoorKSzS
namespace Go.Proofs.YtmolbfiicgiacaaDoor
open Go.RowKit

set_option maxHeartbeats 1000000 in
set_option maxRecDepth 100000 in
theorem toKdc_any (n : Int) (a : Option Addr) (cap : Nat) (xs : List Sl) (w : World) (h : SRow w a xs) (hx : xs.length ≤ 2000000) :
    Calls Tryd.prog 8 #[.agg #[.int .i64 n, .slice a xs.length cap]] w fun r w' => ∃ g, r = .returned (.agg #[.int .i64 n, .slice (some ⟨g, 0, none⟩) xs.length xs.length]) ∧ w.heap.size ≤ g ∧ SRow w' (some ⟨g, 0, none⟩) xs ∧ WB w' g (xs.length * 7) ∧ Below w.heap.size w w' := by
  obtain ⟨W, hW⟩ : ∃ W, W = (((w.alloc (.cells #[.int .i64 n, .slice a xs.length cap] 24)).alloc (.cells #[.int .i64 0, .slice none 0 0] 31)).alloc (.cells #[.int .i64 n, .slice none 0 0] 31)) := ⟨_, rfl⟩
  have hz : W.heap.size = w.heap.size + 3 := by subst hW; simp
  have B0 : Below w.heap.size w W := hW ▸ (((Below.refl _ _).alloc (Nat.le_refl _) _).alloc (by simp) _).alloc (by simp; omega) _
  have k0 : W.cell? ⟨w.heap.size + 1 + 1, 0, none⟩ = some (.int .i64 n) := by subst hW; go_simp
  have k1 : W.cell? ⟨w.heap.size + 1 + 1, 1, none⟩ = some (.slice none 0 0) := by subst hW; go_simp
  have r0 : W.cell? ⟨w.heap.size + 1, 0, none⟩ = some (.int .i64 0) := by subst hW; go_simp
  have r1 : W.cell? ⟨w.heap.size + 1, 1, none⟩ = some (.slice none 0 0) := by subst hW; go_simp
  have fk : W.frozen? ⟨w.heap.size + 1 + 1, 1, none⟩ = false := by subst hW; go_simp
  have fr0 : W.frozen? ⟨w.heap.size + 1, 0, none⟩ = false := by subst hW; go_simp
  have fr1 : W.frozen? ⟨w.heap.size + 1, 1, none⟩ = false := by subst hW; go_simp
  go_enter Tryd.func8, Tryd.ntmps8
  go_wp2_with fail
  rw [← hW]
  clear hW
  refine (toSealS_wb a cap xs _ (h.later B0) hx).mono ?_
  rintro r w2 ⟨rfl, hr2, ⟨cu2, hc2, hs2⟩, hb2⟩
  have hz2 := hb2.size
  obtain ⟨hc, hf⟩ := bcell hb2
  rw [← hc _ _ (by omega)] at k0 r0
  rw [← hc _ _ (by omega)] at k1 r1
  rw [← hf _ _ (by omega)] at fr0
  rw [← hf _ _ (by omega)] at fr1
  rw [← hf _ _ (by omega)] at fk
  have hl1 : w.heap.size + 1 < w2.heap.size := by omega
  have hl2 : w.heap.size + 1 + 1 < w2.heap.size := by omega
  have HR : Hid (SRow w2 (some ⟨w.heap.size + 3, 0, none⟩) xs ∧ Below w.heap.size w w2 ∧ WB w2 (w.heap.size + 3) (xs.length * 7)) := by
    rw [hz] at hr2 hc2
    exact ⟨hr2, B0.trans (hb2.mono (by omega)), cu2, _, hc2, by omega⟩
  clear hr2 hb2 B0 hc hf h hc2 hs2
  go_wp2_with fail
  refine bodyPost_ret (v := .agg #[.int .i64 n, .slice (some ⟨w.heap.size + 3, 0, none⟩) xs.length xs.length]) (by simp [results, Tryd.results8, go_sem, *]) rfl ⟨_, rfl, by omega, ?_, ?_, ?_⟩
  · exact (((HR.out.1.set (by omega)).set (by omega)).set (by omega))
  · refine HR.out.2.2.same ?_
    simp [World.setCell, Array.getElem?_modify]
  · have h1 := HR.out.2.1
    exact (((h1.setCell (p := ⟨_, _, none⟩) (by simp; omega) _).setCell (p := ⟨_, _, none⟩) (by simp) _).setCell (p := ⟨_, _, none⟩) (by simp) _)
set_option maxHeartbeats 1000000 in
set_option maxRecDepth 100000 in
theorem eqKdc_same (n : Int) (a1 a2 : Option Addr) (c1 c2 : Nat) (xs : List Sl) (w : World) (h1 : SRow w a1 xs) (h2 : SRow w a2 xs) (hx : xs.length ≤ 2000000) :
    Calls Tryd.prog 11 #[.agg #[.int .i64 n, .slice a1 xs.length c1], .agg #[.int .i64 n, .slice a2 xs.length c2]] w fun r w' => r = .returned (.bool true) ∧ Below w.heap.size w w' := by
  go_enter Tryd.func11, Tryd.ntmps11
  have hb : Below w.heap.size w ((w.alloc (.cells #[.int .i64 n, .slice a1 xs.length c1] 31)).alloc (.cells #[.int .i64 n, .slice a2 xs.length c2] 31)) := (Below.alloc_ _ _).trans ((Below.alloc_ _ _).mono (by simp))
  have HB : Hid (Below w.heap.size w ((w.alloc (.cells #[.int .i64 n, .slice a1 xs.length c1] 31)).alloc (.cells #[.int .i64 n, .slice a2 xs.length c2] 31))) := hb
  clear hb
  go_wp2_with fail
  refine (eqSealS_same a1 a2 c1 c2 xs _ (h1.later HB.out) (h2.later HB.out) hx).mono ?_
  rintro r w2 ⟨rfl, b2⟩
  go_wp2_with fail
  go_ret
  exact ⟨rfl, HB.out.trans (b2.mono HB.out.size)⟩
set_option maxHeartbeats 1000000 in
theorem szKdc_any (n : Int) (a : Option Addr) (len cap : Nat) (q : Int) (w : World) (hq : 0 ≤ q) (hq2 : q ≤ 1048576) (hm : len ≤ 9223372036854775807) :
    Calls Tryd.prog 5 #[.agg #[.int .i64 n, .slice a len cap], .int .i64 q] w fun r w' => r = .returned (.int .i64 (leftI q len)) ∧ Below w.heap.size w w' := by
  go_enter Tryd.func5, Tryd.ntmps5
  go_wp2_with fail
  refine (szSealS_any a len cap q _ hq hq2 hm).mono ?_
  rintro r w2 ⟨rfl, rfl⟩
  by_cases hn : leftI q len < 0
  · have hl : leftI q len = -1 := by
      unfold leftI at hn ⊢
      split at hn
      · rw [if_pos (by assumption)]
      · omega
    have HL : Hid (leftI q len = -1) := hl
    go_wp2_with fail
    go_ret
    exact ⟨ret_int HL.out.symm, Below.alloc_ _ _⟩
  · go_wp2_with fail
    go_ret
    exact ⟨rfl, Below.alloc_ _ _⟩

set_option maxHeartbeats 1000000 in
/-- Marks in a row of the call's own. -/
theorem markKdc_own (n : Int) {w : World} {base : Nat} {v : Value} {zs : List Sl} (k0 : Int) (h : OwnS w base v zs) (hB : base ≤ w.heap.size) (hn : zs.length ≤ 2000000) (h0 : 0 ≤ k0) (h1 : k0 ≤ 100000000) :
    Calls Tryd.prog 13 #[.agg #[.int .i64 n, v], .int .i64 k0] w fun r w' => r = .returned (.int .i64 (k0 + 7 * zs.length)) ∧ Below base w w' ∧ Mk7 w' v zs.length k0 := by
  obtain ⟨a, cap, rfl, _⟩ := h.row
  have HO : Hid (OwnS w base (.slice a zs.length cap) zs) := h
  clear h
  go_enter Tryd.func13, Tryd.ntmps13
  go_wp2_with fail
  refine (markSeal_own k0 (OwnS.later HO.out (Below.alloc_ _ _)) hn h0 h1).mono ?_
  rintro r w2 ⟨rfl, b2, m2⟩
  go_wp2_with fail
  go_ret
  exact ⟨rfl, ((Below.alloc_ _ _).mono hB).trans b2, m2⟩
set_option maxHeartbeats 1000000 in
/-- Marks in a row that may be written. -/
theorem markKdc_row (n : Int) (g len cap : Nat) (k0 : Int) (w : World) (h : WB w g (len * 7)) (hn : len ≤ 2000000) (h0 : 0 ≤ k0) (h1 : k0 ≤ 100000000) :
    Calls Tryd.prog 13 #[.agg #[.int .i64 n, .slice (some ⟨g, 0, none⟩) len cap], .int .i64 k0] w fun r w' => r = .returned (.int .i64 (k0 + 7 * len)) ∧ w.grownBy w' (some g) := by
  have hg := h.lt
  have HW : Hid (WB (w.alloc (.cells #[.int .i64 n, .slice (some ⟨g, 0, none⟩) len cap] 31)) g (len * 7)) := h.same (Below.heap_alloc _ _ _ hg)
  clear h
  go_enter Tryd.func13, Tryd.ntmps13
  go_wp2_with fail
  refine (markSealS_any g len cap k0 _ HW.out hn h0 h1).mono ?_
  rintro r w2 ⟨rfl, t2, _, _⟩
  go_wp2_with fail
  go_ret
  exact ⟨rfl, (World.grownBy_alloc _ _ _).trans ⟨t2.os, t2.tape, t2.output, Nat.le_of_eq t2.size.symm, fun k _ hk => t2.block k (fun e => hk (by rw [e]))⟩⟩
set_option maxHeartbeats 1000000 in
/-- They are held. -/
theorem heldKdc_own (n : Int) {w : World} {v : Value} {len : Nat} (k0 : Int) (h : Mk7 w v len k0) (hn : len ≤ 2000000) (h0 : 0 ≤ k0) (h1 : k0 ≤ 100000000) :
    Calls Tryd.prog 15 #[.agg #[.int .i64 n, v], .int .i64 k0] w fun r w' => r = .returned (.int .i64 (k0 + 7 * len)) ∧ Below w.heap.size w w' := by
  have HM : Hid (Mk7 w v len k0) := h
  have hk : ¬ (k0 + 7 * (len : Int)) < 0 := by omega
  obtain ⟨a, cap, rfl, _⟩ := h
  go_enter Tryd.func15, Tryd.ntmps15
  go_wp2_with fail
  refine (heldSeal_own k0 (HM.out.later (Below.alloc_ _ _)) hn h0 h1).mono ?_
  rintro r w2 ⟨rfl, hw⟩
  rw [hw]
  clear hw w2
  go_wp2_with fail
  go_ret
  exact ⟨rfl, Below.alloc_ _ _⟩

/-- One who gives tickets lies in a block of its own. -/
def KBlk (w : World) (b : Nat) (n : Int) (v : Value) : Prop := w.heap[b]? = some (.cells #[.int .i64 n, v] 31 (0, 0))
theorem KBlk.lt {w : World} {b : Nat} {n : Int} {v : Value} (h : KBlk w b n v) : b < w.heap.size := (Array.getElem?_eq_some_iff.1 h).1
theorem KBlk.later {w w' : World} {b : Nat} {n : Int} {v : Value} (h : KBlk w b n v) (hb : Below w.heap.size w w') : KBlk w' b n v := (hb.block _ h.lt).trans h
theorem KBlk.new (w : World) (n : Int) (v : Value) : KBlk (w.alloc (.cells #[.int .i64 n, v] 31)) w.heap.size n v := heap_alloc_new _ _
theorem KBlk.cells {w : World} {b : Nat} {n : Int} {v : Value} (h : KBlk w b n v) : w.cell? ⟨b, 0, none⟩ = some (.int .i64 n) ∧ w.cell? ⟨b, 1, none⟩ = some v := by
  unfold KBlk at h
  constructor <;> simp [World.cell?, h]
theorem KBlk.base {w w' : World} {b B : Nat} {n : Int} {v : Value} (h : KBlk w b n v) (hb : Below B w w') (hB : b < B) : KBlk w' b n v := (hb.block _ hB).trans h
theorem KBlk.grown {w w' : World} {b : Nat} {n : Int} {v : Value} {r : Option Nat} (h : KBlk w b n v) (hb : w.grownBy w' r) (hB : some b ≠ r) : KBlk w' b n v := (hb.block _ h.lt hB).trans h

end Go.Proofs.YtmolbfiicgiacaaDoor
