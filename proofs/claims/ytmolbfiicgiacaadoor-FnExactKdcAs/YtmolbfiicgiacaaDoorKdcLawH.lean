/-
  For the laws on KdcAs and KdcTgs: the blocks that they keep, and marks that say which block they turn.
-/
import Derived.Test.YtmolbfiicgiacaaDoorKdcTo
import Derived.Test.YtmolbfiicgiacaaDoorMsgMk
import Derived.Test.YtmolbfiicgiacaaDoorMsgEq
import Derived.Test.YtmolbfiicgiacaaDoorKSz
import Derived.Test.YtmolbfiicgiacaaDoorMsgOk
namespace Go.Proofs.YtmolbfiicgiacaaDoor
open Go.RowKit
attribute [local go_sem ↓] Go.wp_at_zero Go.wp_at_succ

/-- A word of the program's lies in a block of its own. -/
def KMb (w : World) (b : Nat) (m c s f : Int) (v : Value) : Prop := w.heap[b]? = some (.cells #[.int .i64 m, .int .i64 c, .int .i64 s, .int .i64 f, v] 33 (0, 0))
theorem KMb.lt {w : World} {b : Nat} {m c s f : Int} {v : Value} (h : KMb w b m c s f v) : b < w.heap.size := (Array.getElem?_eq_some_iff.1 h).1
theorem KMb.later {w w' : World} {b : Nat} {m c s f : Int} {v : Value} (h : KMb w b m c s f v) (hb : Below w.heap.size w w') : KMb w' b m c s f v := (hb.block _ h.lt).trans h
theorem KMb.base {w w' : World} {b B : Nat} {m c s f : Int} {v : Value} (h : KMb w b m c s f v) (hb : Below B w w') (hB : b < B) : KMb w' b m c s f v := (hb.block _ hB).trans h
theorem KMb.new (w : World) (m c s f : Int) (v : Value) : KMb (w.alloc (.cells #[.int .i64 m, .int .i64 c, .int .i64 s, .int .i64 f, v] 33)) w.heap.size m c s f v := heap_alloc_new _ _
theorem KMb.cells {w : World} {b : Nat} {m c s f : Int} {v : Value} (h : KMb w b m c s f v) : w.cell? ⟨b, 0, none⟩ = some (.int .i64 m) ∧ w.cell? ⟨b, 1, none⟩ = some (.int .i64 c) ∧ w.cell? ⟨b, 2, none⟩ = some (.int .i64 s) ∧ w.cell? ⟨b, 3, none⟩ = some (.int .i64 f) ∧ w.cell? ⟨b, 4, none⟩ = some v := by
  unfold KMb at h
  refine ⟨?_, ?_, ?_, ?_, ?_⟩ <;> simp [World.cell?, h]
theorem KMb.fro {w : World} {b : Nat} {m c s f : Int} {v : Value} (h : KMb w b m c s f v) : ∀ i, w.frozen? ⟨b, i, none⟩ = false := by
  intro i
  unfold KMb at h
  simp [World.frozen?, h]
theorem KMb.grown {w w' : World} {b : Nat} {m c s f : Int} {v : Value} {r : Option Nat} (h : KMb w b m c s f v) (hb : w.grownBy w' r) (hB : some b ≠ r) : KMb w' b m c s f v := (hb.block _ h.lt hB).trans h
theorem KMb.put {w : World} {b : Nat} {m c s f : Int} {v : Value} (h : KMb w b m c s f v) (m' c' s' f' : Int) (v' : Value) : KMb (((((w.setCell ⟨b, 0, none⟩ (.int .i64 m')).setCell ⟨b, 1, none⟩ (.int .i64 c')).setCell ⟨b, 2, none⟩ (.int .i64 s')).setCell ⟨b, 3, none⟩ (.int .i64 f')).setCell ⟨b, 4, none⟩ v') b m' c' s' f' v' := by
  unfold KMb at h ⊢
  simp [World.setCell, Array.getElem?_modify, h]
theorem KBlk.fro {w : World} {b : Nat} {n : Int} {v : Value} (h : KBlk w b n v) : ∀ i, w.frozen? ⟨b, i, none⟩ = false := by
  intro i
  unfold KBlk at h
  simp [World.frozen?, h]
theorem KBlk.put {w : World} {b : Nat} {n : Int} {v : Value} (h : KBlk w b n v) (n' : Int) (v' : Value) : KBlk ((w.setCell ⟨b, 0, none⟩ (.int .i64 n')).setCell ⟨b, 1, none⟩ v') b n' v' := by
  unfold KBlk at h ⊢
  simp [World.setCell, Array.getElem?_modify, h]
theorem setCell_grown {w w' : World} {r : Option Nat} (b o : Nat) (u : Value) (h : w.grownBy w' r) (hr : r = some b) : w.grownBy (w'.setCell ⟨b, o, none⟩ u) r :=
  ⟨h.os, h.tape, h.output, by simpa using h.size, fun k hk hn => (Below.heap_setCell _ _ _ _ (fun e => hn (by rw [hr, e]))).trans (h.block k hk hn)⟩
theorem put2_grown (w : World) (b : Nat) (u0 u1 : Value) : w.grownBy ((w.setCell ⟨b, 0, none⟩ u0).setCell ⟨b, 1, none⟩ u1) (some b) :=
  setCell_grown b 1 u1 (setCell_grown b 0 u0 (World.grownBy.refl _ _) rfl) rfl
theorem put5_grown (w : World) (b : Nat) (u0 u1 u2 u3 u4 : Value) : w.grownBy (((((w.setCell ⟨b, 0, none⟩ u0).setCell ⟨b, 1, none⟩ u1).setCell ⟨b, 2, none⟩ u2).setCell ⟨b, 3, none⟩ u3).setCell ⟨b, 4, none⟩ u4) (some b) :=
  setCell_grown b 4 u4 (setCell_grown b 3 u3 (setCell_grown b 2 u2 (setCell_grown b 1 u1 (setCell_grown b 0 u0 (World.grownBy.refl _ _) rfl) rfl) rfl) rfl) rfl
theorem SRow.blk {w : World} {a : Option Addr} {xs : List Sl} (h : SRow w a xs) : xs = [] ∨ ∃ b off, a = some ⟨b, off, none⟩ ∧ b < w.heap.size := by
  rcases h with h | ⟨b, off, ha, hl, _⟩
  · exact Or.inl h
  · exact Or.inr ⟨b, off, ha, hl⟩
/-- A row stays where its block is not the one turned. -/
theorem SRow.gr {w w' : World} {a : Option Addr} {xs : List Sl} {r : Option Nat} (h : SRow w a xs) (hg : w.grownBy w' r) (hne : ∀ b off, a = some ⟨b, off, none⟩ → some b ≠ r) : SRow w' a xs := by
  rcases h with h | ⟨b, off, rfl, hl, h⟩
  · exact Or.inl h
  · have e : ∀ o, w'.cell? ⟨b, o, none⟩ = w.cell? ⟨b, o, none⟩ := fun o => World.cell?_of_block (hg.block b hl (hne b off rfl))
    refine Or.inr ⟨b, off, rfl, Nat.lt_of_lt_of_le hl hg.size, fun i s hs => ?_⟩
    obtain ⟨c0, c1, c2, c3, c4, c5, c6⟩ := h i s hs
    exact ⟨(e _).trans c0, (e _).trans c1, (e _).trans c2, (e _).trans c3, (e _).trans c4, (e _).trans c5, (e _).trans c6⟩

/-- What was handed over lies in two blocks of the law's own. -/
structure In (w : World) (n : Int) (v : Value) (m c s f : Int) (u : Value) (w' : World) : Prop where
  k : w'.heap[w.heap.size]? = some (.cells #[.int .i64 n, v] 24 (0, 0))
  m : w'.heap[w.heap.size + 1]? = some (.cells #[.int .i64 m, .int .i64 c, .int .i64 s, .int .i64 f, u] 26 (0, 0))
  below : Below w.heap.size w w'
theorem In.size {w w' : World} {n m c s f : Int} {v u : Value} (h : In w n v m c s f u w') : w.heap.size + 2 ≤ w'.heap.size := (Array.getElem?_eq_some_iff.1 h.m).1
theorem In.base {w w1 w2 : World} {n m c s f : Int} {v u : Value} {B : Nat} (h : In w n v m c s f u w1) (hb : Below B w1 w2) (hB : w.heap.size + 2 ≤ B) : In w n v m c s f u w2 :=
  ⟨(hb.block _ (by omega)).trans h.k, (hb.block _ (by omega)).trans h.m, h.below.trans (hb.mono (by omega))⟩
theorem In.later {w w1 w2 : World} {n m c s f : Int} {v u : Value} (h : In w n v m c s f u w1) (hb : Below w1.heap.size w1 w2) : In w n v m c s f u w2 := h.base hb h.size
theorem In.new (w : World) (n : Int) (v : Value) (m c s f : Int) (u : Value) : In w n v m c s f u ((w.alloc (.cells #[.int .i64 n, v] 24)).alloc (.cells #[.int .i64 m, .int .i64 c, .int .i64 s, .int .i64 f, u] 26)) := by
  refine ⟨?_, ?_, (Below.alloc_ _ _).trans ((Below.alloc_ _ _).mono (by simp))⟩
  · rw [Below.heap_alloc _ _ _ (by simp)]
    exact heap_alloc_new _ _
  · have e := heap_alloc_new (w.alloc (.cells #[.int .i64 n, v] 24)) (.cells #[.int .i64 m, .int .i64 c, .int .i64 s, .int .i64 f, u] 26)
    simpa using e
theorem In.cells {w w' : World} {n m c s f : Int} {v u : Value} (h : In w n v m c s f u w') : w'.cell? ⟨w.heap.size, 0, none⟩ = some (.int .i64 n) ∧ w'.cell? ⟨w.heap.size, 1, none⟩ = some v := by
  have e := h.k
  constructor <;> simp [World.cell?, e]
theorem In.cellm {w w' : World} {n m c s f : Int} {v u : Value} (h : In w n v m c s f u w') : w'.cell? ⟨w.heap.size + 1, 0, none⟩ = some (.int .i64 m) ∧ w'.cell? ⟨w.heap.size + 1, 1, none⟩ = some (.int .i64 c) ∧ w'.cell? ⟨w.heap.size + 1, 2, none⟩ = some (.int .i64 s) ∧ w'.cell? ⟨w.heap.size + 1, 3, none⟩ = some (.int .i64 f) ∧ w'.cell? ⟨w.heap.size + 1, 4, none⟩ = some u := by
  have e := h.m
  refine ⟨?_, ?_, ?_, ?_, ?_⟩ <;> simp [World.cell?, e]

/-- Marks in a row of the call's own: just its block is turned. -/
theorem markSeal_own2 {w : World} {base : Nat} {v : Value} {zs : List Sl} (k0 : Int) (h : OwnS w base v zs) (hn : zs.length ≤ 2000000) (h0 : 0 ≤ k0) (h1 : k0 ≤ 100000000) :
    Calls Tryd.prog 31 #[v, .int .i64 k0] w fun r w' => r = .returned (.int .i64 (k0 + 7 * zs.length)) ∧ w.grownBy w' v.ownBlock ∧ Mk7 w' v zs.length k0 := by
  rcases h.2 with ⟨rfl, h2⟩ | ⟨g, cap, cur, rfl, h2, h3, h4, _, h5, _⟩
  · refine (markSeal_nil none 0 k0 w).mono ?_
    rintro r w' ⟨rfl, rfl⟩
    exact ⟨by rw [h2]; simp, World.grownBy.refl _ _, none, 0, by rw [h2], Or.inl h2⟩
  · refine (markSealS_any g zs.length cap k0 w ⟨cur, _, h3, by omega⟩ hn h0 h1).mono ?_
    rintro r w' ⟨rfl, ht, hw, hc⟩
    exact ⟨rfl, ⟨ht.os, ht.tape, ht.output, Nat.le_of_eq ht.size.symm, fun k _ hk => ht.block k (fun e => hk (by rw [e]; rfl))⟩, _, cap, rfl, Or.inr ⟨g, rfl, hw.lt, hc⟩⟩
set_option maxHeartbeats 1000000 in
theorem markKdc_own2 (n : Int) {w : World} {base : Nat} {v : Value} {zs : List Sl} (k0 : Int) (h : OwnS w base v zs) (hn : zs.length ≤ 2000000) (h0 : 0 ≤ k0) (h1 : k0 ≤ 100000000) :
    Calls Tryd.prog 13 #[.agg #[.int .i64 n, v], .int .i64 k0] w fun r w' => r = .returned (.int .i64 (k0 + 7 * zs.length)) ∧ w.grownBy w' v.ownBlock ∧ Mk7 w' v zs.length k0 := by
  obtain ⟨a, cap, rfl, _⟩ := h.row
  have HO : Hid (OwnS w base (.slice a zs.length cap) zs) := h
  clear h
  go_enter Tryd.func13, Tryd.ntmps13
  go_wp2_with fail
  refine (markSeal_own2 k0 (OwnS.later HO.out (Below.alloc_ _ _)) hn h0 h1).mono ?_
  rintro r w2 ⟨rfl, b2, m2⟩
  go_wp2_with fail
  go_ret
  exact ⟨rfl, (World.grownBy_alloc _ _ _).trans b2, m2⟩
set_option maxHeartbeats 1000000 in
theorem markMsg_own2 (m n k f : Int) {w : World} {base : Nat} {v : Value} {zs : List Sl} (k0 : Int) (h : OwnS w base v zs) (hn : zs.length ≤ 2000000) (h0 : 0 ≤ k0) (h1 : k0 ≤ 100000000) :
    Calls Tryd.prog 14 #[.agg #[.int .i64 m, .int .i64 n, .int .i64 k, .int .i64 f, v], .int .i64 k0] w fun r w' => r = .returned (.int .i64 (k0 + 7 * zs.length)) ∧ w.grownBy w' v.ownBlock ∧ Mk7 w' v zs.length k0 := by
  obtain ⟨a, cap, rfl, _⟩ := h.row
  have HO : Hid (OwnS w base (.slice a zs.length cap) zs) := h
  clear h
  go_enter Tryd.func14, Tryd.ntmps14
  go_wp2_with fail
  refine (markSeal_own2 k0 (OwnS.later HO.out (Below.alloc_ _ _)) hn h0 h1).mono ?_
  rintro r w2 ⟨rfl, b2, m2⟩
  go_wp2_with fail
  go_ret
  exact ⟨rfl, (World.grownBy_alloc _ _ _).trans b2, m2⟩
/-- Marks stay where another block is turned. -/
theorem Mk7.grown {w w' : World} {v : Value} {n : Nat} {k0 : Int} {r : Option Nat} (h : Mk7 w v n k0) (hg : w.grownBy w' r) (hne : ∀ k, v.ownBlock = some k → some k ≠ r) : Mk7 w' v n k0 := by
  obtain ⟨a, cap, rfl, h | ⟨g, rfl, hl, h⟩⟩ := h
  · exact ⟨a, cap, rfl, Or.inl h⟩
  · exact ⟨_, cap, rfl, Or.inr ⟨g, rfl, Nat.lt_of_lt_of_le hl hg.size, fun i hi => (World.cell?_of_block (hg.block g hl (hne g rfl))).trans (h i hi)⟩⟩

theorem OwnS.offK {w : World} {base p : Nat} {v u : Value} {n : Int} {zs : List Sl} (h : OwnS w base v zs) (hk : KBlk w p n u) : ∀ k, v.ownBlock = some k → k ≠ p := by
  intro k e
  obtain ⟨cur, hc⟩ := own_type h e
  exact type_ne hc hk (by decide)
theorem OwnS.offM {w : World} {base p : Nat} {v u : Value} {m c s f : Int} {zs : List Sl} (h : OwnS w base v zs) (hk : KMb w p m c s f u) : ∀ k, v.ownBlock = some k → k ≠ p := by
  intro k e
  obtain ⟨cur, hc⟩ := own_type h e
  exact type_ne hc hk (by decide)
theorem OwnS.gr {w w' : World} {base : Nat} {v : Value} {zs : List Sl} {p : Nat} (h : OwnS w base v zs) (hg : w.grownBy w' (some p)) (hne : ∀ k, v.ownBlock = some k → k ≠ p) : OwnS w' base v zs :=
  own_keep h fun g e => hg.block g (World.ownsRow.lt h g e).2 (fun e2 => hne g e (by injection e2))
theorem KBlk.offM {w : World} {p q : Nat} {n m c s f : Int} {v u : Value} (h : KBlk w p n v) (hk : KMb w q m c s f u) : p ≠ q := type_ne h hk (by decide)

end Go.Proofs.YtmolbfiicgiacaaDoor
