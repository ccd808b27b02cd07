/-
  The seals with a key in them, by their key, in a map: what the map is, how it stays, and how one seal more goes into it.
-/
import Derived.Test.YtepnijocfilgoaaDoorKnowBits
import Derived.Test.YtepnijocfilgoaaDoorKCells
import Derived.Maps.Own
import Derived.Maps.OwnOps
import Derived.Maps.Views
namespace Go.Proofs.YtepnijocfilgoaaDoor
open Go.RowKit Go.Maps

/-- A value of the map, read as itself. -/
def RR (v : Value) : Option (DataW Value × List MemPlace) := some (.held v, [])
theorem keyLaw : Keyed Tryd.prog 3 := int_keyed Tryd.underlying3
theorem zeroRow (w : World) : (zeroValue 30).run Tryd.prog w = .ok (.slice none 0 0) w := by kernel_rfl
theorem lit_wf {k : Int} (h1 : 1 ≤ k) (h2 : k ≤ 60) : (Lit.int .i64 k).wf = true := WalkArith.wf_i64 (by omega)

/-- Of the first seals those with a key in them, and this key as their own. -/
def grp (xs : List Sl) (j : Nat) (k : Int) : List Sl := (xs.take j).filter (fun s => decide (s.k = k) && decide (s.inn ≠ 0))
theorem grp_zero (xs : List Sl) (k : Int) : grp xs 0 k = [] := rfl
theorem grp_succ {xs : List Sl} {j : Nat} {s : Sl} (h : xs[j]? = some s) (k : Int) : grp xs (j + 1) k = grp xs j k ++ (if s.k = k ∧ s.inn ≠ 0 then [s] else []) := by
  unfold grp
  rw [List.take_add_one, h, Option.toList_some, List.filter_append]
  congr 1
  by_cases h1 : s.k = k <;> by_cases h2 : s.inn = 0 <;> simp [h1, h2]
theorem grp_len (xs : List Sl) (j : Nat) (k : Int) : (grp xs j k).length ≤ xs.length := by
  unfold grp
  exact Nat.le_trans (List.length_filter_le _ _) (by rw [List.length_take]; omega)
theorem mem_grp {xs : List Sl} {k : Int} {s : Sl} : s ∈ grp xs xs.length k ↔ s ∈ xs ∧ s.k = k ∧ s.inn ≠ 0 := by
  unfold grp
  rw [List.take_length, List.mem_filter]
  simp

/-- The map on the way: block B; a list for each key; no two in one row. -/
structure Gm (W : World) (xs : List Sl) (j : Nat) (f : Int → Value) (D : DataW Value) (w : World) : Prop where
  map : w.ownsMap Tryd.prog 3 RR W.heap.size j D
  look : ∀ k, D.atKey (.int .i64 k) (.held (.slice none 0 0)) = .held (f k)
  own : ∀ k, w.ownsRow (W.heap.size + 1) 45 7 (f k) (grp xs j k).length (cellsL (grp xs j k))
  apart : ∀ k k', k ≠ k' → (f k).ownBlock = none ∨ (f k).ownBlock ≠ (f k').ownBlock
  below : Below W.heap.size W w
theorem grown_of_below {w w' : World} (hb : Below w.heap.size w w') (row : Option Nat) : w.grownBy w' row := ⟨hb.os, hb.tape, hb.output, hb.size, fun k hk _ => hb.block k hk⟩
theorem Gm.lt {W : World} {xs : List Sl} {j : Nat} {f : Int → Value} {D : DataW Value} {w : World} (h : Gm W xs j f D w) : W.heap.size < w.heap.size := h.map.lt
theorem Gm.later {W : World} {xs : List Sl} {j : Nat} {f : Int → Value} {D : DataW Value} {w w' : World} (h : Gm W xs j f D w) (hb : Below w.heap.size w w') : Gm W xs j f D w' :=
  ⟨h.map.kept (grown_of_below hb none) (by simp), h.look, fun k => (h.own k).kept (grown_of_below hb none) (by cases (f k).ownBlock <;> simp), h.apart, h.below.trans (hb.mono h.below.size)⟩
theorem Gm.new (w : World) (xs : List Sl) : Gm w xs 0 (fun _ => .slice none 0 0) (.map []) (w.alloc (.map #[] 0)) :=
  ⟨World.ownsMap_made _ _ _ _, fun _ => rfl, fun _ => World.ownsRow_nil _ _ _ _, fun _ _ _ => Or.inl rfl, (Below.refl _ _).alloc (Nat.le_refl _) _⟩
theorem Gm.skip {W : World} {xs : List Sl} {j : Nat} {f : Int → Value} {D : DataW Value} {w : World} {s : Sl} (h : Gm W xs j f D w) (hs : xs[j]? = some s) (hi : s.inn = 0) : Gm W xs (j + 1) f D w :=
  ⟨h.map.mono (Nat.le_succ _), h.look, fun k => by
    rw [grp_succ hs k, if_neg (fun e => e.2 hi), List.append_nil]
    exact h.own k, h.apart, h.below⟩
/-- The list of a key. -/
theorem Gm.at {W : World} {xs : List Sl} {j : Nat} {f : Int → Value} {D : DataW Value} {w : World} (h : Gm W xs j f D w) {k : Int} (h1 : 1 ≤ k) (h2 : k ≤ 60) :
    (Instr.lookup 80 (.map (some W.heap.size)) (.int .i64 k) false).run Tryd.prog w = .ok (f k) w := by
  obtain ⟨v, ps, hrun, hv⟩ := h.map.lookup (zd := .held (.slice none 0 0)) (zp := []) keyLaw Tryd.underlying80 (zeroRow w) rfl (keyOf_int_mk Tryd.underlying3 (lit_wf h1 h2))
  rw [h.look k] at hv
  have : v = f k := by
    have := congrArg (Option.map Prod.fst) hv
    simpa [RR] using this
  rw [hrun, this]
/-- One seal more. -/
theorem Gm.put {W : World} {xs : List Sl} {j : Nat} {f : Int → Value} {D : DataW Value} {w w1 : World} {s : Sl} {o : Obj} {v' : Value} (h : Gm W xs j f D w) (hs : xs[j]? = some s) (hi : s.inn ≠ 0) (hj : j < 2000000)
    (ho : w1.ownsRow (W.heap.size + 1) 45 7 v' ((grp xs j s.k).length + 1) (cellsL (grp xs j s.k) ++ s.cs)) (hg : (w.alloc o).grownBy w1 (f s.k).ownBlock) (hl : v'.ownBlock = (f s.k).ownBlock ∨ v'.ownBlock = some (w.alloc o).heap.size) :
    ∃ w2 f' D', (Instr.mapUpdate 80 (.map (some W.heap.size)) (.int .i64 s.k) v').run Tryd.prog w1 = .ok () w2 ∧ Gm W xs (j + 1) f' D' w2 ∧ w1.grownBy w2 (some W.heap.size) := by
  obtain ⟨k1, k2⟩ := s.key_of_inn hi
  have hal := (World.grownBy_alloc w o (f s.k).ownBlock).trans hg
  have hnb : ∀ k b, (f k).ownBlock = some b → W.heap.size + 1 ≤ b ∧ b < w.heap.size := fun k b hb => (h.own k).lt b hb
  have hm1 : w1.ownsMap Tryd.prog 3 RR W.heap.size j D := h.map.kept hal (fun e => by have := (hnb _ _ e.symm).1; omega)
  obtain ⟨w2, hrun, hm2, hg2⟩ := hm1.update (t := 80) (e := 30) (val := v') (d := .held v') (ps := []) keyLaw Tryd.underlying80 (by unfold maxLen; omega) (keyOf_int_mk Tryd.underlying3 (lit_wf k1 k2)) rfl
  have hnew : ∀ b, v'.ownBlock = some b → W.heap.size + 1 ≤ b := fun b hb => (ho.lt b hb).1
  refine ⟨w2, fun k => if k = s.k then v' else f k, _, hrun, ⟨hm2, fun k => ?_, fun k => ?_, fun k k' hne => ?_, ?_⟩, hg2⟩
  · by_cases e : k = s.k
    · subst e
      rw [if_pos rfl]
      obtain ⟨es, clock, _, _, _, hD⟩ := h.map
      exact atKey_put_same ⟨_, hD⟩ (by exact trivial) _ _
    · rw [if_neg e, atKey_put_other (by intro h; apply e; injection h)]
      exact h.look k
  · by_cases e : k = s.k
    · subst e
      simp only [if_pos]
      rw [grp_succ hs s.k, if_pos ⟨rfl, hi⟩, cellsL_add, List.length_append, List.length_singleton]
      refine ho.kept hg2 ?_
      cases hv : v'.ownBlock with
      | none => exact Or.inl rfl
      | some b => exact Or.inr (fun e => by have := hnew b hv; injection e with e; omega)
    · simp only [if_neg e]
      rw [grp_succ hs k, if_neg (fun q => e q.1.symm), List.append_nil]
      refine ((h.own k).kept hal (h.apart k s.k e)).kept hg2 ?_
      cases hv : (f k).ownBlock with
      | none => exact Or.inl rfl
      | some b => exact Or.inr (fun e => by have := (hnb k b hv).1; injection e with e; omega)
  · have old_new : ∀ k, k ≠ s.k → (f k).ownBlock = none ∨ (f k).ownBlock ≠ v'.ownBlock := by
      intro k hk
      rcases hl with hl | hl
      · rw [hl]; exact h.apart k s.k hk
      · cases hv : (f k).ownBlock with
        | none => exact Or.inl rfl
        | some b =>
          have := (hnb k b hv).2
          refine Or.inr (fun e => ?_)
          rw [hl] at e
          injection e with e
          simp at e
          omega
    by_cases e : k = s.k
    · subst e
      have e' : ¬ k' = s.k := fun q => hne q.symm
      simp only [if_pos, if_neg e']
      cases hv : v'.ownBlock with
      | none => exact Or.inl rfl
      | some b =>
        rcases old_new k' e' with q | q
        · exact Or.inr (by rw [q]; simp)
        · exact Or.inr (fun q' => q (by rw [hv]; exact q'.symm))
    · by_cases e' : k' = s.k
      · subst e'
        simp only [if_pos, if_neg e]
        exact old_new k e
      · simp only [if_neg e, if_neg e']
        exact h.apart k k' hne
  · exact (h.below.grown hal h.below.size (fun b hb => by have := (hnb _ b hb).1; omega)).grown hg2 (Nat.le_trans h.below.size hal.size) (fun b hb => by injection hb with hb; omega)

end Go.Proofs.YtepnijocfilgoaaDoor
