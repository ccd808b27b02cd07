/-
  What a user has, by whom it is for: a map, and in which order that came: what they are in memory, how they stay, and how one more goes into them.
-/
import Derived.Test.YtaokgbdddgoonaaClOkMath
import Derived.Test.YtaokgbdddgoonaaClientMk
import Derived.Test.YtaokgbdddgoonaaRegInv
import Derived.Maps.Own
import Derived.Maps.OwnOps
import Derived.Maps.OwnSet
import Derived.Maps.Views
import Derived.Test.YtaokgbdddgoonaaCaIndex
import Derived.Test.YtaokgbdddgoonaaKSkip
import Derived.Test.YtaokgbdddgoonaaSealOkd
namespace Go.Proofs.Ytaokgbdddgoonaa
open Go.RowKit Go.Maps

/-- A value of the map, read as itself. -/
def RRc (v : Value) : Option (DataW Value × List MemPlace) := some (.held v, [])
theorem keyLawC : Keyed Try.prog 3 := int_keyed Try.underlying3
/-- Nothing. -/
def zeroD : Cd := ⟨0, 0, 0, ⟨0, 0, 0, 0, 0, 0, 0⟩⟩
theorem zeroCred (w : World) : (zeroValue 58).run Try.prog w = .ok zeroD.v w := by kernel_rfl
theorem litC_wf {k : Int} (h1 : 4 ≤ k) (h2 : k ≤ 6) : (Lit.int .i64 k).wf = true := WalkArith.wf_i64 (by omega)
/-- Numbers by themselves. -/
def celI : Cel Int := ⟨fun x => [x], 1, fun _ => rfl, by decide⟩

/-- The last one for somebody. -/
def lastFor (k : Int) : List Cd → Option Cd
  | [] => none
  | x :: xs => match lastFor k xs with
    | some y => some y
    | none => if x.s = k then some x else none
theorem lastFor_app {k : Int} {x : Cd} : ∀ (xs : List Cd), lastFor k (xs ++ [x]) = if x.s = k then some x else lastFor k xs
  | [] => by simp [lastFor]
  | y :: ys => by
    simp only [List.cons_append, lastFor, lastFor_app ys]
    by_cases h : x.s = k
    · simp [h]
    · simp [h]
theorem ordS_in {x : Cd} : ∀ (xs : List Cd) (o : List Int), x.s ∈ ordS o xs → ordS o (xs ++ [x]) = ordS o xs
  | [], o, h => by
    have h' : x.s ∈ o := h
    simp [ordS, h']
  | y :: ys, o, h => by
    show ordS _ (ys ++ [x]) = ordS _ ys
    exact ordS_in ys _ h
theorem ordS_out {x : Cd} : ∀ (xs : List Cd) (o : List Int), ¬ x.s ∈ ordS o xs → ordS o (xs ++ [x]) = ordS o xs ++ [x.s]
  | [], o, h => by
    have h' : ¬ x.s ∈ o := h
    simp [ordS, h']
  | y :: ys, o, h => by
    show ordS _ (ys ++ [x]) = ordS _ ys ++ [x.s]
    exact ordS_out ys _ h
theorem mem_ordS {k : Int} : ∀ (xs : List Cd) (o : List Int), k ∈ ordS o xs ↔ k ∈ o ∨ ∃ x ∈ xs, x.s = k
  | [], o => by simp [ordS]
  | y :: ys, o => by
    simp only [ordS, mem_ordS ys, List.mem_cons, exists_eq_or_imp]
    by_cases h : y.s ∈ o
    · simp only [h, if_true]
      constructor
      · rintro (q | q)
        · exact Or.inl q
        · exact Or.inr (Or.inr q)
      · rintro (q | q | q)
        · exact Or.inl q
        · exact Or.inl (q ▸ h)
        · exact Or.inr q
    · simp only [h, if_false, List.mem_append, List.mem_singleton]
      constructor
      · rintro ((q | q) | q)
        · exact Or.inl q
        · exact Or.inr (Or.inl q.symm)
        · exact Or.inr (Or.inr q)
      · rintro (q | q | q)
        · exact Or.inl (Or.inl q)
        · exact Or.inl (Or.inr q.symm)
        · exact Or.inr q

/-- What is in the purse: a map at a block, a row of the call's own, as those that were put into it say. -/
structure Pu (B m : Nat) (vo : Value) (xs : List Cd) (D : DataW Value) (w : World) : Prop where
  map : w.ownsMap Try.prog 3 RRc m xs.length D
  look : ∀ k, D.atKey (.int .i64 k) (.held zeroD.v) = .held ((lastFor k xs).getD zeroD).v
  has : ∀ k, Maps.has D (.int .i64 k) = decide (k ∈ ordS [] xs)
  own : OwnN celI 3 w B vo (ordS [] xs)
theorem Pu.later {B m : Nat} {vo : Value} {xs : List Cd} {D : DataW Value} {w w' : World} (h : Pu B m vo xs D w) (hb : Below w.heap.size w w') : Pu B m vo xs D w' :=
  ⟨h.map.kept (row := none) ⟨hb.os, hb.tape, hb.output, hb.size, fun k hk _ => hb.block k hk⟩ (by simp), h.look, h.has, h.own.later hb⟩
theorem Pu.new (w : World) (B : Nat) : Pu B w.heap.size (.slice none 0 0) [] (.map []) (w.alloc (.map #[] 0)) :=
  ⟨World.ownsMap_made _ _ _ _, fun _ => rfl, fun k => by simp [Maps.has, ordS], OwnN.zero _ _ _ _⟩

theorem map_neB {w : World} {m n b : Nat} {D : DataW Value} {cur : Array Value} {t : TypeId} {z : Nat × Nat} (h : w.ownsMap Try.prog 3 RRc m n D) (hc : w.heap[b]? = some (.cells cur t z)) : b ≠ m := by
  rintro rfl
  obtain ⟨es, clock, hb, _⟩ := h
  rw [hb] at hc
  cases hc
theorem GrL.weak {w w' : World} {bs : List (Option Nat)} (h : GrL w w' []) : GrL w w' bs := ⟨h.os, h.tape, h.output, h.size, fun k hk _ => h.block k hk (by simp)⟩
theorem GrL.sub {w w' : World} {ls bs : List (Option Nat)} (h : GrL w w' ls) (hs : ∀ k, k ∈ ls → k ∈ bs) : GrL w w' bs := ⟨h.os, h.tape, h.output, h.size, fun k hk hn => h.block k hk (fun q => hn (hs _ q))⟩
theorem lit_ne {a b : Int} (h : a ≠ b) : Lit.int .i64 a ≠ Lit.int .i64 b := fun q => h (by injection q)
/-- A look: what it gives, and whether it is there. -/
theorem Pu.at {B m : Nat} {vo : Value} {xs : List Cd} {D : DataW Value} {w : World} (h : Pu B m vo xs D w) {k : Int} (h1 : 4 ≤ k) (h2 : k ≤ 6) :
    (Instr.lookup 75 (.map (some m)) (.int .i64 k) true).run Try.prog w = .ok (.tuple #[((lastFor k xs).getD zeroD).v, .bool (decide (k ∈ ordS [] xs))]) w := by
  obtain ⟨v, ps, hrun, hv⟩ := h.map.look_ok (zd := .held zeroD.v) (zp := []) keyLawC Try.underlying75 (zeroCred w) rfl (keyOf_int_mk Try.underlying3 (litC_wf h1 h2))
  rw [h.look k] at hv
  rw [h.has k] at hrun
  have : v = ((lastFor k xs).getD zeroD).v := by
    have := congrArg (Option.map Prod.fst) hv
    simpa [RRc] using this
  rw [hrun, this]
/-- One more is put in: the map. -/
theorem Pu.put {B m : Nat} {vo vo' : Value} {xs : List Cd} {D : DataW Value} {w w1 : World} {x : Cd} (h : Pu B m vo xs D w) (h1 : 4 ≤ x.s) (h2 : x.s ≤ 6) (hl : xs.length < 2000000)
    (hm1 : w1.ownsMap Try.prog 3 RRc m xs.length D) (ho : OwnN celI 3 w1 B vo' (ordS [] (xs ++ [x]))) (hm : ∀ k, vo'.ownBlock = some k → k ≠ m) :
    ∃ w2 D', (Instr.mapUpdate 75 (.map (some m)) (.int .i64 x.s) x.v).run Try.prog w1 = .ok () w2 ∧ Pu B m vo' (xs ++ [x]) D' w2 ∧ w1.grownBy w2 (some m) := by
  obtain ⟨w2, hrun, hm2, hg2⟩ := hm1.update (t := 75) (e := 58) (val := x.v) (d := .held x.v) (ps := []) keyLawC Try.underlying75 (by unfold maxLen; omega) (keyOf_int_mk Try.underlying3 (litC_wf h1 h2)) rfl
  have hD : IsMap D := by
    obtain ⟨es, clock, _, _, _, hD⟩ := h.map
    exact ⟨_, hD⟩
  refine ⟨w2, _, hrun, ⟨by simpa using hm2, fun k => ?_, fun k => ?_, ho.gr hg2 (fun k e q => hm k e (by injection q))⟩, hg2⟩
  · rw [lastFor_app]
    by_cases e : x.s = k
    · subst e
      rw [if_pos rfl]
      exact atKey_put_same hD (by exact trivial) _ _
    · rw [if_neg e, atKey_put_other (lit_ne (fun q => e q.symm))]
      exact h.look k
  · by_cases e : x.s = k
    · subst e
      rw [has_put_same hD (by exact trivial)]
      refine (decide_eq_true ((mem_ordS _ _).2 (Or.inr ⟨x, by simp, rfl⟩))).symm
    · rw [has_put_other (lit_ne (fun q => e q.symm)), h.has k]
      refine decide_eq_decide.2 ?_
      rw [mem_ordS, mem_ordS]
      constructor
      · rintro (q | ⟨y, hy, q⟩)
        · exact Or.inl q
        · exact Or.inr ⟨y, by simp [hy], q⟩
      · rintro (q | ⟨y, hy, q⟩)
        · exact Or.inl q
        · rcases List.mem_append.1 hy with hy | hy
          · exact Or.inr ⟨y, hy, q⟩
          · rw [List.mem_singleton.1 hy] at q; exact absurd q e

end Go.Proofs.Ytaokgbdddgoonaa

namespace Go.Proofs.Ytaokgbdddgoonaa
open Go.RowKit Go.Maps
attribute [local go_sem ↓] Go.wp_at_zero Go.wp_at_succ

/-- The purse lies in a block of its own. -/
def PBlk (w : World) (b m : Nat) (vo : Value) : Prop := w.heap[b]? = some (.cells #[.map (some m), vo] 78 (0, 0))
theorem PBlk.lt {w : World} {b m : Nat} {vo : Value} (h : PBlk w b m vo) : b < w.heap.size := (Array.getElem?_eq_some_iff.1 h).1
theorem PBlk.later {w w' : World} {b m : Nat} {vo : Value} (h : PBlk w b m vo) (hb : Below w.heap.size w w') : PBlk w' b m vo := (hb.block _ h.lt).trans h
theorem PBlk.new (w : World) (m : Nat) (vo : Value) : PBlk (w.alloc (.cells #[.map (some m), vo] 78)) w.heap.size m vo := heap_alloc_new _ _
theorem PBlk.cells {w : World} {b m : Nat} {vo : Value} (h : PBlk w b m vo) : w.cell? ⟨b, 0, none⟩ = some (.map (some m)) ∧ w.cell? ⟨b, 1, none⟩ = some vo := by
  unfold PBlk at h
  constructor <;> simp [World.cell?, h]
theorem PBlk.fro {w : World} {b m : Nat} {vo : Value} (h : PBlk w b m vo) : ∀ i, w.frozen? ⟨b, i, none⟩ = false := by
  intro i
  unfold PBlk at h
  simp [World.frozen?, h]
theorem PBlk.gr {w w' : World} {b m : Nat} {vo : Value} {r : Option Nat} (h : PBlk w b m vo) (hb : w.grownBy w' r) (hB : some b ≠ r) : PBlk w' b m vo := (hb.block _ h.lt hB).trans h
theorem PBlk.set {w : World} {b m : Nat} {vo : Value} (h : PBlk w b m vo) (u : Value) : PBlk (w.setCell ⟨b, 1, none⟩ u) b m u := by
  unfold PBlk at h ⊢
  simp [World.setCell, Array.getElem?_modify, h]

theorem nrow_one (w : World) (k : Int) : NRow celI (w.alloc (.cells #[.int .i64 k] 3)) (some ⟨w.heap.size, 0, none⟩) [k] := by
  refine Or.inr ⟨_, 0, rfl, by simp, fun i z hz => ?_⟩
  cases i with
  | zero =>
    simp at hz
    subst hz
    have e := numsAt_new w 3 (celI.cs k)
    rw [Nat.zero_mul]
    exact e
  | succ i => simp at hz
/-- What is known on the way through the region that puts one more behind the order. -/
structure R3 (W4 : World) (P p m B : Nat) (vo : Value) (x : Cd) (xs : List Cd) (D : DataW Value) (d : Nat → Bool) (s : Nat → Value) (w : World) : Prop where
  bel : p < w.heap.size
  f0 : d 0 = true → s 18 = .pointer (some ⟨P, 0, none⟩)
  f1 : d 1 = true → s 19 = .pointer (some ⟨P, 0, none⟩)
  f2 : d 2 = true → s 20 = .pointer (some ⟨P, 0, none⟩)
  f3 : d 3 = true → s 21 = .pointer (some ⟨P, 1, none⟩)
  f4 : d 4 = true → s 22 = vo
  f5 : d 5 = true → s 23 = .pointer (some ⟨p, 0, none⟩)
  f6 : d 6 = true → s 24 = .int .i64 x.s
  f7 : d 8 = false → d 7 = true → ∃ g, s 25 = .slice (some ⟨g, 0, none⟩) 1 1 ∧ NRow celI w (some ⟨g, 0, none⟩) [x.s]
  f8 : d 8 = true → ∃ b' c', s 26 = .slice b' (ordS [] xs ++ [x.s]).length c' ∧ OwnN celI 3 w B (.slice b' (ordS [] xs ++ [x.s]).length c') (ordS [] xs ++ [x.s])
  f9 : d 9 = true → s 27 = .pointer (some ⟨P, 0, none⟩)
  f10 : d 10 = true → s 28 = .pointer (some ⟨P, 1, none⟩)
  own : d 8 = false → OwnN celI 3 w B vo (ordS [] xs)
  pb : d 11 = false → PBlk w P m vo
  pb2 : d 11 = true → PBlk w P m (s 26)
  xa : NumsAt w p 0 (celD.cs x)
  gr : GrL W4 w [vo.ownBlock, some P]
  map : w.ownsMap Try.prog 3 RRc m xs.length D
theorem R3.later {W4 : World} {P p m B : Nat} {vo : Value} {x : Cd} {xs : List Cd} {D : DataW Value} {d : Nat → Bool} {s : Nat → Value} {w w' : World} (h : R3 W4 P p m B vo x xs D d s w) (hb : Below w.heap.size w w') : R3 W4 P p m B vo x xs D d s w' :=
  ⟨Nat.lt_of_lt_of_le h.bel hb.size, h.f0, h.f1, h.f2, h.f3, h.f4, h.f5, h.f6, fun q e => (by obtain ⟨g, e1, n⟩ := h.f7 q e; exact ⟨g, e1, n.later hb⟩), fun e => (by obtain ⟨b', c', e1, o⟩ := h.f8 e; exact ⟨b', c', e1, o.later hb⟩), h.f9, h.f10, fun e => (h.own e).later hb, fun e => (h.pb e).later hb, fun e => (h.pb2 e).later hb, h.xa.later hb h.bel, (h.gr.trans (GrL.ofB hb)).sub (by intro k hk; simpa using hk), h.map.kept (row := none) ⟨hb.os, hb.tape, hb.output, hb.size, fun k hk _ => hb.block k hk⟩ (by simp)⟩

set_option maxHeartbeats 8000000 in
set_option maxRecDepth 100000 in
theorem put_any (x : Cd) (P B m : Nat) (vo : Value) (xs : List Cd) (D : DataW Value) (w : World) (hP : PBlk w P m vo) (hU : Pu B m vo xs D w) (h1 : 4 ≤ x.s) (h2 : x.s ≤ 6) (hB : B ≤ w.heap.size) (hl : xs.length < 2000000) :
    Calls Try.prog 48 #[.pointer (some ⟨P, 0, none⟩), .agg #[.int .i64 x.s, .int .i64 x.k, .int .i64 x.u, .int .i64 x.x.k, .int .i64 x.x.t, .int .i64 x.x.a, .int .i64 x.x.b, .int .i64 x.x.c, .int .i64 x.x.d, .int .i64 x.x.e]] w fun r w' => r = .returned (.tuple #[]) ∧ ∃ vo' D', PBlk w' P m vo' ∧ Pu B m vo' (xs ++ [x]) D' w' ∧ GrL w w' [vo.ownBlock, some P, some m] := by
  obtain ⟨W, hW⟩ : ∃ W, W = w.alloc (.cells #[.int .i64 x.s, .int .i64 x.k, .int .i64 x.u, .int .i64 x.x.k, .int .i64 x.x.t, .int .i64 x.x.a, .int .i64 x.x.b, .int .i64 x.x.c, .int .i64 x.x.d, .int .i64 x.x.e] 58) := ⟨_, rfl⟩
  obtain ⟨y, hy⟩ : ∃ y, y = (lastFor x.s xs).getD zeroD := ⟨_, rfl⟩
  have HA : Hid (PBlk W P m vo ∧ Pu B m vo xs D W ∧ NumsAt W w.heap.size 0 (celD.cs x) ∧ Below w.heap.size w W ∧ w.heap.size < W.heap.size) := by
    subst hW
    exact ⟨hP.later (Below.alloc_ _ _), hU.later (Below.alloc_ _ _), numsAt_new w 58 (celD.cs x), Below.alloc_ _ _, by simp⟩
  have HL : Hid (∀ u : World, Below W.heap.size W u → (Instr.lookup 75 (.map (some m)) (.int .i64 x.s) true).run Try.prog u = .ok (.tuple #[.agg #[.int .i64 y.s, .int .i64 y.k, .int .i64 y.u, .int .i64 y.x.k, .int .i64 y.x.t, .int .i64 y.x.a, .int .i64 y.x.b, .int .i64 y.x.c, .int .i64 y.x.d, .int .i64 y.x.e], .bool (decide (x.s ∈ ordS [] xs))]) u) := Hid.mk' (fun u hu => by
    have e := (HA.out.2.1.later hu).at h1 h2
    rw [← hy] at e
    exact e)
  have HNX0 : Hid (some w.heap.size ≠ vo.ownBlock ∧ w.heap.size ≠ P) := ⟨fun q => by have := (hU.own.lt _ q.symm).2; omega, fun q => by have := hP.lt; omega⟩
  clear hP hU hy
  go_enter Try.func48, Try.ntmps48
  go_wp2_with fail
  rw [← hW]
  clear hW
  obtain ⟨p, hp⟩ : ∃ p, p = w.heap.size := ⟨_, rfl⟩
  have HB0 : Hid (Below w.heap.size w W) := HA.out.2.2.2.1
  have HA2 : Hid (PBlk W P m vo ∧ Pu B m vo xs D W ∧ NumsAt W p 0 (celD.cs x) ∧ True ∧ p < W.heap.size) := by rw [hp]; exact ⟨HA.out.1, HA.out.2.1, HA.out.2.2.1, trivial, HA.out.2.2.2.2⟩
  have HNX : Hid (some p ≠ vo.ownBlock) := by rw [hp]; exact HNX0.out.1
  have HNP : Hid (p ≠ P) := by rw [hp]; exact HNX0.out.2
  rw [← hp]
  clear HA hp HNX0
  have HA := HA2
  clear HA2
  refine wp_region_held_drew (S := fun w' => Below W.heap.size W w') (by kernel_rfl) (Below.refl _ _).drew (fun hS => ?_)
  generalize W.drew = W1 at hS ⊢
  refine take1 0 7 (Value.pointer (some ⟨P, 0, none⟩)) rfl rfl (by kernel_rfl) (by kernel_rfl) (by kernel_rfl) (by rfl) (fun _ _ _ h => h) hS (fun w' hS' => ?_) ?_
  · (go_simp) <;> (intro hx9; omega)
  simp only [Act.put, List.setIfInBounds_toArray, List.set_cons_zero, List.set_cons_succ]
  refine take1 1 8 (Value.pointer (some ⟨P, 0, none⟩)) rfl rfl (by kernel_rfl) (by kernel_rfl) (by kernel_rfl) (by rfl) (fun _ _ _ h => h) hS (fun w' hS' => ?_) ?_
  · (go_simp) <;> (intro hx9; omega)
  simp only [Act.put, List.setIfInBounds_toArray, List.set_cons_zero, List.set_cons_succ]
  refine take1 2 9 (Value.pointer (some ⟨P, 0, none⟩)) rfl rfl (by kernel_rfl) (by kernel_rfl) (by kernel_rfl) (by rfl) (fun _ _ _ h => h) hS (fun w' hS' => ?_) ?_
  · (go_simp) <;> (intro hx9; omega)
  simp only [Act.put, List.setIfInBounds_toArray, List.set_cons_zero, List.set_cons_succ]
  refine take1 3 10 (Value.map (some m)) rfl rfl (by kernel_rfl) (by kernel_rfl) (by kernel_rfl) (by rfl) (fun _ _ _ h => h) hS (fun w' hS' => ?_) ?_
  · obtain ⟨q0, q1⟩ := (HA.out.1.later hS').cells
    (go_simp) <;> (intro hx9; omega)
  simp only [Act.put, List.setIfInBounds_toArray, List.set_cons_zero, List.set_cons_succ]
  refine take1 4 11 (Value.pointer (some ⟨p, 0, none⟩)) rfl rfl (by kernel_rfl) (by kernel_rfl) (by kernel_rfl) (by rfl) (fun _ _ _ h => h) hS (fun w' hS' => ?_) ?_
  · (go_simp) <;> (intro hx9; omega)
  simp only [Act.put, List.setIfInBounds_toArray, List.set_cons_zero, List.set_cons_succ]
  refine take1 5 12 (Value.int .i64 x.s) rfl rfl (by kernel_rfl) (by kernel_rfl) (by kernel_rfl) (by rfl) (fun _ _ _ h => h) hS (fun w' hS' => ?_) ?_
  · obtain ⟨d0, d1, d2, d3, d4, d5, d6, d7, d8, d9⟩ := celD.at (HA.out.2.2.1.later hS' HA.out.2.2.2.2)
    simp only [Nat.zero_add] at d1 d2 d3 d4 d5 d6 d7 d8 d9
    (go_simp) <;> (intro hx9; omega)
  simp only [Act.put, List.setIfInBounds_toArray, List.set_cons_zero, List.set_cons_succ]
  refine take1 6 13 (Value.tuple #[Value.agg #[.int .i64 y.s, .int .i64 y.k, .int .i64 y.u, .int .i64 y.x.k, .int .i64 y.x.t, .int .i64 y.x.a, .int .i64 y.x.b, .int .i64 y.x.c, .int .i64 y.x.d, .int .i64 y.x.e], .bool (decide (x.s ∈ ordS [] xs))]) rfl rfl (by kernel_rfl) (by kernel_rfl) (by kernel_rfl) (by rfl) (fun _ _ _ h => h) hS (fun w' hS' => ?_) ?_
  · have hrun := HL.out w' hS'
    (go_simp) <;> (intro hx9; omega)
  simp only [Act.put, List.setIfInBounds_toArray, List.set_cons_zero, List.set_cons_succ]
  refine take1 7 6 (Value.tuple #[Value.agg #[.int .i64 y.s, .int .i64 y.k, .int .i64 y.u, .int .i64 y.x.k, .int .i64 y.x.t, .int .i64 y.x.a, .int .i64 y.x.b, .int .i64 y.x.c, .int .i64 y.x.d, .int .i64 y.x.e], .bool (decide (x.s ∈ ordS [] xs))]) rfl rfl (by kernel_rfl) (by kernel_rfl) (by kernel_rfl) (by rfl) (fun _ _ _ h => h) hS (fun w' hS' => ?_) ?_
  · (go_simp) <;> (intro hx9; omega)
  simp only [Act.put, List.setIfInBounds_toArray, List.set_cons_zero, List.set_cons_succ]
  refine take1 8 14 (Value.agg #[.int .i64 y.s, .int .i64 y.k, .int .i64 y.u, .int .i64 y.x.k, .int .i64 y.x.t, .int .i64 y.x.a, .int .i64 y.x.b, .int .i64 y.x.c, .int .i64 y.x.d, .int .i64 y.x.e]) rfl rfl (by kernel_rfl) (by kernel_rfl) (by kernel_rfl) (by rfl) (fun _ _ _ h => h) hS (fun w' hS' => ?_) ?_
  · (go_simp) <;> (intro hx9; omega)
  simp only [Act.put, List.setIfInBounds_toArray, List.set_cons_zero, List.set_cons_succ]
  refine take1 9 15 (.bool (decide (x.s ∈ ordS [] xs))) rfl rfl (by kernel_rfl) (by kernel_rfl) (by kernel_rfl) (by rfl) (fun _ _ _ h => h) hS (fun w' hS' => ?_) ?_
  · (go_simp) <;> (intro hx9; omega)
  simp only [Act.put, List.setIfInBounds_toArray, List.set_cons_zero, List.set_cons_succ]
  refine wpAnyH_ready (rs := [10]) (by kernel_rfl) (by simp) ?_
  refine AllReadyH.cons rfl (fun K hK => ?_) AllReadyH.nil
  go_simp
  have b9 := Below.alloc_ W1 (.cells #[.int .i64 0, .int .i64 0, .int .i64 0, .int .i64 0, .int .i64 0, .int .i64 0, .int .i64 0, .int .i64 0, .int .i64 0, .int .i64 0] 58)
  have S9 : Below W.heap.size W (W1.alloc (.cells #[.int .i64 0, .int .i64 0, .int .i64 0, .int .i64 0, .int .i64 0, .int .i64 0, .int .i64 0, .int .i64 0, .int .i64 0, .int .i64 0] 58)) := hS.trans (b9.mono hS.size)
  have N9 : Hid ((W1.alloc (.cells #[.int .i64 0, .int .i64 0, .int .i64 0, .int .i64 0, .int .i64 0, .int .i64 0, .int .i64 0, .int .i64 0, .int .i64 0, .int .i64 0] 58)).heap[W1.heap.size]? = some (.cells #[.int .i64 0, .int .i64 0, .int .i64 0, .int .i64 0, .int .i64 0, .int .i64 0, .int .i64 0, .int .i64 0, .int .i64 0, .int .i64 0] 58 (0, 0)) ∧ W.heap.size ≤ W1.heap.size) := ⟨heap_alloc_new _ _, hS.size⟩
  clear b9
  obtain ⟨t, ht⟩ : ∃ t, t = W1.heap.size := ⟨_, rfl⟩
  rw [← ht] at N9 ⊢
  clear ht
  generalize (W1.alloc (.cells #[.int .i64 0, .int .i64 0, .int .i64 0, .int .i64 0, .int .i64 0, .int .i64 0, .int .i64 0, .int .i64 0, .int .i64 0, .int .i64 0] 58)) = W2 at S9 N9 ⊢
  refine hK.out _ _ S9 (fun hS => ?_)
  clear hK K S9
  try simp only [Act.put, List.setIfInBounds_toArray, List.set_cons_zero, List.set_cons_succ]
  refine wpAnyH_ready (rs := [11]) (by kernel_rfl) (by simp) ?_
  refine AllReadyH.cons rfl (fun K hK => ?_) AllReadyH.nil
  have z0 : W2.cell? ⟨t, 0, none⟩ = some (.int .i64 0) := by simp [World.cell?, N9.out.1]
  have f0 : W2.frozen? ⟨t, 0, none⟩ = false := by simp [World.frozen?, N9.out.1]
  have z1 : W2.cell? ⟨t, 1, none⟩ = some (.int .i64 0) := by simp [World.cell?, N9.out.1]
  have f1 : W2.frozen? ⟨t, 1, none⟩ = false := by simp [World.frozen?, N9.out.1]
  have z2 : W2.cell? ⟨t, 2, none⟩ = some (.int .i64 0) := by simp [World.cell?, N9.out.1]
  have f2 : W2.frozen? ⟨t, 2, none⟩ = false := by simp [World.frozen?, N9.out.1]
  have z3 : W2.cell? ⟨t, 3, none⟩ = some (.int .i64 0) := by simp [World.cell?, N9.out.1]
  have f3 : W2.frozen? ⟨t, 3, none⟩ = false := by simp [World.frozen?, N9.out.1]
  have z4 : W2.cell? ⟨t, 4, none⟩ = some (.int .i64 0) := by simp [World.cell?, N9.out.1]
  have f4 : W2.frozen? ⟨t, 4, none⟩ = false := by simp [World.frozen?, N9.out.1]
  have z5 : W2.cell? ⟨t, 5, none⟩ = some (.int .i64 0) := by simp [World.cell?, N9.out.1]
  have f5 : W2.frozen? ⟨t, 5, none⟩ = false := by simp [World.frozen?, N9.out.1]
  have z6 : W2.cell? ⟨t, 6, none⟩ = some (.int .i64 0) := by simp [World.cell?, N9.out.1]
  have f6 : W2.frozen? ⟨t, 6, none⟩ = false := by simp [World.frozen?, N9.out.1]
  have z7 : W2.cell? ⟨t, 7, none⟩ = some (.int .i64 0) := by simp [World.cell?, N9.out.1]
  have f7 : W2.frozen? ⟨t, 7, none⟩ = false := by simp [World.frozen?, N9.out.1]
  have z8 : W2.cell? ⟨t, 8, none⟩ = some (.int .i64 0) := by simp [World.cell?, N9.out.1]
  have f8 : W2.frozen? ⟨t, 8, none⟩ = false := by simp [World.frozen?, N9.out.1]
  have z9 : W2.cell? ⟨t, 9, none⟩ = some (.int .i64 0) := by simp [World.cell?, N9.out.1]
  have f9 : W2.frozen? ⟨t, 9, none⟩ = false := by simp [World.frozen?, N9.out.1]
  go_simp
  clear z0 f0 z1 f1 z2 f2 z3 f3 z4 f4 z5 f5 z6 f6 z7 f7 z8 f8 z9 f9
  have S9 : Below W.heap.size W ((((((((((W2.setCell ⟨t, 0, none⟩ (.int .i64 y.s)).setCell ⟨t, 1, none⟩ (.int .i64 y.k)).setCell ⟨t, 2, none⟩ (.int .i64 y.u)).setCell ⟨t, 3, none⟩ (.int .i64 y.x.k)).setCell ⟨t, 4, none⟩ (.int .i64 y.x.t)).setCell ⟨t, 5, none⟩ (.int .i64 y.x.a)).setCell ⟨t, 6, none⟩ (.int .i64 y.x.b)).setCell ⟨t, 7, none⟩ (.int .i64 y.x.c)).setCell ⟨t, 8, none⟩ (.int .i64 y.x.d)).setCell ⟨t, 9, none⟩ (.int .i64 y.x.e)) := ((((((((((hS.setCell (p := ⟨t, 0, none⟩) N9.out.2 _).setCell (p := ⟨t, 1, none⟩) N9.out.2 _).setCell (p := ⟨t, 2, none⟩) N9.out.2 _).setCell (p := ⟨t, 3, none⟩) N9.out.2 _).setCell (p := ⟨t, 4, none⟩) N9.out.2 _).setCell (p := ⟨t, 5, none⟩) N9.out.2 _).setCell (p := ⟨t, 6, none⟩) N9.out.2 _).setCell (p := ⟨t, 7, none⟩) N9.out.2 _).setCell (p := ⟨t, 8, none⟩) N9.out.2 _).setCell (p := ⟨t, 9, none⟩) N9.out.2 _)
  generalize ((((((((((W2.setCell ⟨t, 0, none⟩ (.int .i64 y.s)).setCell ⟨t, 1, none⟩ (.int .i64 y.k)).setCell ⟨t, 2, none⟩ (.int .i64 y.u)).setCell ⟨t, 3, none⟩ (.int .i64 y.x.k)).setCell ⟨t, 4, none⟩ (.int .i64 y.x.t)).setCell ⟨t, 5, none⟩ (.int .i64 y.x.a)).setCell ⟨t, 6, none⟩ (.int .i64 y.x.b)).setCell ⟨t, 7, none⟩ (.int .i64 y.x.c)).setCell ⟨t, 8, none⟩ (.int .i64 y.x.d)).setCell ⟨t, 9, none⟩ (.int .i64 y.x.e)) = W3 at S9 ⊢
  refine hK.out _ _ S9 (fun hS => ?_)
  clear hK K S9
  try simp only [Act.put, List.setIfInBounds_toArray, List.set_cons_zero, List.set_cons_succ]
  refine take1 12 5 (.bool (decide (x.s ∈ ordS [] xs))) rfl rfl (by kernel_rfl) (by kernel_rfl) (by kernel_rfl) (by rfl) (fun _ _ _ h => h) hS (fun w' hS' => ?_) ?_
  · (go_simp) <;> (intro hx9; omega)
  simp only [Act.put, List.setIfInBounds_toArray, List.set_cons_zero, List.set_cons_succ]
  refine wpAnyH_done (by kernel_rfl) ?_ _
  have HB : Hid (PBlk W3 P m vo ∧ Pu B m vo xs D W3 ∧ NumsAt W3 p 0 (celD.cs x) ∧ Below w.heap.size w W3 ∧ p < W3.heap.size) := ⟨HA.out.1.later hS, HA.out.2.1.later hS, HA.out.2.2.1.later hS HA.out.2.2.2.2, HB0.out.trans (hS.mono HB0.out.size), Nat.lt_of_lt_of_le HA.out.2.2.2.2 hS.size⟩
  clear hS HA HL N9 HB0
  by_cases hin : x.s ∈ ordS [] xs
  · rw [decide_eq_true hin]
    have HIN : Hid (x.s ∈ ordS [] xs) := hin
    clear hin
    have HPU : Hid (Pu B m vo xs D W3) := HB.out.2.1
    obtain ⟨vo', hvo⟩ : ∃ v, v = vo := ⟨_, rfl⟩
    obtain ⟨w', hw'⟩ : ∃ u, u = W3 := ⟨_, rfl⟩
    have H5 : Hid (PBlk w' P m vo' ∧ OwnN celI 3 w' B vo' (ordS [] (xs ++ [x])) ∧ w'.ownsMap Try.prog 3 RRc m xs.length D ∧ NumsAt w' p 0 (celD.cs x) ∧ p < w'.heap.size ∧ GrL w w' [vo.ownBlock, some P]) := by
      rw [hvo, hw', ordS_in xs [] HIN.out]
      exact ⟨HB.out.1, HB.out.2.1.own, HB.out.2.1.map, HB.out.2.2.1, HB.out.2.2.2.2, (GrL.ofB HB.out.2.2.2.1).weak⟩
    clear HB HIN hvo
    rw [← hw'] at HPU ⊢
    clear hw'
    go_wp2_with fail
    refine wp_region_held_drew (S := fun u => PBlk u P m vo' ∧ NumsAt u p 0 (celD.cs x) ∧ p < u.heap.size) (by kernel_rfl) ⟨H5.out.1, H5.out.2.2.2.1, H5.out.2.2.2.2.1⟩ (fun hS => ?_)
    have H6 : Hid (PBlk w'.drew P m vo' ∧ OwnN celI 3 w'.drew B vo' (ordS [] (xs ++ [x])) ∧ w'.drew.ownsMap Try.prog 3 RRc m xs.length D ∧ NumsAt w'.drew p 0 (celD.cs x) ∧ p < w'.drew.heap.size ∧ GrL w w'.drew [vo.ownBlock, some P]) := ⟨H5.out.1, H5.out.2.1, H5.out.2.2.1, H5.out.2.2.2.1, H5.out.2.2.2.2.1, (H5.out.2.2.2.2.2.trans (GrL.ofB (Below.refl _ _).drew)).sub (by intro k hk; simpa using hk)⟩
    clear H5
    generalize w'.drew = U at hS H6 ⊢
    refine take1 0 29 (Value.pointer (some ⟨P, 0, none⟩)) rfl rfl (by kernel_rfl) (by kernel_rfl) (by kernel_rfl) (by rfl) (fun _ _ _ h => h) hS (fun w' hS' => ?_) ?_
    · (go_simp) <;> (intro hx9; omega)
    simp only [Act.put, List.setIfInBounds_toArray, List.set_cons_zero, List.set_cons_succ]
    refine take1 1 30 (Value.pointer (some ⟨P, 0, none⟩)) rfl rfl (by kernel_rfl) (by kernel_rfl) (by kernel_rfl) (by rfl) (fun _ _ _ h => h) hS (fun w' hS' => ?_) ?_
    · (go_simp) <;> (intro hx9; omega)
    simp only [Act.put, List.setIfInBounds_toArray, List.set_cons_zero, List.set_cons_succ]
    refine take1 2 31 (Value.pointer (some ⟨P, 0, none⟩)) rfl rfl (by kernel_rfl) (by kernel_rfl) (by kernel_rfl) (by rfl) (fun _ _ _ h => h) hS (fun w' hS' => ?_) ?_
    · (go_simp) <;> (intro hx9; omega)
    simp only [Act.put, List.setIfInBounds_toArray, List.set_cons_zero, List.set_cons_succ]
    refine take1 3 32 (Value.map (some m)) rfl rfl (by kernel_rfl) (by kernel_rfl) (by kernel_rfl) (by rfl) (fun _ _ _ h => h) hS (fun w' hS' => ?_) ?_
    · obtain ⟨q0, q1⟩ := hS'.1.cells
      (go_simp) <;> (intro hx9; omega)
    simp only [Act.put, List.setIfInBounds_toArray, List.set_cons_zero, List.set_cons_succ]
    refine take1 4 33 (Value.pointer (some ⟨p, 0, none⟩)) rfl rfl (by kernel_rfl) (by kernel_rfl) (by kernel_rfl) (by rfl) (fun _ _ _ h => h) hS (fun w' hS' => ?_) ?_
    · (go_simp) <;> (intro hx9; omega)
    simp only [Act.put, List.setIfInBounds_toArray, List.set_cons_zero, List.set_cons_succ]
    refine take1 5 34 (Value.int .i64 x.s) rfl rfl (by kernel_rfl) (by kernel_rfl) (by kernel_rfl) (by rfl) (fun _ _ _ h => h) hS (fun w' hS' => ?_) ?_
    · obtain ⟨d0, d1, d2, d3, d4, d5, d6, d7, d8, d9⟩ := celD.at hS'.2.1
      simp only [Nat.zero_add] at d1 d2 d3 d4 d5 d6 d7 d8 d9
      (go_simp) <;> (intro hx9; omega)
    simp only [Act.put, List.setIfInBounds_toArray, List.set_cons_zero, List.set_cons_succ]
    refine take1 6 35 (Value.agg #[.int .i64 x.s, .int .i64 x.k, .int .i64 x.u, .int .i64 x.x.k, .int .i64 x.x.t, .int .i64 x.x.a, .int .i64 x.x.b, .int .i64 x.x.c, .int .i64 x.x.d, .int .i64 x.x.e]) rfl rfl (by kernel_rfl) (by kernel_rfl) (by kernel_rfl) (by rfl) (fun _ _ _ h => h) hS (fun w' hS' => ?_) ?_
    · obtain ⟨d0, d1, d2, d3, d4, d5, d6, d7, d8, d9⟩ := celD.at hS'.2.1
      simp only [Nat.zero_add] at d1 d2 d3 d4 d5 d6 d7 d8 d9
      (go_simp) <;> (intro hx9; omega)
    simp only [Act.put, List.setIfInBounds_toArray, List.set_cons_zero, List.set_cons_succ]
    refine wpAnyH_ready (rs := [7]) (by kernel_rfl) (by simp) ?_
    refine AllReadyH.cons rfl (fun K hK => ?_) AllReadyH.nil
    obtain ⟨w9, D9, hrun, pu9, g9⟩ := Pu.put HPU.out h1 h2 hl H6.out.2.2.1 H6.out.2.1 (fun k q => (by obtain ⟨cur, hc⟩ := H6.out.2.1.type q; exact map_neB H6.out.2.2.1 hc))
    unfold Cd.v at hrun
    have PU9 : Hid (Pu B m vo' (xs ++ [x]) D9 w9 ∧ PBlk w9 P m vo' ∧ NumsAt w9 p 0 (celD.cs x) ∧ p < w9.heap.size ∧ GrL w w9 [vo.ownBlock, some P, some m]) := by
      have e1 : some P ≠ some m := fun q => map_neB H6.out.2.2.1 H6.out.1 (by injection q)
      have e2 : p ≠ m := by
        obtain ⟨d0, _⟩ := celD.at H6.out.2.2.2.1
        intro q
        obtain ⟨es, clock, hb, _⟩ := H6.out.2.2.1
        rw [q] at d0
        simp [World.cell?, hb] at d0
      exact ⟨pu9, H6.out.1.gr g9 e1, fun q c hq => (World.cell?_of_block (g9.block _ H6.out.2.2.2.2.1 (fun q2 => e2 (by injection q2)))).trans (H6.out.2.2.2.1 q c hq), Nat.lt_of_lt_of_le H6.out.2.2.2.2.1 g9.size, (H6.out.2.2.2.2.2.trans (GrL.of g9)).sub (by intro k hk; simp only [List.mem_append, List.mem_cons, List.not_mem_nil, or_false] at hk ⊢; exact hk.elim (fun q => q.elim Or.inl (fun q => Or.inr (Or.inl q))) (fun q => Or.inr (Or.inr q)))⟩
    clear pu9 g9
    go_simp
    refine hK.out _ _ ⟨PU9.out.2.1, PU9.out.2.2.1, PU9.out.2.2.2.1⟩ (fun hS => ?_)
    clear hK K hS hrun
    try simp only [Act.put, List.setIfInBounds_toArray, List.set_cons_zero, List.set_cons_succ]
    refine wpAnyH_done (by kernel_rfl) ?_ _
    go_wp2_with fail
    go_end0
    exact ⟨rfl, vo', D9, PU9.out.2.1, PU9.out.1, PU9.out.2.2.2.2⟩
  · rw [decide_eq_false hin]
    have HN : Hid (¬ x.s ∈ ordS [] xs) := hin
    clear hin
    obtain ⟨W4, hW4⟩ : ∃ W4, W4 = W3 := ⟨_, rfl⟩
    subst hW4
    have HB4 := HB
    have HPU : Hid (Pu B m vo xs D W4) := HB.out.2.1
    clear HB
    go_wp2_with fail
    refine wp_region_inv [18, 19, 20, 21, 22, 23, 24, 25, 26, 27, 28] (R3 W4 P p m B vo x xs D) [0, 1, 2, 3, 4, 5, 6, 7, 8, 9, 10, 11] (by kernel_rfl) (by kernel_rfl) (by kernel_rfl) ?_ ?_ ?_
    · intro s
      exact ⟨HB4.out.2.2.2.2, fun e => (by cases e), fun e => (by cases e), fun e => (by cases e), fun e => (by cases e), fun e => (by cases e), fun e => (by cases e), fun e => (by cases e), fun _ e => (by cases e), fun e => (by cases e), fun e => (by cases e), fun e => (by cases e), fun _ => HB4.out.2.1.own, fun _ => HB4.out.1, fun e => (by cases e), HB4.out.2.2.1, (GrL.ofB (Below.refl _ _).drew).weak, HB4.out.2.1.map⟩
    · refine StepsI.cons (i := 0) [] rfl (by kernel_rfl) ?_ (StepsI.cons (i := 1) [] rfl (by kernel_rfl) ?_ (StepsI.cons (i := 2) [1] rfl (by kernel_rfl) ?_ (StepsI.cons (i := 3) [2] rfl (by kernel_rfl) ?_ (StepsI.cons (i := 4) [3] rfl (by kernel_rfl) ?_ (StepsI.cons (i := 5) [] rfl (by kernel_rfl) ?_ (StepsI.cons (i := 6) [5] rfl (by kernel_rfl) ?_ (StepsI.cons (i := 7) [6] rfl (by kernel_rfl) ?_ (StepsI.cons (i := 8) [4, 7] rfl (by kernel_rfl) ?_ (StepsI.cons (i := 9) [0, 1, 2, 3, 4, 5, 6, 7, 8] rfl (by kernel_rfl) ?_ (StepsI.cons (i := 10) [0, 1, 2, 3, 4, 5, 6, 7, 8, 9] rfl (by kernel_rfl) ?_ (StepsI.cons (i := 11) [0, 1, 2, 3, 4, 5, 6, 7, 8, 10] rfl (by kernel_rfl) ?_ (StepsI.nil))))))))))))
      · intro d s w' hd hA hC hF K hK
        have hB9 := hF.bel
        simp only [putL, putT, List.setIfInBounds_toArray, List.set_cons_zero, List.set_cons_succ]
        clear hB9
        as_aux_lemma =>
          go_simp
          exact hK.out (updS s 18 (Value.pointer (some ⟨P, 0, none⟩))) _ _ (by (simp only [putL, putT, List.setIfInBounds_toArray, List.set_cons_zero, List.set_cons_succ]); rfl) ⟨hF.bel, fun _ => rfl, hF.f1, hF.f2, hF.f3, hF.f4, hF.f5, hF.f6, hF.f7, hF.f8, hF.f9, hF.f10, hF.own, hF.pb, hF.pb2, hF.xa, hF.gr, hF.map⟩
      · intro d s w' hd hA hC hF K hK
        have hB9 := hF.bel
        simp only [putL, putT, List.setIfInBounds_toArray, List.set_cons_zero, List.set_cons_succ]
        clear hB9
        as_aux_lemma =>
          go_simp
          exact hK.out (updS s 19 (Value.pointer (some ⟨P, 0, none⟩))) _ _ (by (simp only [putL, putT, List.setIfInBounds_toArray, List.set_cons_zero, List.set_cons_succ]); rfl) ⟨hF.bel, hF.f0, fun _ => rfl, hF.f2, hF.f3, hF.f4, hF.f5, hF.f6, hF.f7, hF.f8, hF.f9, hF.f10, hF.own, hF.pb, hF.pb2, hF.xa, hF.gr, hF.map⟩
      · intro d s w' hd hA hC hF K hK
        have hB9 := hF.bel
        simp only [putL, putT, List.setIfInBounds_toArray, List.set_cons_zero, List.set_cons_succ]
        clear hB9
        as_aux_lemma =>
          have e0 := hF.f1 hA.1
          rw [e0]
          go_simp
          refine hK.out (updS s 20 (Value.pointer (some ⟨P, 0, none⟩))) _ _ ?_ ⟨hF.bel, hF.f0, hF.f1, fun _ => rfl, hF.f3, hF.f4, hF.f5, hF.f6, hF.f7, hF.f8, hF.f9, hF.f10, hF.own, hF.pb, hF.pb2, hF.xa, hF.gr, hF.map⟩
          (simp only [putL, putT, List.setIfInBounds_toArray, List.set_cons_zero, List.set_cons_succ]); rw [← e0]; (try rfl)
      · intro d s w' hd hA hC hF K hK
        have hB9 := hF.bel
        simp only [putL, putT, List.setIfInBounds_toArray, List.set_cons_zero, List.set_cons_succ]
        clear hB9
        as_aux_lemma =>
          have e0 := hF.f2 hA.1
          rw [e0]
          go_simp
          refine hK.out (updS s 21 (Value.pointer (some ⟨P, 1, none⟩))) _ _ ?_ ⟨hF.bel, hF.f0, hF.f1, hF.f2, fun _ => rfl, hF.f4, hF.f5, hF.f6, hF.f7, hF.f8, hF.f9, hF.f10, hF.own, hF.pb, hF.pb2, hF.xa, hF.gr, hF.map⟩
          (simp only [putL, putT, List.setIfInBounds_toArray, List.set_cons_zero, List.set_cons_succ]); rw [← e0]; (try rfl)
      · intro d s w' hd hA hC hF K hK
        have hB9 := hF.bel
        simp only [putL, putT, List.setIfInBounds_toArray, List.set_cons_zero, List.set_cons_succ]
        clear hB9
        as_aux_lemma =>
          have e0 := hF.f3 hA.1
          obtain ⟨q0, q1⟩ := (hF.pb (hC.off 11 4 (by kernel_rfl) hd)).cells
          rw [e0]
          go_simp
          refine hK.out (updS s 22 vo) _ _ ?_ ⟨hF.bel, hF.f0, hF.f1, hF.f2, hF.f3, fun _ => rfl, hF.f5, hF.f6, hF.f7, hF.f8, hF.f9, hF.f10, hF.own, hF.pb, hF.pb2, hF.xa, hF.gr, hF.map⟩
          (simp only [putL, putT, List.setIfInBounds_toArray, List.set_cons_zero, List.set_cons_succ]); rw [← e0]; (try rfl)
      · intro d s w' hd hA hC hF K hK
        have hB9 := hF.bel
        simp only [putL, putT, List.setIfInBounds_toArray, List.set_cons_zero, List.set_cons_succ]
        clear hB9
        as_aux_lemma =>
          go_simp
          exact hK.out (updS s 23 (Value.pointer (some ⟨p, 0, none⟩))) _ _ (by (simp only [putL, putT, List.setIfInBounds_toArray, List.set_cons_zero, List.set_cons_succ]); rfl) ⟨hF.bel, hF.f0, hF.f1, hF.f2, hF.f3, hF.f4, fun _ => rfl, hF.f6, hF.f7, hF.f8, hF.f9, hF.f10, hF.own, hF.pb, hF.pb2, hF.xa, hF.gr, hF.map⟩
      · intro d s w' hd hA hC hF K hK
        have hB9 := hF.bel
        simp only [putL, putT, List.setIfInBounds_toArray, List.set_cons_zero, List.set_cons_succ]
        clear hB9
        as_aux_lemma =>
          have e0 := hF.f5 hA.1
          obtain ⟨d0, _⟩ := celD.at hF.xa
          rw [e0]
          go_simp
          refine hK.out (updS s 24 (.int .i64 x.s)) _ _ ?_ ⟨hF.bel, hF.f0, hF.f1, hF.f2, hF.f3, hF.f4, hF.f5, fun _ => rfl, hF.f7, hF.f8, hF.f9, hF.f10, hF.own, hF.pb, hF.pb2, hF.xa, hF.gr, hF.map⟩
          (simp only [putL, putT, List.setIfInBounds_toArray, List.set_cons_zero, List.set_cons_succ]); rw [← e0]; (try rfl)
      · intro d s w' hd hA hC hF K hK
        have hB9 := hF.bel
        simp only [putL, putT, List.setIfInBounds_toArray, List.set_cons_zero, List.set_cons_succ]
        clear hB9
        as_aux_lemma =>
          have e0 := hF.f6 hA.1
          rw [e0]
          go_simp
          have b9 : Below w'.heap.size w' (w'.alloc (.cells #[.int .i64 x.s] 3)) := Below.alloc_ _ _
          have n9 : NRow celI (w'.alloc (.cells #[.int .i64 x.s] 3)) (some ⟨w'.heap.size, 0, none⟩) [x.s] := nrow_one w' x.s
          have hF2 := hF.later b9
          refine hK.out (updS s 25 (.slice (some ⟨w'.heap.size, 0, none⟩) 1 1)) _ _ ?_ ⟨hF2.bel, hF2.f0, hF2.f1, hF2.f2, hF2.f3, hF2.f4, hF2.f5, hF2.f6, fun _ _ => ⟨_, rfl, n9⟩, hF2.f8, hF2.f9, hF2.f10, hF2.own, hF2.pb, hF2.pb2, hF2.xa, hF2.gr, hF2.map⟩
          (simp only [putL, putT, List.setIfInBounds_toArray, List.set_cons_zero, List.set_cons_succ]); rw [← e0]; (try rfl)
      · intro d s w' hd hA hC hF K hK
        have hB9 := hF.bel
        simp only [putL, putT, List.setIfInBounds_toArray, List.set_cons_zero, List.set_cons_succ]
        clear hB9
        as_aux_lemma =>
          have e0 := hF.f4 hA.1
          obtain ⟨g, e1, n9⟩ := hF.f7 hd hA.2.1
          have o9 := hF.own hd
          have hP := hF.pb (hC.off 11 8 (by kernel_rfl) hd)
          rw [if_pos (by rfl)]
          refine wp_app_row celI Try.prog 3 76 8 (.int .i64 0) Try.underlying76 (by kernel_rfl) rfl (by decide) _ _ rfl B vo (ordS [] xs) (by go_simp) o9 (some ⟨g, 0, none⟩) [x.s] 1 (by go_simp) n9 (by have := ordS_len xs []; simp at this ⊢; omega) (Nat.le_trans hB (Nat.le_trans HB4.out.2.2.2.1.size hF.gr.size)) ?_
          intro b' c' w2 o2 g2
          have hne : some P ≠ vo.ownBlock := fun q => (by obtain ⟨cur, hc⟩ := o9.type q.symm; exact typeN_ne hc hP (by decide) rfl)
          have hnx : some p ≠ vo.ownBlock := fun q => HNX.out q
          refine hK.out (updS s 26 (.slice b' (ordS [] xs ++ [x.s]).length c')) _ _ ?_ ⟨Nat.lt_of_lt_of_le hF.bel g2.size, hF.f0, hF.f1, hF.f2, hF.f3, hF.f4, hF.f5, hF.f6, fun q => (by cases q), fun _ => ⟨b', c', rfl, o2⟩, hF.f9, hF.f10, fun q => (by cases q), fun q => (hF.pb q).gr g2 hne, fun q => (by rw [show upd d 8 11 = d 11 from rfl, hC.off 11 8 (by kernel_rfl) hd] at q; cases q), fun q c hq => (World.cell?_of_block (g2.block _ hF.bel hnx)).trans (hF.xa q c hq), (hF.gr.trans (GrL.of g2)).sub (by intro k hk; simp only [List.mem_append, List.mem_cons, List.not_mem_nil, or_false] at hk ⊢; exact hk.elim id (fun q => Or.inl q)), hF.map.kept g2 (fun q => (by obtain ⟨cur, hc⟩ := o9.type q.symm; exact map_neB hF.map hc rfl))⟩
          (simp only [putL, putT, List.setIfInBounds_toArray, List.set_cons_zero, List.set_cons_succ]); rfl
      · intro d s w' hd hA hC hF K hK
        have hB9 := hF.bel
        simp only [putL, putT, List.setIfInBounds_toArray, List.set_cons_zero, List.set_cons_succ]
        clear hB9
        as_aux_lemma =>
          have e0 := hF.f0 hA.1
          rw [e0]
          go_simp
          refine hK.out (updS s 27 (Value.pointer (some ⟨P, 0, none⟩))) _ _ ?_ ⟨hF.bel, hF.f0, hF.f1, hF.f2, hF.f3, hF.f4, hF.f5, hF.f6, hF.f7, hF.f8, fun _ => rfl, hF.f10, hF.own, hF.pb, hF.pb2, hF.xa, hF.gr, hF.map⟩
          (simp only [putL, putT, List.setIfInBounds_toArray, List.set_cons_zero, List.set_cons_succ]); rw [← e0]; (try rfl)
      · intro d s w' hd hA hC hF K hK
        have hB9 := hF.bel
        simp only [putL, putT, List.setIfInBounds_toArray, List.set_cons_zero, List.set_cons_succ]
        clear hB9
        as_aux_lemma =>
          have e0 := hF.f9 hA.2.2.2.2.2.2.2.2.2.1
          rw [e0]
          go_simp
          refine hK.out (updS s 28 (Value.pointer (some ⟨P, 1, none⟩))) _ _ ?_ ⟨hF.bel, hF.f0, hF.f1, hF.f2, hF.f3, hF.f4, hF.f5, hF.f6, hF.f7, hF.f8, hF.f9, fun _ => rfl, hF.own, hF.pb, hF.pb2, hF.xa, hF.gr, hF.map⟩
          (simp only [putL, putT, List.setIfInBounds_toArray, List.set_cons_zero, List.set_cons_succ]); rw [← e0]; (try rfl)
      · intro d s w' hd hA hC hF K hK
        have hB9 := hF.bel
        simp only [putL, putT, List.setIfInBounds_toArray, List.set_cons_zero, List.set_cons_succ]
        clear hB9
        as_aux_lemma =>
          have e0 := hF.f10 hA.2.2.2.2.2.2.2.2.2.1
          obtain ⟨b', c', e1, o2⟩ := hF.f8 hA.2.2.2.2.2.2.2.2.1
          have hP := hF.pb hd
          obtain ⟨N9, hN9⟩ : ∃ n, n = (ordS [] xs ++ [x.s]).length := ⟨_, rfl⟩
          rw [← hN9] at e1 o2
          have HL9 : Hid (N9 = (ordS [] xs ++ [x.s]).length) := hN9
          clear hN9
          have O2 : Hid (OwnN celI 3 w' B (.slice b' N9 c') (ordS [] xs ++ [x.s]) ∧ PBlk w' P m vo) := ⟨o2, hP⟩
          obtain ⟨q0, q1⟩ := hP.cells
          have z1 := hP.fro 1
          clear o2 hP
          rw [e0, e1]
          go_simp
          clear q0 q1 z1
          have g2 : w'.grownBy (w'.setCell ⟨P, 1, none⟩ (.slice b' N9 c')) (some P) := ⟨rfl, rfl, rfl, by simp, fun k _ hn => Below.heap_setCell _ _ _ _ (fun e => hn (by rw [show k = P from e]))⟩
          have hq1 : PBlk (w'.setCell ⟨P, 1, none⟩ (.slice b' N9 c')) P m (.slice b' N9 c') := O2.out.2.set _
          generalize (w'.setCell ⟨P, 1, none⟩ (.slice b' N9 c')) = W6 at g2 hq1 ⊢
          have hno : ∀ k, (Value.slice b' N9 c').ownBlock = some k → some k ≠ some P := fun k q q2 => (by obtain ⟨cur, hc⟩ := O2.out.1.type q; injection q2 with q2; exact typeN_ne hc O2.out.2 (by decide) q2)
          have hnp : some p ≠ some P := fun q => HNP.out (by injection q)
          refine hK.out s _ _ ?_ ⟨Nat.lt_of_lt_of_le hF.bel g2.size, hF.f0, hF.f1, hF.f2, hF.f3, hF.f4, hF.f5, hF.f6, fun q => (by rw [show upd d 11 8 = d 8 from rfl, hA.2.2.2.2.2.2.2.2.1] at q; cases q), fun _ => ⟨b', c', by rw [← HL9.out]; exact e1, by rw [← HL9.out]; exact O2.out.1.gr g2 hno⟩, hF.f9, hF.f10, fun q => (by rw [show upd d 11 8 = d 8 from rfl, hA.2.2.2.2.2.2.2.2.1] at q; cases q), fun q => (by cases q), fun _ => (by rw [e1]; exact hq1), fun q c hq => (World.cell?_of_block (g2.block _ hF.bel hnp)).trans (hF.xa q c hq), (hF.gr.trans (GrL.of g2)).sub (by intro k hk; simp only [List.mem_append, List.mem_cons, List.not_mem_nil, or_false] at hk ⊢; exact hk.elim id (fun q => Or.inr q)), hF.map.kept g2 (fun q => (by injection q with q; exact map_neB hF.map O2.out.2 q.symm))⟩
          (simp only [putL, putT, List.setIfInBounds_toArray, List.set_cons_zero, List.set_cons_succ]); rw [← e0, ← e1]; (try rfl)
    · intro d s w' hA hF
      obtain ⟨b', c', e1, o2⟩ := hF.f8 hA.2.2.2.2.2.2.2.2.1
      have p2 := hF.pb2 hA.2.2.2.2.2.2.2.2.2.2.2.1
      rw [e1] at p2
      rw [← ordS_out xs [] HN.out] at o2 p2
      have H5 : Hid (PBlk w' P m (.slice b' (ordS [] (xs ++ [x])).length c') ∧ OwnN celI 3 w' B (.slice b' (ordS [] (xs ++ [x])).length c') (ordS [] (xs ++ [x])) ∧ w'.ownsMap Try.prog 3 RRc m xs.length D ∧ NumsAt w' p 0 (celD.cs x) ∧ p < w'.heap.size ∧ GrL w w' [vo.ownBlock, some P]) := ⟨p2, o2, hF.map, hF.xa, hF.bel, ((GrL.ofB HB4.out.2.2.2.1).trans hF.gr).sub (by intro k hk; simpa using hk)⟩
      obtain ⟨vo', hvo⟩ : ∃ v, v = Value.slice b' (ordS [] (xs ++ [x])).length c' := ⟨_, rfl⟩
      rw [← hvo] at H5
      clear hvo o2 p2 e1 hF hA
      simp only [putL, putT, List.setIfInBounds_toArray, List.set_cons_zero, List.set_cons_succ]
      go_wp2_with fail
      refine wp_region_held_drew (S := fun u => PBlk u P m vo' ∧ NumsAt u p 0 (celD.cs x) ∧ p < u.heap.size) (by kernel_rfl) ⟨H5.out.1, H5.out.2.2.2.1, H5.out.2.2.2.2.1⟩ (fun hS => ?_)
      have H6 : Hid (PBlk w'.drew P m vo' ∧ OwnN celI 3 w'.drew B vo' (ordS [] (xs ++ [x])) ∧ w'.drew.ownsMap Try.prog 3 RRc m xs.length D ∧ NumsAt w'.drew p 0 (celD.cs x) ∧ p < w'.drew.heap.size ∧ GrL w w'.drew [vo.ownBlock, some P]) := ⟨H5.out.1, H5.out.2.1, H5.out.2.2.1, H5.out.2.2.2.1, H5.out.2.2.2.2.1, (H5.out.2.2.2.2.2.trans (GrL.ofB (Below.refl _ _).drew)).sub (by intro k hk; simpa using hk)⟩
      clear H5
      generalize w'.drew = U at hS H6 ⊢
      refine take1 0 29 (Value.pointer (some ⟨P, 0, none⟩)) rfl rfl (by kernel_rfl) (by kernel_rfl) (by kernel_rfl) (by rfl) (fun _ _ _ h => h) hS (fun w' hS' => ?_) ?_
      · (go_simp) <;> (intro hx9; omega)
      simp only [Act.put, List.setIfInBounds_toArray, List.set_cons_zero, List.set_cons_succ]
      refine take1 1 30 (Value.pointer (some ⟨P, 0, none⟩)) rfl rfl (by kernel_rfl) (by kernel_rfl) (by kernel_rfl) (by rfl) (fun _ _ _ h => h) hS (fun w' hS' => ?_) ?_
      · (go_simp) <;> (intro hx9; omega)
      simp only [Act.put, List.setIfInBounds_toArray, List.set_cons_zero, List.set_cons_succ]
      refine take1 2 31 (Value.pointer (some ⟨P, 0, none⟩)) rfl rfl (by kernel_rfl) (by kernel_rfl) (by kernel_rfl) (by rfl) (fun _ _ _ h => h) hS (fun w' hS' => ?_) ?_
      · (go_simp) <;> (intro hx9; omega)
      simp only [Act.put, List.setIfInBounds_toArray, List.set_cons_zero, List.set_cons_succ]
      refine take1 3 32 (Value.map (some m)) rfl rfl (by kernel_rfl) (by kernel_rfl) (by kernel_rfl) (by rfl) (fun _ _ _ h => h) hS (fun w' hS' => ?_) ?_
      · obtain ⟨q0, q1⟩ := hS'.1.cells
        (go_simp) <;> (intro hx9; omega)
      simp only [Act.put, List.setIfInBounds_toArray, List.set_cons_zero, List.set_cons_succ]
      refine take1 4 33 (Value.pointer (some ⟨p, 0, none⟩)) rfl rfl (by kernel_rfl) (by kernel_rfl) (by kernel_rfl) (by rfl) (fun _ _ _ h => h) hS (fun w' hS' => ?_) ?_
      · (go_simp) <;> (intro hx9; omega)
      simp only [Act.put, List.setIfInBounds_toArray, List.set_cons_zero, List.set_cons_succ]
      refine take1 5 34 (Value.int .i64 x.s) rfl rfl (by kernel_rfl) (by kernel_rfl) (by kernel_rfl) (by rfl) (fun _ _ _ h => h) hS (fun w' hS' => ?_) ?_
      · obtain ⟨d0, d1, d2, d3, d4, d5, d6, d7, d8, d9⟩ := celD.at hS'.2.1
        simp only [Nat.zero_add] at d1 d2 d3 d4 d5 d6 d7 d8 d9
        (go_simp) <;> (intro hx9; omega)
      simp only [Act.put, List.setIfInBounds_toArray, List.set_cons_zero, List.set_cons_succ]
      refine take1 6 35 (Value.agg #[.int .i64 x.s, .int .i64 x.k, .int .i64 x.u, .int .i64 x.x.k, .int .i64 x.x.t, .int .i64 x.x.a, .int .i64 x.x.b, .int .i64 x.x.c, .int .i64 x.x.d, .int .i64 x.x.e]) rfl rfl (by kernel_rfl) (by kernel_rfl) (by kernel_rfl) (by rfl) (fun _ _ _ h => h) hS (fun w' hS' => ?_) ?_
      · obtain ⟨d0, d1, d2, d3, d4, d5, d6, d7, d8, d9⟩ := celD.at hS'.2.1
        simp only [Nat.zero_add] at d1 d2 d3 d4 d5 d6 d7 d8 d9
        (go_simp) <;> (intro hx9; omega)
      simp only [Act.put, List.setIfInBounds_toArray, List.set_cons_zero, List.set_cons_succ]
      refine wpAnyH_ready (rs := [7]) (by kernel_rfl) (by simp) ?_
      refine AllReadyH.cons rfl (fun K hK => ?_) AllReadyH.nil
      obtain ⟨w9, D9, hrun, pu9, g9⟩ := Pu.put HPU.out h1 h2 hl H6.out.2.2.1 H6.out.2.1 (fun k q => (by obtain ⟨cur, hc⟩ := H6.out.2.1.type q; exact map_neB H6.out.2.2.1 hc))
      unfold Cd.v at hrun
      have PU9 : Hid (Pu B m vo' (xs ++ [x]) D9 w9 ∧ PBlk w9 P m vo' ∧ NumsAt w9 p 0 (celD.cs x) ∧ p < w9.heap.size ∧ GrL w w9 [vo.ownBlock, some P, some m]) := by
        have e1 : some P ≠ some m := fun q => map_neB H6.out.2.2.1 H6.out.1 (by injection q)
        have e2 : p ≠ m := by
          obtain ⟨d0, _⟩ := celD.at H6.out.2.2.2.1
          intro q
          obtain ⟨es, clock, hb, _⟩ := H6.out.2.2.1
          rw [q] at d0
          simp [World.cell?, hb] at d0
        exact ⟨pu9, H6.out.1.gr g9 e1, fun q c hq => (World.cell?_of_block (g9.block _ H6.out.2.2.2.2.1 (fun q2 => e2 (by injection q2)))).trans (H6.out.2.2.2.1 q c hq), Nat.lt_of_lt_of_le H6.out.2.2.2.2.1 g9.size, (H6.out.2.2.2.2.2.trans (GrL.of g9)).sub (by intro k hk; simp only [List.mem_append, List.mem_cons, List.not_mem_nil, or_false] at hk ⊢; exact hk.elim (fun q => q.elim Or.inl (fun q => Or.inr (Or.inl q))) (fun q => Or.inr (Or.inr q)))⟩
      clear pu9 g9
      go_simp
      refine hK.out _ _ ⟨PU9.out.2.1, PU9.out.2.2.1, PU9.out.2.2.2.1⟩ (fun hS => ?_)
      clear hK K hS hrun
      try simp only [Act.put, List.setIfInBounds_toArray, List.set_cons_zero, List.set_cons_succ]
      refine wpAnyH_done (by kernel_rfl) ?_ _
      go_wp2_with fail
      go_end0
      exact ⟨rfl, vo', D9, PU9.out.2.1, PU9.out.1, PU9.out.2.2.2.2⟩

end Go.Proofs.Ytaokgbdddgoonaa

namespace Go.Proofs.Ytaokgbdddgoonaa
open Go.RowKit Go.Maps
attribute [local go_sem ↓] Go.wp_at_zero Go.wp_at_succ

/-- The block of the answer, nothing in it yet. -/
def ZBlk (w : World) (b : Nat) : Prop := w.heap[b]? = some (.cells #[.map none, .slice none 0 0] 78 (0, 0))
theorem ZBlk.lt {w : World} {b : Nat} (h : ZBlk w b) : b < w.heap.size := (Array.getElem?_eq_some_iff.1 h).1
theorem ZBlk.later {w w' : World} {b : Nat} (h : ZBlk w b) (hb : Below w.heap.size w w') : ZBlk w' b := (hb.block _ h.lt).trans h

set_option maxHeartbeats 8000000 in
set_option maxRecDepth 100000 in
theorem purseOf_any (a : Option Addr) (cap : Nat) (xs : List Cd) (w : World) (h : NRow celD w a xs) (hk : ∀ x ∈ xs, 4 ≤ x.s ∧ x.s ≤ 6) (hx : xs.length ≤ 1048576) :
    Calls Try.prog 42 #[.slice a xs.length cap] w fun r w' => ∃ m vo D, r = .returned (.agg #[.map (some m), vo]) ∧ Pu w.heap.size m vo xs D w' ∧ Below w.heap.size w w' ∧ w.heap.size ≤ m := by
  have hmm := @run_makeMap Try.prog
  have HK : Hid (∀ x ∈ xs, 4 ≤ x.s ∧ x.s ≤ 6) := hk
  clear hk
  have T0 : Hid (PBlk (((w.alloc (.cells #[.map none, .slice none 0 0] 78)).alloc (.map #[] 0)).alloc (.cells #[.map (some (w.heap.size + 1)), .slice none 0 0] 78)) (w.heap.size + 1 + 1) (w.heap.size + 1) (.slice none 0 0) ∧ Pu w.heap.size (w.heap.size + 1) (.slice none 0 0) [] (.map []) (((w.alloc (.cells #[.map none, .slice none 0 0] 78)).alloc (.map #[] 0)).alloc (.cells #[.map (some (w.heap.size + 1)), .slice none 0 0] 78)) ∧ ZBlk (((w.alloc (.cells #[.map none, .slice none 0 0] 78)).alloc (.map #[] 0)).alloc (.cells #[.map (some (w.heap.size + 1)), .slice none 0 0] 78)) w.heap.size ∧ Below w.heap.size w (((w.alloc (.cells #[.map none, .slice none 0 0] 78)).alloc (.map #[] 0)).alloc (.cells #[.map (some (w.heap.size + 1)), .slice none 0 0] 78))) := by
    have b1 := Below.alloc_ w (.cells #[.map none, .slice none 0 0] 78)
    have b2 := Below.alloc_ (w.alloc (.cells #[.map none, .slice none 0 0] 78)) (.map #[] 0)
    have b3 := Below.alloc_ ((w.alloc (.cells #[.map none, .slice none 0 0] 78)).alloc (.map #[] 0)) (.cells #[.map (some (w.heap.size + 1)), .slice none 0 0] 78)
    have e1 : (w.alloc (.cells #[.map none, .slice none 0 0] 78)).heap.size = w.heap.size + 1 := World.size_alloc _ _
    have e2 : ((w.alloc (.cells #[.map none, .slice none 0 0] 78)).alloc (.map #[] 0)).heap.size = w.heap.size + 1 + 1 := by rw [World.size_alloc, e1]
    have p := PBlk.new ((w.alloc (.cells #[.map none, .slice none 0 0] 78)).alloc (.map #[] 0)) (w.heap.size + 1) (.slice none 0 0)
    rw [e2] at p
    have u := (Pu.new (w.alloc (.cells #[.map none, .slice none 0 0] 78)) w.heap.size).later b3
    rw [e1] at u
    have z : ZBlk (w.alloc (.cells #[.map none, .slice none 0 0] 78)) w.heap.size := heap_alloc_new _ _
    refine ⟨p, u, (z.later b2).later b3, (b1.trans (b2.mono (by rw [e1]; omega))).trans (b3.mono (by rw [e2]; omega))⟩
  go_enter Try.func42, Try.ntmps42
  go_wp2_with fail
  clear hmm
  go_loopw [10] (fun i wr => ∃ (j : Nat) (vo : Value) (D : DataW Value), j ≤ xs.length ∧ i = .int .i64 j ∧ Hid (PBlk wr (w.heap.size + 1 + 1) (w.heap.size + 1) vo ∧ Pu w.heap.size (w.heap.size + 1) vo (xs.take j) D wr ∧ ZBlk wr w.heap.size ∧ Below w.heap.size w wr)) (fun i _ => xs.length - (intOf i).toNat)
  case atStart => exact ⟨0, _, _, Nat.zero_le _, rfl, T0⟩
  case round =>
    clear T0
    obtain ⟨j, vo, D, hj, rfl, C⟩ := hrel
    by_cases hlt : j < xs.length
    · obtain ⟨x, hs⟩ : ∃ x, xs[j]? = some x := ⟨xs[j], List.getElem?_eq_getElem hlt⟩
      have hkx := HK.out x (List.mem_of_getElem? hs)
      rcases h with h | ⟨b, off, rfl, hl, h⟩
      · simp [h] at hlt
      obtain ⟨d0, d1, d2, d3, d4, d5, d6, d7, d8, d9⟩ := celD.at ((h j x hs).later C.out.2.2.2 hl)
      simp only [show celD.n = 10 from rfl] at d0 d1 d2 d3 d4 d5 d6 d7 d8 d9
      have HT : Hid (xs.take (j + 1) = xs.take j ++ [x]) := take_at hs
      have HC : Hid (PBlk (wr.alloc (.cells #[.int .i64 x.s, .int .i64 x.k, .int .i64 x.u, .int .i64 x.x.k, .int .i64 x.x.t, .int .i64 x.x.a, .int .i64 x.x.b, .int .i64 x.x.c, .int .i64 x.x.d, .int .i64 x.x.e] 58)) (w.heap.size + 1 + 1) (w.heap.size + 1) vo ∧ Pu w.heap.size (w.heap.size + 1) vo (xs.take j) D (wr.alloc (.cells #[.int .i64 x.s, .int .i64 x.k, .int .i64 x.u, .int .i64 x.x.k, .int .i64 x.x.t, .int .i64 x.x.a, .int .i64 x.x.b, .int .i64 x.x.c, .int .i64 x.x.d, .int .i64 x.x.e] 58)) ∧ ZBlk (wr.alloc (.cells #[.int .i64 x.s, .int .i64 x.k, .int .i64 x.u, .int .i64 x.x.k, .int .i64 x.x.t, .int .i64 x.x.a, .int .i64 x.x.b, .int .i64 x.x.c, .int .i64 x.x.d, .int .i64 x.x.e] 58)) w.heap.size ∧ Below w.heap.size w (wr.alloc (.cells #[.int .i64 x.s, .int .i64 x.k, .int .i64 x.u, .int .i64 x.x.k, .int .i64 x.x.t, .int .i64 x.x.a, .int .i64 x.x.b, .int .i64 x.x.c, .int .i64 x.x.d, .int .i64 x.x.e] 58))) := ⟨C.out.1.later (Below.alloc_ _ _), C.out.2.1.later (Below.alloc_ _ _), C.out.2.2.1.later (Below.alloc_ _ _), C.out.2.2.2.alloc C.out.2.2.2.size _⟩
      clear h hs C
      go_wp2_with fail
      clear d0 d1 d2 d3 d4 d5 d6 d7 d8 d9
      generalize wr.alloc (.cells #[.int .i64 x.s, .int .i64 x.k, .int .i64 x.u, .int .i64 x.x.k, .int .i64 x.x.t, .int .i64 x.x.a, .int .i64 x.x.b, .int .i64 x.x.c, .int .i64 x.x.d, .int .i64 x.x.e] 58) = W at HC ⊢
      refine (put_any x (w.heap.size + 1 + 1) w.heap.size (w.heap.size + 1) vo (xs.take j) D W HC.out.1 HC.out.2.1 hkx.1 hkx.2 HC.out.2.2.2.size (by rw [List.length_take]; omega)).mono ?_
      rintro r w2 ⟨rfl, vo', D', p2, u2, g2⟩
      have HD : Hid (PBlk w2 (w.heap.size + 1 + 1) (w.heap.size + 1) vo' ∧ Pu w.heap.size (w.heap.size + 1) vo' (xs.take (j + 1)) D' w2 ∧ ZBlk w2 w.heap.size ∧ Below w.heap.size w w2) := by
        rw [HT.out]
        have hn : some w.heap.size ∉ [vo.ownBlock, some (w.heap.size + 1 + 1), some (w.heap.size + 1)] := by
          intro q
          simp only [List.mem_cons, List.not_mem_nil, or_false] at q
          rcases q with q | q | q
          · obtain ⟨cur, hc⟩ := HC.out.2.1.own.type q.symm
            exact typeN_ne hc HC.out.2.2.1 (by decide) rfl
          · injection q with q; omega
          · injection q with q; omega
        refine ⟨p2, u2, (g2.block _ HC.out.2.2.1.lt hn).trans HC.out.2.2.1, HC.out.2.2.2.trans (g2.below HC.out.2.2.2.size (fun k q => ?_))⟩
        simp only [List.mem_cons, List.not_mem_nil, or_false] at q
        rcases q with q | q | q
        · exact (HC.out.2.1.own.lt k q.symm).1
        · injection q with q; omega
        · injection q with q; omega
      clear HC p2 u2 g2 HT hkx
      go_wp2_with fail
      go_roundw
      case rel => exact ⟨j + 1, vo', D', by omega, by go_num, HD⟩
      case measure => simp [intOf]; omega
    · obtain rfl : j = xs.length := by omega
      have HD : Hid (PBlk wr (w.heap.size + 1 + 1) (w.heap.size + 1) vo ∧ Pu w.heap.size (w.heap.size + 1) vo xs D wr ∧ ZBlk wr w.heap.size ∧ Below w.heap.size w wr) := by
        have e := C.out
        rw [List.take_length] at e
        exact e
      clear h C
      obtain ⟨av, cv, rfl, _⟩ := HD.out.2.1.own.rows
      obtain ⟨q0, q1⟩ := HD.out.1.cells
      have z := HD.out.2.2.1
      unfold ZBlk at z
      have z0 : wr.cell? ⟨w.heap.size, 0, none⟩ = some (.map none) := by simp [World.cell?, z]
      have z1 : wr.cell? ⟨w.heap.size, 1, none⟩ = some (.slice none 0 0) := by simp [World.cell?, z]
      have y0 : wr.frozen? ⟨w.heap.size, 0, none⟩ = false := by simp [World.frozen?, z]
      have y1 : wr.frozen? ⟨w.heap.size, 1, none⟩ = false := by simp [World.frozen?, z]
      have lz : w.heap.size < wr.heap.size := HD.out.2.2.1.lt
      clear z
      go_wp2_with fail
      refine bodyPost_ret (v := .agg #[.map (some (w.heap.size + 1)), .slice av (ordS [] xs).length cv]) (by simp [results, Try.results42, go_sem, *]) rfl ⟨_, _, D, rfl, ?_, ?_, by omega⟩
      · have g9 : wr.grownBy ((wr.setCell ⟨w.heap.size, 0, none⟩ (.map (some (w.heap.size + 1)))).setCell ⟨w.heap.size, 1, none⟩ (.slice av (ordS [] xs).length cv)) (some w.heap.size) := ⟨rfl, rfl, rfl, by simp, fun k _ hn => (Below.heap_setCell _ _ _ _ (fun e => hn (by rw [show k = w.heap.size from e]))).trans (Below.heap_setCell _ _ _ _ (fun e => hn (by rw [show k = w.heap.size from e])))⟩
        have u := HD.out.2.1
        refine ⟨u.map.kept g9 (fun q => by injection q with q; omega), u.look, u.has, u.own.gr g9 (fun k e q => ?_)⟩
        obtain ⟨cur, hc⟩ := u.own.type e
        injection q with q
        exact typeN_ne hc HD.out.2.2.1 (by decide) q
      · exact (HD.out.2.2.2.setCell (p := ⟨w.heap.size, 0, none⟩) (Nat.le_refl _) _).setCell (p := ⟨w.heap.size, 1, none⟩) (Nat.le_refl _) _

end Go.Proofs.Ytaokgbdddgoonaa
