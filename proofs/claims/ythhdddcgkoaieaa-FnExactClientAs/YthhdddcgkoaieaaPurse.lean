/-
  What a user has, by whom it is for: a map, and in which order that came: what they are in memory, how they stay, and how one more goes into them.
-/
import Derived.Test.YthhdddcgkoaieaaClOkMath
import Derived.Test.YthhdddcgkoaieaaClientMk
import Derived.Test.YthhdddcgkoaieaaRegInv
import Derived.Maps.Own
import Derived.Maps.OwnOps
import Derived.Maps.OwnSet
import Derived.Maps.Views
namespace Go.Proofs.Ythhdddcgkoaieaa
open Go.RowKit Go.Maps

/-- A value of the map, read as itself. -/
def RRc (v : Value) : Option (DataW Value × List MemPlace) := some (.held v, [])
theorem keyLawC : Keyed Try.prog 3 := int_keyed Try.underlying3
/-- Nothing. -/
def zeroD : Cd := ⟨0, 0, 0, ⟨0, 0, 0, 0, 0, 0, 0⟩⟩
theorem zeroCred (w : World) : (zeroValue 68).run Try.prog w = .ok zeroD.v w := by kernel_rfl
theorem litC_wf {k : Int} (h1 : 4 ≤ k) (h2 : k ≤ 6) : (Lit.int .i64 k).wf = true := WalkArith.wf_i64 (by omega)
/-- Numbers by themselves. -/
def celI : Cel Int := ⟨fun x => [x], 1, fun _ => rfl, by decide⟩

/-- The last one for somebody. -/
def lastFor (k : Int) : List Cd → Option Cd
  | [] => none
  | x :: xs => match lastFor k xs with
    | some y => some y
    | none => if x.s = k then some x else none
theorem lastFor_app {k : Int} {x : Cd} : ∀ (xs : List Cd), lastFor k (xs ++ [x]) = if x.s = k then some x else lastFor k xs
  | [] => by simp [lastFor]
  | y :: ys => by
    simp only [List.cons_append, lastFor, lastFor_app ys]
    by_cases h : x.s = k
    · simp [h]
    · simp [h]
theorem ordS_in {x : Cd} : ∀ (xs : List Cd) (o : List Int), x.s ∈ ordS o xs → ordS o (xs ++ [x]) = ordS o xs
  | [], o, h => by
    have h' : x.s ∈ o := h
    simp [ordS, h']
  | y :: ys, o, h => by
    show ordS _ (ys ++ [x]) = ordS _ ys
    exact ordS_in ys _ h
theorem ordS_out {x : Cd} : ∀ (xs : List Cd) (o : List Int), ¬ x.s ∈ ordS o xs → ordS o (xs ++ [x]) = ordS o xs ++ [x.s]
  | [], o, h => by
    have h' : ¬ x.s ∈ o := h
    simp [ordS, h']
  | y :: ys, o, h => by
    show ordS _ (ys ++ [x]) = ordS _ ys ++ [x.s]
    exact ordS_out ys _ h
theorem mem_ordS {k : Int} : ∀ (xs : List Cd) (o : List Int), k ∈ ordS o xs ↔ k ∈ o ∨ ∃ x ∈ xs, x.s = k
  | [], o => by simp [ordS]
  | y :: ys, o => by
    simp only [ordS, mem_ordS ys, List.mem_cons, exists_eq_or_imp]
    by_cases h : y.s ∈ o
    · simp only [h, if_true]
      constructor
      · rintro (q | q)
        · exact Or.inl q
        · exact Or.inr (Or.inr q)
      · rintro (q | q | q)
        · exact Or.inl q
        · exact Or.inl (q ▸ h)
        · exact Or.inr q
    · simp only [h, if_false, List.mem_append, List.mem_singleton]
      constructor
      · rintro ((q | q) | q)
        · exact Or.inl q
        · exact Or.inr (Or.inl q.symm)
        · exact Or.inr (Or.inr q)
      · rintro (q | q | q)
        · exact Or.inl (Or.inl q)
        · exact Or.inl (Or.inr q.symm)
        · exact Or.inr q

/-- What is in the purse: a map at a block, a row of the call's own, as those that were put into it say. -/
structure Pu (B m : Nat) (vo : Value) (xs : List Cd) (D : DataW Value) (w : World) : Prop where
  map : w.ownsMap Try.prog 3 RRc m xs.length D
  look : ∀ k, D.atKey (.int .i64 k) (.held zeroD.v) = .held ((lastFor k xs).getD zeroD).v
  has : ∀ k, Maps.has D (.int .i64 k) = decide (k ∈ ordS [] xs)
  own : OwnN celI 3 w B vo (ordS [] xs)
theorem Pu.later {B m : Nat} {vo : Value} {xs : List Cd} {D : DataW Value} {w w' : World} (h : Pu B m vo xs D w) (hb : Below w.heap.size w w') : Pu B m vo xs D w' :=
  ⟨h.map.kept (row := none) ⟨hb.os, hb.tape, hb.output, hb.size, fun k hk _ => hb.block k hk⟩ (by simp), h.look, h.has, h.own.later hb⟩
theorem Pu.new (w : World) (B : Nat) : Pu B w.heap.size (.slice none 0 0) [] (.map []) (w.alloc (.map #[] 0)) :=
  ⟨World.ownsMap_made _ _ _ _, fun _ => rfl, fun k => by simp [Maps.has, ordS], OwnN.zero _ _ _ _⟩

theorem map_neB {w : World} {m n b : Nat} {D : DataW Value} {cur : Array Value} {t : TypeId} {z : Nat × Nat} (h : w.ownsMap Try.prog 3 RRc m n D) (hc : w.heap[b]? = some (.cells cur t z)) : b ≠ m := by
  rintro rfl
  obtain ⟨es, clock, hb, _⟩ := h
  rw [hb] at hc
  cases hc
theorem GrL.weak {w w' : World} {bs : List (Option Nat)} (h : GrL w w' []) : GrL w w' bs := ⟨h.os, h.tape, h.output, h.size, fun k hk _ => h.block k hk (by simp)⟩
theorem GrL.sub {w w' : World} {ls bs : List (Option Nat)} (h : GrL w w' ls) (hs : ∀ k, k ∈ ls → k ∈ bs) : GrL w w' bs := ⟨h.os, h.tape, h.output, h.size, fun k hk hn => h.block k hk (fun q => hn (hs _ q))⟩
theorem lit_ne {a b : Int} (h : a ≠ b) : Lit.int .i64 a ≠ Lit.int .i64 b := fun q => h (by injection q)
/-- A look: what it gives, and whether it is there. -/
theorem Pu.at {B m : Nat} {vo : Value} {xs : List Cd} {D : DataW Value} {w : World} (h : Pu B m vo xs D w) {k : Int} (h1 : 4 ≤ k) (h2 : k ≤ 6) :
    (Instr.lookup 94 (.map (some m)) (.int .i64 k) true).run Try.prog w = .ok (.tuple #[((lastFor k xs).getD zeroD).v, .bool (decide (k ∈ ordS [] xs))]) w := by
  obtain ⟨v, ps, hrun, hv⟩ := h.map.look_ok (zd := .held zeroD.v) (zp := []) keyLawC Try.underlying94 (zeroCred w) rfl (keyOf_int_mk Try.underlying3 (litC_wf h1 h2))
  rw [h.look k] at hv
  rw [h.has k] at hrun
  have : v = ((lastFor k xs).getD zeroD).v := by
    have := congrArg (Option.map Prod.fst) hv
    simpa [RRc] using this
  rw [hrun, this]
/-- One more is put in: the map. -/
theorem Pu.put {B m : Nat} {vo vo' : Value} {xs : List Cd} {D : DataW Value} {w w1 : World} {x : Cd} (h : Pu B m vo xs D w) (h1 : 4 ≤ x.s) (h2 : x.s ≤ 6) (hl : xs.length < 2000000)
    (hm1 : w1.ownsMap Try.prog 3 RRc m xs.length D) (ho : OwnN celI 3 w1 B vo' (ordS [] (xs ++ [x]))) (hm : ∀ k, vo'.ownBlock = some k → k ≠ m) :
    ∃ w2 D', (Instr.mapUpdate 94 (.map (some m)) (.int .i64 x.s) x.v).run Try.prog w1 = .ok () w2 ∧ Pu B m vo' (xs ++ [x]) D' w2 ∧ w1.grownBy w2 (some m) := by
  obtain ⟨w2, hrun, hm2, hg2⟩ := hm1.update (t := 94) (e := 68) (val := x.v) (d := .held x.v) (ps := []) keyLawC Try.underlying94 (by unfold maxLen; omega) (keyOf_int_mk Try.underlying3 (litC_wf h1 h2)) rfl
  have hD : IsMap D := by
    obtain ⟨es, clock, _, _, _, hD⟩ := h.map
    exact ⟨_, hD⟩
  refine ⟨w2, _, hrun, ⟨by simpa using hm2, fun k => ?_, fun k => ?_, ho.gr hg2 (fun k e q => hm k e (by injection q))⟩, hg2⟩
  · rw [lastFor_app]
    by_cases e : x.s = k
    · subst e
      rw [if_pos rfl]
      exact atKey_put_same hD (by exact trivial) _ _
    · rw [if_neg e, atKey_put_other (lit_ne (fun q => e q.symm))]
      exact h.look k
  · by_cases e : x.s = k
    · subst e
      rw [has_put_same hD (by exact trivial)]
      refine (decide_eq_true ((mem_ordS _ _).2 (Or.inr ⟨x, by simp, rfl⟩))).symm
    · rw [has_put_other (lit_ne (fun q => e q.symm)), h.has k]
      refine decide_eq_decide.2 ?_
      rw [mem_ordS, mem_ordS]
      constructor
      · rintro (q | ⟨y, hy, q⟩)
        · exact Or.inl q
        · exact Or.inr ⟨y, by simp [hy], q⟩
      · rintro (q | ⟨y, hy, q⟩)
        · exact Or.inl q
        · rcases List.mem_append.1 hy with hy | hy
          · exact Or.inr ⟨y, hy, q⟩
          · rw [List.mem_singleton.1 hy] at q; exact absurd q e

end Go.Proofs.Ythhdddcgkoaieaa
