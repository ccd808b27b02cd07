/-
  The laws' own marks in a user's lists: they are held there.
-/
import Derived.Test.YtimmfabaogeanaaDoorClientTo
namespace Go.Proofs.YtimmfabaogeanaaDoor
open Go.RowKit

/-- Just these blocks are turned. -/
structure GrL (w w' : World) (bs : List (Option Nat)) : Prop where
  os : w'.os = w.os
  tape : w'.tape = w.tape
  output : w'.output = w.output
  size : w.heap.size ≤ w'.heap.size
  block : ∀ k, k < w.heap.size → some k ∉ bs → w'.heap[k]? = w.heap[k]?
theorem GrL.of {w w' : World} {r : Option Nat} (h : w.grownBy w' r) : GrL w w' [r] := ⟨h.os, h.tape, h.output, h.size, fun k hk hn => h.block k hk (by simpa using hn)⟩
theorem GrL.ofB {w w' : World} (h : Below w.heap.size w w') : GrL w w' [] := ⟨h.os, h.tape, h.output, h.size, fun k hk _ => h.block k hk⟩
theorem GrL.trans {w w' w'' : World} {ls bs : List (Option Nat)} (h : GrL w w' ls) (h' : GrL w' w'' bs) : GrL w w'' (ls ++ bs) :=
  ⟨h'.os.trans h.os, h'.tape.trans h.tape, h'.output.trans h.output, Nat.le_trans h.size h'.size, fun k hk hn => by
    simp only [List.mem_append, not_or] at hn
    exact (h'.block k (Nat.lt_of_lt_of_le hk h.size) hn.2).trans (h.block k hk hn.1)⟩
theorem GrL.below {w w' : World} {bs : List (Option Nat)} {B : Nat} (h : GrL w w' bs) (hB : B ≤ w.heap.size) (hn : ∀ k, some k ∈ bs → B ≤ k) : Below B w w' :=
  ⟨h.os, h.tape, h.output, h.size, fun k hk => h.block k (by omega) (fun hm => by have := hn k hm; omega)⟩
theorem OwnN.grl {X : Type} {C : Cel X} {T : TypeId} {w w' : World} {base : Nat} {v : Value} {zs : List X} {bs : List (Option Nat)} (h : OwnN C T w base v zs) (hg : GrL w w' bs) (hne : ∀ k, v.ownBlock = some k → some k ∉ bs) : OwnN C T w' base v zs :=
  h.keep fun g e => hg.block g (h.lt g e).2 (hne g e)
theorem MkN.grl {n : Nat} {w w' : World} {v : Value} {l : Nat} {k0 : Int} {bs : List (Option Nat)} (h : MkN n w v l k0) (hg : GrL w w' bs) (hne : ∀ k, v.ownBlock = some k → some k ∉ bs) : MkN n w' v l k0 := by
  obtain ⟨a, cap, rfl, h | ⟨g, rfl, hl, h⟩⟩ := h
  · exact ⟨a, cap, rfl, Or.inl h⟩
  · exact ⟨_, cap, rfl, Or.inr ⟨g, rfl, Nat.lt_of_lt_of_le hl hg.size, fun i hi => (World.cell?_of_block (hg.block g hl (hne g rfl))).trans (h i hi)⟩⟩
theorem NRow.grl {X : Type} {C : Cel X} {w w' : World} {a : Option Addr} {xs : List X} {bs : List (Option Nat)} (h : NRow C w a xs) (hg : GrL w w' bs) (hne : ∀ b off, a = some ⟨b, off, none⟩ → some b ∉ bs) : NRow C w' a xs := by
  rcases h with h | ⟨b, off, rfl, hl, h⟩
  · exact Or.inl h
  · exact Or.inr ⟨b, off, rfl, Nat.lt_of_lt_of_le hl hg.size, fun i x hx => (h i x hx).same (hg.block b hl (hne b off rfl))⟩

/-- Marks lie in them. -/
structure Mk4 (w : World) (v1 v2 v3 v4 : Value) (l1 l2 l3 l4 : Nat) (k0 : Int) : Prop where
  m1 : MkN 2 w v1 l1 k0
  m2 : MkN 10 w v2 l2 (k0 + 2 * l1)
  m3 : MkN 4 w v3 l3 (k0 + 2 * l1 + 10 * l2)
  m4 : MkN 4 w v4 l4 (k0 + 2 * l1 + 10 * l2 + 4 * l3)
theorem Mk4.later {w w' : World} {v1 v2 v3 v4 : Value} {l1 l2 l3 l4 : Nat} {k0 : Int} (h : Mk4 w v1 v2 v3 v4 l1 l2 l3 l4 k0) (hb : Below w.heap.size w w') : Mk4 w' v1 v2 v3 v4 l1 l2 l3 l4 k0 := ⟨h.m1.later hb, h.m2.later hb, h.m3.later hb, h.m4.later hb⟩
theorem Mk4.grl {w w' : World} {v1 v2 v3 v4 : Value} {l1 l2 l3 l4 : Nat} {k0 : Int} {bs : List (Option Nat)} (h : Mk4 w v1 v2 v3 v4 l1 l2 l3 l4 k0) (hg : GrL w w' bs) (hn : ∀ k, v1.ownBlock = some k ∨ v2.ownBlock = some k ∨ v3.ownBlock = some k ∨ v4.ownBlock = some k → some k ∉ bs) : Mk4 w' v1 v2 v3 v4 l1 l2 l3 l4 k0 :=
  ⟨h.m1.grl hg (fun k e => hn k (Or.inl e)), h.m2.grl hg (fun k e => hn k (Or.inr (Or.inl e))), h.m3.grl hg (fun k e => hn k (Or.inr (Or.inr (Or.inl e)))), h.m4.grl hg (fun k e => hn k (Or.inr (Or.inr (Or.inr e))))⟩

end Go.Proofs.YtimmfabaogeanaaDoor
