/-
  Seals in blocks of their own, on the way of a law: what is laid there stays, and what was there is as it was.
-/
import Derived.Test.YtagbjbpkkdbpbaaDoorTextRegion
namespace Go.Proofs.YtagbjbpkkdbpbaaDoor
open Go.RowKit

/-- What is known on the way: the seal in a block of its own. -/
structure Ones (W : World) (B : Nat) (o : Obj) (w : World) : Prop where
  below : Below W.heap.size W w
  one : w.heap[B]? = some o
theorem Ones.next {W : World} {B : Nat} {o : Obj} {w w' : World} (h : Ones W B o w) (hb : Below w.heap.size w w') : Ones W B o w' :=
  ⟨h.below.trans (hb.mono h.below.size), (hb.block _ (Array.getElem?_eq_some_iff.1 h.one).1).trans h.one⟩

/-- Two seals, each in a block of its own. -/
structure Pair (W : World) (B1 B2 : Nat) (o1 o2 : Obj) (w : World) : Prop where
  below : Below W.heap.size W w
  one : w.heap[B1]? = some o1
  two : w.heap[B2]? = some o2
theorem Pair.next {W : World} {B1 B2 : Nat} {o1 o2 : Obj} {w w' : World} (h : Pair W B1 B2 o1 o2 w) (hb : Below w.heap.size w w') : Pair W B1 B2 o1 o2 w' :=
  ⟨h.below.trans (hb.mono h.below.size), (hb.block _ (Array.getElem?_eq_some_iff.1 h.one).1).trans h.one, (hb.block _ (Array.getElem?_eq_some_iff.1 h.two).1).trans h.two⟩
theorem Pair.alloc {W : World} {B1 B2 : Nat} {o1 o2 : Obj} {w : World} (h : Pair W B1 B2 o1 o2 w) (o : Obj) : Pair W B1 B2 o1 o2 (w.alloc o) := h.next ((Below.refl _ _).alloc (Nat.le_refl _) o)
theorem Ones.pair {W : World} {B : Nat} {o o2 : Obj} {w : World} (h : Ones W B o w) : Pair W B w.heap.size o o2 (w.alloc o2) :=
  ⟨h.below.alloc h.below.size _, (Below.heap_alloc w _ _ (Array.getElem?_eq_some_iff.1 h.one).1).trans h.one, heap_alloc_new w _⟩

end Go.Proofs.YtagbjbpkkdbpbaaDoor
