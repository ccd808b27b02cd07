/-
  On the way through a drawing: the reader, and a row of the call's own.
-/
import Derived.Test.YtnaoopkahcadmaaDrawSeal
import Derived.Test.YtnaoopkahcadmaaKCells
namespace Go.Proofs.Ytnaoopkahcadmaa
open Go.RowKit

/-- On the way: the reader, and a row of the call's own. -/
structure Dr (W : World) (br : Nat) (sv : Value) (L : Nat) (e sz : Nat) (w : World) (q : Int) (v : Value) (n : Nat) (cs : List Value) : Prop where
  rd : Rd w br sv L q
  grew : Grew br W w
  own : w.ownsRow W.heap.size e sz v n cs
  hbr : br < W.heap.size
section
variable {W : World} {br : Nat} {sv : Value} {L : Nat} {e sz : Nat} {w w' : World} {q q' : Int} {v v' : Value} {n : Nat} {cs : List Value}
theorem owns_grew (h : w.ownsRow W.heap.size e sz v n cs) (hg : Grew br w w') (hb : br < W.heap.size) : w'.ownsRow W.heap.size e sz v n cs := by
  refine ⟨h.1, h.2.imp id ?_⟩
  rintro ⟨g, cap, cur, h1, h2, h3, h4⟩
  exact ⟨g, cap, cur, h1, h2, (hg.block g (Array.getElem?_eq_some_iff.1 h3).1 (by omega)).trans h3, h4⟩
theorem Dr.go (h : Dr W br sv L e sz w q v n cs) (hr : Rd w' br sv L q') (hg : Grew br w w') : Dr W br sv L e sz w' q' v n cs := ⟨hr, h.grew.trans hg, owns_grew h.own hg h.hbr, h.hbr⟩
theorem Dr.alloc (h : Dr W br sv L e sz w q v n cs) (o : Obj) : Dr W br sv L e sz (w.alloc o) q v n cs := ⟨h.rd.alloc o, h.grew.alloc o, h.own.alloc o, h.hbr⟩
theorem Dr.append {n' : Nat} {cs' : List Value} (h : Dr W br sv L e sz w q v n cs) (ho : w'.ownsRow W.heap.size e sz v' n' cs') (hg : w.grownBy w' v.ownBlock) : Dr W br sv L e sz w' q v' n' cs' := by
  have hne : ∀ k, v.ownBlock = some k → W.heap.size ≤ k := fun k hk => (h.own.lt k hk).1
  have hbr := h.hbr
  refine ⟨h.rd.stay fun k hk => hg.block k (by have := h.grew.size; omega) (fun e => by have := hne k e.symm; omega), ⟨hg.os.trans h.grew.os, hg.tape.trans h.grew.tape, hg.output.trans h.grew.output, Nat.le_trans h.grew.size hg.size, fun k hk hb => ?_⟩, ho, hbr⟩
  exact (hg.block k (by have := h.grew.size; omega) (fun e => by have := hne k e.symm; omega)).trans (h.grew.block k hk hb)
end

end Go.Proofs.Ytnaoopkahcadmaa
