/-
  For laws that hold a function against its specification: rows of the call's own, which blocks they lie in, what turns them and what does not.
-/
import Derived.Test.YtghajmfjekfdpaaDoorClJ
import Derived.Test.YtghajmfjekfdpaaDoorMsgJ
namespace Go.Proofs.YtghajmfjekfdpaaDoor
open Go.RowKit

theorem own_grl {w w' : World} {base e size n : Nat} {v : Value} {xs : List Value} {bs : List (Option Nat)} (h : w.ownsRow base e size v n xs) (hg : GrL w w' bs) (hn : ∀ k, v.ownBlock = some k → some k ∉ bs) : w'.ownsRow base e size v n xs :=
  own_keep h fun k e => hg.block k (World.ownsRow.lt h k e).2 (hn k e)
theorem OwnS.grl {w w' : World} {base : Nat} {v : Value} {zs : List Sl} {bs : List (Option Nat)} (h : OwnS w base v zs) (hg : GrL w w' bs) (hn : ∀ k, v.ownBlock = some k → some k ∉ bs) : OwnS w' base v zs := own_grl h hg hn
theorem OwnS.low {w : World} {base : Nat} {v : Value} {zs : List Sl} (h : OwnS w base v zs) : ∀ k, v.ownBlock = some k → base ≤ k ∧ k < w.heap.size := fun k e => World.ownsRow.lt h k e
theorem OwnN.low {X : Type} {C : Cel X} {T : TypeId} {w : World} {base : Nat} {v : Value} {zs : List X} (h : OwnN C T w base v zs) : ∀ k, v.ownBlock = some k → base ≤ k ∧ k < w.heap.size := fun k e => World.ownsRow.lt h k e
theorem Mk7.grl {w w' : World} {v : Value} {l : Nat} {k0 : Int} {bs : List (Option Nat)} (h : Mk7 w v l k0) (hg : GrL w w' bs) (hne : ∀ k, v.ownBlock = some k → some k ∉ bs) : Mk7 w' v l k0 := by
  obtain ⟨a, cap, rfl, h | ⟨g, rfl, hl, h⟩⟩ := h
  · exact ⟨a, cap, rfl, Or.inl h⟩
  · exact ⟨_, cap, rfl, Or.inr ⟨g, rfl, Nat.lt_of_lt_of_le hl hg.size, fun i hi => (World.cell?_of_block (hg.block g hl (hne g rfl))).trans (h i hi)⟩⟩
theorem own_off {T : TypeId} {w : World} {b : Nat} {cs : Array Value} {base e size n : Nat} {v : Value} {xs : List Value} (h : ABlk T w b cs) (h' : w.ownsRow base e size v n xs) (hT : e ≠ T) : v.ownBlock ≠ some b := fun q => by
  obtain ⟨cur, hc⟩ := ownN_type h' q
  exact typeN_ne hc h hT rfl
theorem own_ne {w : World} {b1 b2 e1 e2 s1 s2 n1 n2 : Nat} {v1 v2 : Value} {x1 x2 : List Value} (h1 : w.ownsRow b1 e1 s1 v1 n1 x1) (h2 : w.ownsRow b2 e2 s2 v2 n2 x2) (hT : e1 ≠ e2) : ∀ k, v1.ownBlock = some k → v2.ownBlock ≠ some k := fun k q1 q2 => by
  obtain ⟨c1, hc1⟩ := ownN_type h1 q1
  obtain ⟨c2, hc2⟩ := ownN_type h2 q2
  exact typeN_ne hc1 hc2 hT rfl
theorem below_grl {W w w' : World} {B : Nat} {bs : List (Option Nat)} (h : Below B W w) (hg : GrL w w' bs) (hB : B ≤ w.heap.size) (hn : ∀ k, some k ∈ bs → B ≤ k) : Below B W w' := h.trans (hg.below hB hn)
theorem ABlk.set {T : TypeId} {w : World} {b : Nat} {cs : Array Value} (h : ABlk T w b cs) (q : Nat) (v : Value) : ABlk T (w.setCell ⟨b, q, none⟩ v) b (cs.setIfInBounds q v) := by
  unfold ABlk at h ⊢
  simp [World.setCell, Array.getElem?_modify, h]
theorem OwnS.offB {T : TypeId} {w : World} {B b : Nat} {cs' : Array Value} {v : Value} {zs : List Sl} (h : OwnS w B v zs) (hb : ABlk T w b cs') (hT : 64 ≠ T) : ∀ k, v.ownBlock = some k → some k ∉ [some b] := by
  intro k e hm
  simp at hm
  subst hm
  exact own_off hb h hT e

end Go.Proofs.YtghajmfjekfdpaaDoor
