/-
  For the laws on KdcAs and KdcTgs: the blocks that they keep, and marks that say which block they turn.
-/
import Derived.Test.YtgbhgfeadecbgaaKdcTo
import Derived.Test.YtgbhgfeadecbgaaMsgMk
import Derived.Test.YtgbhgfeadecbgaaMsgEq
import Derived.Test.YtgbhgfeadecbgaaKSz
import Derived.Test.YtgbhgfeadecbgaaMsgOk
namespace Go.Proofs.Ytgbhgfeadecbgaa
open Go.RowKit
attribute [local go_sem ↓] Go.wp_at_zero Go.wp_at_succ

theorem setCell_grown {w w' : World} {r : Option Nat} (b o : Nat) (u : Value) (h : w.grownBy w' r) (hr : r = some b) : w.grownBy (w'.setCell ⟨b, o, none⟩ u) r :=
  ⟨h.os, h.tape, h.output, by simpa using h.size, fun k hk hn => (Below.heap_setCell _ _ _ _ (fun e => hn (by rw [hr, e]))).trans (h.block k hk hn)⟩
theorem put2_grown (w : World) (b : Nat) (u0 u1 : Value) : w.grownBy ((w.setCell ⟨b, 0, none⟩ u0).setCell ⟨b, 1, none⟩ u1) (some b) :=
  setCell_grown b 1 u1 (setCell_grown b 0 u0 (World.grownBy.refl _ _) rfl) rfl
theorem put5_grown (w : World) (b : Nat) (u0 u1 u2 u3 u4 : Value) : w.grownBy (((((w.setCell ⟨b, 0, none⟩ u0).setCell ⟨b, 1, none⟩ u1).setCell ⟨b, 2, none⟩ u2).setCell ⟨b, 3, none⟩ u3).setCell ⟨b, 4, none⟩ u4) (some b) :=
  setCell_grown b 4 u4 (setCell_grown b 3 u3 (setCell_grown b 2 u2 (setCell_grown b 1 u1 (setCell_grown b 0 u0 (World.grownBy.refl _ _) rfl) rfl) rfl) rfl) rfl
theorem SRow.blk {w : World} {a : Option Addr} {xs : List Sl} (h : SRow w a xs) : xs = [] ∨ ∃ b off, a = some ⟨b, off, none⟩ ∧ b < w.heap.size := by
  rcases h with h | ⟨b, off, ha, hl, _⟩
  · exact Or.inl h
  · exact Or.inr ⟨b, off, ha, hl⟩
/-- A row stays where its block is not the one turned. -/
theorem SRow.gr {w w' : World} {a : Option Addr} {xs : List Sl} {r : Option Nat} (h : SRow w a xs) (hg : w.grownBy w' r) (hne : ∀ b off, a = some ⟨b, off, none⟩ → some b ≠ r) : SRow w' a xs := by
  rcases h with h | ⟨b, off, rfl, hl, h⟩
  · exact Or.inl h
  · have e : ∀ o, w'.cell? ⟨b, o, none⟩ = w.cell? ⟨b, o, none⟩ := fun o => World.cell?_of_block (hg.block b hl (hne b off rfl))
    refine Or.inr ⟨b, off, rfl, Nat.lt_of_lt_of_le hl hg.size, fun i s hs => ?_⟩
    obtain ⟨c0, c1, c2, c3, c4, c5, c6⟩ := h i s hs
    exact ⟨(e _).trans c0, (e _).trans c1, (e _).trans c2, (e _).trans c3, (e _).trans c4, (e _).trans c5, (e _).trans c6⟩

/-- Marks in a row of the call's own: just its block is turned. -/
theorem markSeal_own2 {w : World} {base : Nat} {v : Value} {zs : List Sl} (k0 : Int) (h : OwnS w base v zs) (hn : zs.length ≤ 2000000) (h0 : 0 ≤ k0) (h1 : k0 ≤ 100000000) :
    Calls Try.prog 21 #[v, .int .i64 k0] w fun r w' => r = .returned (.int .i64 (k0 + 7 * zs.length)) ∧ w.grownBy w' v.ownBlock ∧ Mk7 w' v zs.length k0 := by
  rcases h.2 with ⟨rfl, h2⟩ | ⟨g, cap, cur, rfl, h2, h3, h4, _, h5, _⟩
  · refine (markSeal_nil none 0 k0 w).mono ?_
    rintro r w' ⟨rfl, rfl⟩
    exact ⟨by rw [h2]; simp, World.grownBy.refl _ _, none, 0, by rw [h2], Or.inl h2⟩
  · refine (markSealS_any g zs.length cap k0 w ⟨cur, _, h3, by omega⟩ hn h0 h1).mono ?_
    rintro r w' ⟨rfl, ht, hw, hc⟩
    exact ⟨rfl, ⟨ht.os, ht.tape, ht.output, Nat.le_of_eq ht.size.symm, fun k _ hk => ht.block k (fun e => hk (by rw [e]; rfl))⟩, _, cap, rfl, Or.inr ⟨g, rfl, hw.lt, hc⟩⟩
/-- Marks stay where another block is turned. -/
theorem Mk7.grown {w w' : World} {v : Value} {n : Nat} {k0 : Int} {r : Option Nat} (h : Mk7 w v n k0) (hg : w.grownBy w' r) (hne : ∀ k, v.ownBlock = some k → some k ≠ r) : Mk7 w' v n k0 := by
  obtain ⟨a, cap, rfl, h | ⟨g, rfl, hl, h⟩⟩ := h
  · exact ⟨a, cap, rfl, Or.inl h⟩
  · exact ⟨_, cap, rfl, Or.inr ⟨g, rfl, Nat.lt_of_lt_of_le hl hg.size, fun i hi => (World.cell?_of_block (hg.block g hl (hne g rfl))).trans (h i hi)⟩⟩

theorem OwnS.gr {w w' : World} {base : Nat} {v : Value} {zs : List Sl} {p : Nat} (h : OwnS w base v zs) (hg : w.grownBy w' (some p)) (hne : ∀ k, v.ownBlock = some k → k ≠ p) : OwnS w' base v zs :=
  own_keep h fun g e => hg.block g (World.ownsRow.lt h g e).2 (fun e2 => hne g e (by injection e2))
end Go.Proofs.Ytgbhgfeadecbgaa
