/-
  Marks in a row of numbers of the call's own, nil or not: they are held there.
-/
import Derived.Test.YthgglnjjbpjonaaIntHeld
import Derived.Test.YthgglnjjbpjonaaKOwn
namespace Go.Proofs.Ythgglnjjbpjonaa
open Go.RowKit

set_option maxRecDepth 100000 in
theorem markInt_nil (a : Option Addr) (cap : Nat) (k0 : Int) (w : World) :
    Calls Try.prog 14 #[.slice a 0 cap, .int .i64 k0] w fun r w' => r = .returned (.int .i64 k0) ∧ w' = w := by
  go_enter Try.func14, Try.ntmps14
  go_wp2_with fail
  refine wp_loop_rounds 1 ?_
  rw [rounds_succ]
  go_wp2_with fail
  go_ret
  exact ⟨rfl, rfl⟩
set_option maxRecDepth 100000 in
theorem heldInt_nil (a : Option Addr) (cap : Nat) (k0 : Int) (w : World) :
    Calls Try.prog 16 #[.slice a 0 cap, .int .i64 k0] w fun r w' => r = .returned (.int .i64 k0) ∧ w' = w := by
  go_enter Try.func16, Try.ntmps16
  go_wp2_with fail
  refine wp_loop_rounds 1 ?_
  rw [rounds_succ]
  go_wp2_with fail
  go_ret
  exact ⟨rfl, rfl⟩

/-- The marks lie in the row. -/
def Mk (w : World) (v : Value) (n : Nat) (k0 : Int) : Prop := ∃ a cap, v = .slice a n cap ∧ (n = 0 ∨ ∃ g, a = some ⟨g, 0, none⟩ ∧ g < w.heap.size ∧ ∀ i, i < n → w.cell? ⟨g, i, none⟩ = some (.int .i64 (k0 + i)))
theorem Mk.later {w w' : World} {v : Value} {n : Nat} {k0 : Int} (h : Mk w v n k0) (hb : Below w.heap.size w w') : Mk w' v n k0 := by
  obtain ⟨a, cap, rfl, h | ⟨g, rfl, hg, h⟩⟩ := h
  · exact ⟨a, cap, rfl, Or.inl h⟩
  · exact ⟨_, cap, rfl, Or.inr ⟨g, rfl, Nat.lt_of_lt_of_le hg hb.size, fun i hi => ((bcell hb).1 _ _ hg).trans (h i hi)⟩⟩
theorem markInt_own {w : World} {base : Nat} {v : Value} {zs : List Int} (k0 : Int) (h : OwnI w base v zs) (hb : base ≤ w.heap.size) (hn : zs.length ≤ 2000000) (h0 : 0 ≤ k0) (h1 : k0 ≤ 100000000) :
    Calls Try.prog 14 #[v, .int .i64 k0] w fun r w' => r = .returned (.int .i64 (k0 + zs.length)) ∧ Below base w w' ∧ Mk w' v zs.length k0 := by
  rcases h.2 with ⟨rfl, h2⟩ | ⟨g, cap, cur, rfl, h2, h3, h4, _, h5, _⟩
  · refine (markInt_nil none 0 k0 w).mono ?_
    rintro r w' ⟨rfl, rfl⟩
    exact ⟨by rw [h2]; simp, Below.refl _ _, none, 0, by rw [h2], Or.inl h2⟩
  · refine (markIntS_any g zs.length cap k0 w ⟨cur, _, h3, by omega⟩ hn h0 h1).mono ?_
    rintro r w' ⟨rfl, ht, hw, hc⟩
    exact ⟨rfl, ht.below h2, _, cap, rfl, Or.inr ⟨g, rfl, hw.lt, hc⟩⟩
theorem heldInt_own {w : World} {v : Value} {n : Nat} (k0 : Int) (h : Mk w v n k0) (hn : n ≤ 2000000) (h0 : 0 ≤ k0) (h1 : k0 ≤ 100000000) :
    Calls Try.prog 16 #[v, .int .i64 k0] w fun r w' => r = .returned (.int .i64 (k0 + n)) ∧ w' = w := by
  obtain ⟨a, cap, rfl, h | ⟨g, rfl, hg, h⟩⟩ := h
  · subst h
    refine (heldInt_nil a cap k0 w).mono ?_
    rintro r w' ⟨rfl, rfl⟩
    exact ⟨by simp, rfl⟩
  · exact heldIntS_any g n cap k0 w h hn h0 h1
theorem OwnI.touch {w w' : World} {base g : Nat} {v : Value} {zs : List Int} (h : OwnI w base v zs) (ht : Touch g w w') (hg : g < base) : OwnI w' base v zs := by
  refine ⟨h.1, h.2.imp id ?_⟩
  rintro ⟨b, cap, cur, h1, h2, h3, h4⟩
  exact ⟨b, cap, cur, h1, h2, (ht.block b (by omega)).trans h3, h4⟩

end Go.Proofs.Ythgglnjjbpjonaa
