/-
  Marks in a row of seals of the call's own, nil or not: they are held there.
-/
import Derived.Test.YtopikapamfmalaaGreatDoorSealMk
import Derived.Test.YtopikapamfmalaaGreatDoorSOwn
namespace Go.Proofs.YtopikapamfmalaaGreatDoor
open Go.RowKit

set_option maxRecDepth 100000 in
theorem markSeal_nil (a : Option Addr) (cap : Nat) (k0 : Int) (w : World) :
    Calls Tryz.prog 22 #[.slice a 0 cap, .int .i64 k0] w fun r w' => r = .returned (.int .i64 k0) ∧ w' = w := by
  go_enter Tryz.func22, Tryz.ntmps22
  go_wp2_with fail
  refine wp_loop_rounds 1 ?_
  rw [rounds_succ]
  go_wp2_with fail
  go_ret
  exact ⟨rfl, rfl⟩
set_option maxRecDepth 100000 in
theorem heldSeal_nil (a : Option Addr) (cap : Nat) (k0 : Int) (w : World) :
    Calls Tryz.prog 23 #[.slice a 0 cap, .int .i64 k0] w fun r w' => r = .returned (.int .i64 k0) ∧ w' = w := by
  go_enter Tryz.func23, Tryz.ntmps23
  go_wp2_with fail
  refine wp_loop_rounds 1 ?_
  rw [rounds_succ]
  go_wp2_with fail
  go_ret
  exact ⟨rfl, rfl⟩

set_option maxRecDepth 100000 in
set_option maxHeartbeats 2000000 in
theorem heldSealS_any (g n cap : Nat) (k0 : Int) (w : World) (h : ∀ i, i < n * 7 → w.cell? ⟨g, i, none⟩ = some (.int .i64 (k0 + i))) (hn : n ≤ 2000000) (h0 : 0 ≤ k0) (h1 : k0 ≤ 100000000) :
    Calls Tryz.prog 23 #[.slice (some ⟨g, 0, none⟩) n cap, .int .i64 k0] w fun r w' => r = .returned (.int .i64 (k0 + 7 * n)) ∧ w' = w := by
  go_enter Tryz.func23, Tryz.ntmps23
  go_wp2_with fail
  go_loopw [1, 5] (fun k i wr => ∃ (j : Nat), j ≤ n ∧ i = .int .i64 j ∧ k = .int .i64 (k0 + 7 * j) ∧ Hid (wr = w)) (fun _ i _ => n - (intOf i).toNat)
  case atStart => exact ⟨0, Nat.zero_le _, rfl, by simp, rfl⟩
  case round =>
    obtain ⟨j, hj, rfl, rfl, C⟩ := hrel
    obtain rfl : wr = w := C.out
    by_cases hlt : j < n
    · obtain ⟨K, hK⟩ : ∃ K : Int, K = k0 + 7 * j := ⟨_, rfl⟩
      have d0 : wr.cell? ⟨g, j * 7, none⟩ = some (.int .i64 K) := (h (j * 7) (by omega)).trans (by congr 2; simp; omega)
      have d1 : wr.cell? ⟨g, j * 7 + 1, none⟩ = some (.int .i64 (K + 1)) := (h (j * 7 + 1) (by omega)).trans (by congr 2; simp; omega)
      have d2 : wr.cell? ⟨g, j * 7 + 2, none⟩ = some (.int .i64 (K + 1 + 1)) := (h (j * 7 + 2) (by omega)).trans (by congr 2; simp; omega)
      have d3 : wr.cell? ⟨g, j * 7 + 3, none⟩ = some (.int .i64 (K + 1 + 1 + 1)) := (h (j * 7 + 3) (by omega)).trans (by congr 2; simp; omega)
      have d4 : wr.cell? ⟨g, j * 7 + 4, none⟩ = some (.int .i64 (K + 1 + 1 + 1 + 1)) := (h (j * 7 + 4) (by omega)).trans (by congr 2; simp; omega)
      have d5 : wr.cell? ⟨g, j * 7 + 5, none⟩ = some (.int .i64 (K + 1 + 1 + 1 + 1 + 1)) := (h (j * 7 + 5) (by omega)).trans (by congr 2; simp; omega)
      have d6 : wr.cell? ⟨g, j * 7 + 6, none⟩ = some (.int .i64 (K + 1 + 1 + 1 + 1 + 1 + 1)) := (h (j * 7 + 6) (by omega)).trans (by congr 2; simp; omega)
      rw [← hK]
      have w1 : IntKind.i64.wrap (K + 1) = K + 1 := wrapM (by omega) (by omega)
      have w2 : IntKind.i64.wrap (K + 1 + 1) = K + 1 + 1 := wrapM (by omega) (by omega)
      have w3 : IntKind.i64.wrap (K + 1 + 1 + 1) = K + 1 + 1 + 1 := wrapM (by omega) (by omega)
      have w4 : IntKind.i64.wrap (K + 1 + 1 + 1 + 1) = K + 1 + 1 + 1 + 1 := wrapM (by omega) (by omega)
      have w5 : IntKind.i64.wrap (K + 1 + 1 + 1 + 1 + 1) = K + 1 + 1 + 1 + 1 + 1 := wrapM (by omega) (by omega)
      have w6 : IntKind.i64.wrap (K + 1 + 1 + 1 + 1 + 1 + 1) = K + 1 + 1 + 1 + 1 + 1 + 1 := wrapM (by omega) (by omega)
      have w7 : IntKind.i64.wrap (K + 1 + 1 + 1 + 1 + 1 + 1 + 1) = K + 1 + 1 + 1 + 1 + 1 + 1 + 1 := wrapM (by omega) (by omega)
      clear h
      go_wp2_with fail
      go_roundw
      case rel => exact ⟨j + 1, by omega, by go_num, by first | (congr 1; omega) | (simp; omega), by first | rfl | trivial⟩
      case measure => simp [intOf]; omega
    · obtain rfl : j = n := by omega
      clear h
      go_wp2_with fail
      go_ret
      exact ⟨rfl, rfl⟩

/-- The marks lie in the row. -/
def Mk7 (w : World) (v : Value) (n : Nat) (k0 : Int) : Prop := ∃ a cap, v = .slice a n cap ∧ (n = 0 ∨ ∃ g, a = some ⟨g, 0, none⟩ ∧ g < w.heap.size ∧ ∀ i, i < n * 7 → w.cell? ⟨g, i, none⟩ = some (.int .i64 (k0 + i)))
theorem Mk7.later {w w' : World} {v : Value} {n : Nat} {k0 : Int} (h : Mk7 w v n k0) (hb : Below w.heap.size w w') : Mk7 w' v n k0 := by
  obtain ⟨a, cap, rfl, h | ⟨g, rfl, hg, h⟩⟩ := h
  · exact ⟨a, cap, rfl, Or.inl h⟩
  · exact ⟨_, cap, rfl, Or.inr ⟨g, rfl, Nat.lt_of_lt_of_le hg hb.size, fun i hi => ((bcell hb).1 _ _ hg).trans (h i hi)⟩⟩
theorem markSeal_own {w : World} {base : Nat} {v : Value} {zs : List Sl} (k0 : Int) (h : OwnS w base v zs) (hn : zs.length ≤ 2000000) (h0 : 0 ≤ k0) (h1 : k0 ≤ 100000000) :
    Calls Tryz.prog 22 #[v, .int .i64 k0] w fun r w' => r = .returned (.int .i64 (k0 + 7 * zs.length)) ∧ Below base w w' ∧ Mk7 w' v zs.length k0 := by
  rcases h.2 with ⟨rfl, h2⟩ | ⟨g, cap, cur, rfl, h2, h3, h4, _, h5, _⟩
  · refine (markSeal_nil none 0 k0 w).mono ?_
    rintro r w' ⟨rfl, rfl⟩
    exact ⟨by rw [h2]; simp, Below.refl _ _, none, 0, by rw [h2], Or.inl h2⟩
  · refine (markSealS_any g zs.length cap k0 w ⟨cur, _, h3, by omega⟩ hn h0 h1).mono ?_
    rintro r w' ⟨rfl, ht, hw, hc⟩
    exact ⟨rfl, ht.below h2, _, cap, rfl, Or.inr ⟨g, rfl, hw.lt, hc⟩⟩
theorem heldSeal_own {w : World} {v : Value} {n : Nat} (k0 : Int) (h : Mk7 w v n k0) (hn : n ≤ 2000000) (h0 : 0 ≤ k0) (h1 : k0 ≤ 100000000) :
    Calls Tryz.prog 23 #[v, .int .i64 k0] w fun r w' => r = .returned (.int .i64 (k0 + 7 * n)) ∧ w' = w := by
  obtain ⟨a, cap, rfl, h | ⟨g, rfl, hg, h⟩⟩ := h
  · subst h
    refine (heldSeal_nil a cap k0 w).mono ?_
    rintro r w' ⟨rfl, rfl⟩
    exact ⟨by simp, rfl⟩
  · exact heldSealS_any g n cap k0 w h hn h0 h1
theorem OwnS.touch {w w' : World} {base g : Nat} {v : Value} {zs : List Sl} (h : OwnS w base v zs) (ht : Touch g w w') (hg : g < base) : OwnS w' base v zs := by
  refine ⟨h.1, h.2.imp id ?_⟩
  rintro ⟨b, cap, cur, h1, h2, h3, h4⟩
  exact ⟨b, cap, cur, h1, h2, (ht.block b (by omega)).trans h3, h4⟩

end Go.Proofs.YtopikapamfmalaaGreatDoor
