/-
  A seal is drawn from a list of bytes: seven numbers; nothing that was there is turned.
-/
import Derived.Test.YtimmfabaogeanaaDoorDrawSeal
namespace Go.Proofs.YtimmfabaogeanaaDoor
open Go.RowKit

set_option maxHeartbeats 1000000 in
/-- A seal is drawn from a list of bytes: seven numbers; nothing that was there is turned. -/
theorem drawSealText_any (a : Option Addr) (len cap : Nat) (w : World) (h : Code w a len cap) :
    Calls Tryd.prog 5 #[.slice a len cap] w fun r w' => (∃ k t a b c d e : Int, r = .returned (.agg #[.int .i64 k, .int .i64 t, .int .i64 a, .int .i64 b, .int .i64 c, .int .i64 d, .int .i64 e])) ∧ Below w.heap.size w w' := by
  have HC : Hid (Code w a len cap) := h
  clear h
  go_enter Tryd.func5, Tryd.ntmps5
  go_wp2_with fail
  refine (l6Open_any a len cap _ (HC.out.below ((Below.refl _ _).alloc (Nat.le_refl _) _))).mono ?_
  rintro e1 w1 ⟨rfl, ⟨sv, L, R1⟩, b1⟩
  have hz1 : w.heap.size < w1.heap.size := by have := b1.size; simp at this; omega
  have c1 : w1.heap[w.heap.size]? = some (.cells #[.int .i64 0, .int .i64 0, .int .i64 0, .int .i64 0, .int .i64 0, .int .i64 0, .int .i64 0] 28 (0, 0)) := (b1.block _ (by simp)).trans (heap_alloc_new w _)
  have H1 : Hid (Rd w1 (w.heap.size + 1) sv L 0 ∧ Below w.heap.size w w1 ∧ w1.heap[w.heap.size]? = some (.cells #[.int .i64 0, .int .i64 0, .int .i64 0, .int .i64 0, .int .i64 0, .int .i64 0, .int .i64 0] 28 (0, 0))) := ⟨by simpa using R1, ((Below.refl _ _).alloc (Nat.le_refl _) _).trans (b1.mono (by simp)), c1⟩
  clear R1 b1 c1 HC
  go_wp2_with fail
  refine (l71Seal_any _ sv L 0 _ H1.out.1 (by omega) (by omega)).mono ?_
  rintro e2 w2 ⟨⟨k, t, a', b, c, d, e, rfl⟩, q, q0, q1, R2, G2⟩
  have c2 : w2.heap[w.heap.size]? = some (.cells #[.int .i64 0, .int .i64 0, .int .i64 0, .int .i64 0, .int .i64 0, .int .i64 0, .int .i64 0] 28 (0, 0)) := (G2.block _ hz1 (by omega)).trans H1.out.2.2
  have B2 : Hid (Below w.heap.size w w2) := H1.out.2.1.trans (G2.below (by omega) (by omega))
  clear R2 G2 H1
  obtain ⟨z0, z1, z2, z3, z4, z5, z6, zf⟩ := cells7 c2
  clear c2
  go_wp2
  exact bodyPost_ret (v := .agg #[_, _, _, _, _, _, _]) (by simp [results, Tryd.results5, go_sem, z0, z1, z2, z3, z4, z5, z6]; exact ⟨rfl, rfl, rfl, rfl, rfl, rfl, rfl⟩) rfl ⟨⟨_, _, _, _, _, _, _, rfl⟩, ((((((B2.out.setCell (Nat.le_refl _) _).setCell (Nat.le_refl _) _).setCell (Nat.le_refl _) _).setCell (Nat.le_refl _) _).setCell (Nat.le_refl _) _).setCell (Nat.le_refl _) _).setCell (Nat.le_refl _) _⟩

end Go.Proofs.YtimmfabaogeanaaDoor
