/-
  What a user shows: his ticket, and what he tells of himself: a new row of two seals.
-/
import Derived.Test.YtaokgbdddgoonaaClCopy
namespace Go.Proofs.Ytaokgbdddgoonaa
open Go.RowKit
attribute [local go_sem ↓] Go.wp_at_zero Go.wp_at_succ

/-- Two seals in a new block. -/
theorem OwnS.two (w : World) {B : Nat} (hB : B ≤ w.heap.size) (s u : Sl) : OwnS (w.alloc (.cells #[.int .i64 s.k, .int .i64 s.t, .int .i64 s.a, .int .i64 s.b, .int .i64 s.c, .int .i64 s.d, .int .i64 s.e, .int .i64 u.k, .int .i64 u.t, .int .i64 u.a, .int .i64 u.b, .int .i64 u.c, .int .i64 u.d, .int .i64 u.e] 56)) B (.slice (some ⟨w.heap.size, 0, none⟩) 2 2) [s, u] :=
  ⟨by simp [cellsL, Sl.cs], Or.inr ⟨w.heap.size, 2, _, rfl, hB, heap_alloc_new _ _, Nat.le_refl _, by decide, by simp, by simp [cellsL, Sl.cs]⟩⟩
/-- What a user tells of himself. -/
def authS (k u now num : Int) : Sl := ⟨k, 3, u, now, num, 0, 0⟩
set_option maxHeartbeats 1000000 in
set_option maxRecDepth 100000 in
theorem showCred_any (x : Cd) (u now num : Int) (w : World) : Calls Try.prog 30 #[x.v, .int .i64 u, .int .i64 now, .int .i64 num] w fun r w' => ∃ g, r = .returned (.slice (some ⟨g, 0, none⟩) 2 2) ∧ OwnS w' w.heap.size (.slice (some ⟨g, 0, none⟩) 2 2) [x.x, authS x.k u now num] ∧ Below w.heap.size w w' := by
  unfold Cd.v
  have HO : Hid (∀ W : World, w.heap.size ≤ W.heap.size → OwnS (W.alloc (.cells #[.int .i64 x.x.k, .int .i64 x.x.t, .int .i64 x.x.a, .int .i64 x.x.b, .int .i64 x.x.c, .int .i64 x.x.d, .int .i64 x.x.e, .int .i64 x.k, .int .i64 3, .int .i64 u, .int .i64 now, .int .i64 num, .int .i64 0, .int .i64 0] 56)) w.heap.size (.slice (some ⟨W.heap.size, 0, none⟩) 2 2) [x.x, authS x.k u now num]) := fun W h => OwnS.two W h x.x (authS x.k u now num)
  go_enter Try.func30, Try.ntmps30
  go_wp2_with fail
  go_ret
  refine ⟨w.heap.size + 1, rfl, ?_, ?_⟩
  · have e := HO.out (w.alloc (.cells #[.int .i64 x.s, .int .i64 x.k, .int .i64 x.u, .int .i64 x.x.k, .int .i64 x.x.t, .int .i64 x.x.a, .int .i64 x.x.b, .int .i64 x.x.c, .int .i64 x.x.d, .int .i64 x.x.e] 58)) (by simp)
    rw [World.size_alloc] at e
    exact e
  · exact (Below.alloc_ _ _).trans ((Below.alloc_ _ _).mono (by simp))
end Go.Proofs.Ytaokgbdddgoonaa
