/-
  Who a new service, a new user, or a bad user is, drawn: a small number.
-/
import Derived.Test.YtaokgbdddgoonaaDrawSeal
namespace Go.Proofs.Ytaokgbdddgoonaa
open Go.RowKit
attribute [local go_sem ↓] Go.wp_at_zero Go.wp_at_succ

set_option maxHeartbeats 1000000 in
set_option maxRecDepth 100000 in
theorem drawServNew_any (a : Option Addr) (len cap : Nat) (w : World) (h : Code w a len cap) :
    Calls Try.prog 5 #[.slice a len cap] w fun r w' => (∃ v : Int, 0 ≤ v ∧ v < 5 ∧ r = .returned (.int .i64 (v + 2))) ∧ Below w.heap.size w w' := by
  have HC : Hid (Code w a len cap) := h
  clear h
  go_enter Try.func5, Try.ntmps5
  go_wp2_with fail
  refine (l6Open_any a len cap _ HC.out).mono ?_
  rintro r w1 ⟨rfl, ⟨sv, L, R1⟩, b1⟩
  have H1 : Hid (Rd w1 w.heap.size sv L 0 ∧ Below w.heap.size w w1) := ⟨R1, b1⟩
  clear R1 b1 HC
  go_wp2_with fail
  refine (pick_any 5 (by omega) _ sv L 0 _ H1.out.1 (by omega) (by omega)).mono ?_
  rintro r w2 ⟨⟨v, v0, v1, rfl⟩, R2, G2⟩
  have H2 : Hid (Below w.heap.size w w2) := H1.out.2.trans (G2.grew.below (Nat.le_refl _) H1.out.2.size)
  clear R2 G2 H1
  have hw : wrap64 (v + 2) = v + 2 := by unfold wrap64; omega
  go_wp2_with fail
  go_ret
  exact ⟨⟨v, v0, v1, by simp⟩, H2.out⟩
set_option maxHeartbeats 1000000 in
set_option maxRecDepth 100000 in
theorem drawClientNew_any (a : Option Addr) (len cap : Nat) (w : World) (h : Code w a len cap) :
    Calls Try.prog 10 #[.slice a len cap] w fun r w' => (∃ v : Int, 0 ≤ v ∧ v < 6 ∧ r = .returned (.int .i64 (v - 1))) ∧ Below w.heap.size w w' := by
  have HC : Hid (Code w a len cap) := h
  clear h
  go_enter Try.func10, Try.ntmps10
  go_wp2_with fail
  refine (l6Open_any a len cap _ HC.out).mono ?_
  rintro r w1 ⟨rfl, ⟨sv, L, R1⟩, b1⟩
  have H1 : Hid (Rd w1 w.heap.size sv L 0 ∧ Below w.heap.size w w1) := ⟨R1, b1⟩
  clear R1 b1 HC
  go_wp2_with fail
  refine (pick_any 6 (by omega) _ sv L 0 _ H1.out.1 (by omega) (by omega)).mono ?_
  rintro r w2 ⟨⟨v, v0, v1, rfl⟩, R2, G2⟩
  have H2 : Hid (Below w.heap.size w w2) := H1.out.2.trans (G2.grew.below (Nat.le_refl _) H1.out.2.size)
  clear R2 G2 H1
  have hw : wrap64 (v - 1) = v - 1 := by unfold wrap64; omega
  go_wp2_with fail
  go_ret
  exact ⟨⟨v, v0, v1, by simp⟩, H2.out⟩
end Go.Proofs.Ytaokgbdddgoonaa
