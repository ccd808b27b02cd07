/-
  The laws' own marks in rows of seals.
-/
import Derived.Test.YtopikapamfmalaaGreatDoorTouch
import Derived.Test.YtopikapamfmalaaGreatDoorPut7
namespace Go.Proofs.YtopikapamfmalaaGreatDoor
open Go.RowKit
attribute [local go_sem ↓] Go.wp_at_zero Go.wp_at_succ

theorem marks7 {w : World} {g j : Nat} {k0 : Int} {s : Sl} (hc : ∀ q, q < 7 → ∃ u, w.cell? ⟨g, j * 7 + q, none⟩ = some u) (hb : ∀ i, i < j * 7 → w.cell? ⟨g, i, none⟩ = some (.int .i64 (k0 + i)))
    (h0 : s.k = k0 + (j * 7 : Nat)) (h1 : s.t = k0 + (j * 7 + 1 : Nat)) (h2 : s.a = k0 + (j * 7 + 2 : Nat)) (h3 : s.b = k0 + (j * 7 + 3 : Nat)) (h4 : s.c = k0 + (j * 7 + 4 : Nat)) (h5 : s.d = k0 + (j * 7 + 5 : Nat)) (h6 : s.e = k0 + (j * 7 + 6 : Nat)) :
    ∀ i, i < (j + 1) * 7 → (put7 w g (j * 7) s).cell? ⟨g, i, none⟩ = some (.int .i64 (k0 + i)) := by
  intro i hi
  have hat := put7_at (s := s) hc
  by_cases hi7 : i < j * 7
  · exact (put7_else (by omega)).trans (hb i hi7)
  · rcases (by omega : i = j * 7 ∨ i = j * 7 + 1 ∨ i = j * 7 + 2 ∨ i = j * 7 + 3 ∨ i = j * 7 + 4 ∨ i = j * 7 + 5 ∨ i = j * 7 + 6) with h | h | h | h | h | h | h
    · rw [h, hat.c0, h0]
    · rw [h, hat.c1, h1]
    · rw [h, hat.c2, h2]
    · rw [h, hat.c3, h3]
    · rw [h, hat.c4, h4]
    · rw [h, hat.c5, h5]
    · rw [h, hat.c6, h6]

set_option maxRecDepth 100000 in
set_option maxHeartbeats 2000000 in
theorem markSealS_any (g n cap : Nat) (k0 : Int) (w : World) (h : WB w g (n * 7)) (hn : n ≤ 2000000) (h0 : 0 ≤ k0) (h1 : k0 ≤ 100000000) :
    Calls Tryz.prog 22 #[.slice (some ⟨g, 0, none⟩) n cap, .int .i64 k0] w fun r w' => r = .returned (.int .i64 (k0 + 7 * n)) ∧ Touch g w w' ∧ WB w' g (n * 7) ∧ ∀ i, i < n * 7 → w'.cell? ⟨g, i, none⟩ = some (.int .i64 (k0 + i)) := by
  go_enter Tryz.func22, Tryz.ntmps22
  go_wp2_with fail
  go_loopw [1, 5] (fun k i wr => ∃ (j : Nat), j ≤ n ∧ i = .int .i64 j ∧ k = .int .i64 (k0 + 7 * j) ∧ Hid (Touch g w wr ∧ WB wr g (n * 7) ∧ ∀ i, i < j * 7 → wr.cell? ⟨g, i, none⟩ = some (.int .i64 (k0 + i)))) (fun _ i _ => n - (intOf i).toNat)
  case atStart => exact ⟨0, Nat.zero_le _, rfl, by simp, Touch.refl _ _, h, fun i hi => by omega⟩
  case round =>
    obtain ⟨j, hj, rfl, rfl, C⟩ := hrel
    by_cases hlt : j < n
    · obtain ⟨K, hK⟩ : ∃ K : Int, K = k0 + 7 * j := ⟨_, rfl⟩
      have hall := marks7 (w := wr) (g := g) (j := j) (k0 := k0) (s := ⟨K, K + 1, K + 1 + 1, K + 1 + 1 + 1, K + 1 + 1 + 1 + 1, K + 1 + 1 + 1 + 1 + 1, K + 1 + 1 + 1 + 1 + 1 + 1⟩) (fun q hq => (C.out.2.1.cell (by omega)).1) C.out.2.2 (by dsimp only; omega) (by dsimp only; omega) (by dsimp only; omega) (by dsimp only; omega) (by dsimp only; omega) (by dsimp only; omega) (by dsimp only; omega)
      unfold put7 at hall
      dsimp only at hall
      have HA := Hid.mk' hall
      clear hall
      obtain ⟨⟨v0, d0⟩, f0⟩ := C.out.2.1.cell (o := j * 7) (by omega)
      obtain ⟨⟨v1, d1⟩, f1⟩ := C.out.2.1.cell (o := j * 7 + 1) (by omega)
      obtain ⟨⟨v2, d2⟩, f2⟩ := C.out.2.1.cell (o := j * 7 + 2) (by omega)
      obtain ⟨⟨v3, d3⟩, f3⟩ := C.out.2.1.cell (o := j * 7 + 3) (by omega)
      obtain ⟨⟨v4, d4⟩, f4⟩ := C.out.2.1.cell (o := j * 7 + 4) (by omega)
      obtain ⟨⟨v5, d5⟩, f5⟩ := C.out.2.1.cell (o := j * 7 + 5) (by omega)
      obtain ⟨⟨v6, d6⟩, f6⟩ := C.out.2.1.cell (o := j * 7 + 6) (by omega)
      rw [← hK]
      have w1 : IntKind.i64.wrap (K + 1) = K + 1 := wrapM (by omega) (by omega)
      have w2 : IntKind.i64.wrap (K + 1 + 1) = K + 1 + 1 := wrapM (by omega) (by omega)
      have w3 : IntKind.i64.wrap (K + 1 + 1 + 1) = K + 1 + 1 + 1 := wrapM (by omega) (by omega)
      have w4 : IntKind.i64.wrap (K + 1 + 1 + 1 + 1) = K + 1 + 1 + 1 + 1 := wrapM (by omega) (by omega)
      have w5 : IntKind.i64.wrap (K + 1 + 1 + 1 + 1 + 1) = K + 1 + 1 + 1 + 1 + 1 := wrapM (by omega) (by omega)
      have w6 : IntKind.i64.wrap (K + 1 + 1 + 1 + 1 + 1 + 1) = K + 1 + 1 + 1 + 1 + 1 + 1 := wrapM (by omega) (by omega)
      have w7 : IntKind.i64.wrap (K + 1 + 1 + 1 + 1 + 1 + 1 + 1) = K + 1 + 1 + 1 + 1 + 1 + 1 + 1 := wrapM (by omega) (by omega)
      go_wp2_with fail
      go_roundw
      case rel =>
        refine ⟨j + 1, by omega, by go_num, by first | (congr 1; omega) | (simp; omega), C.out.1.set.set.set.set.set.set.set, C.out.2.1.set.set.set.set.set.set.set, fun i hi => ?_⟩
        subst hK
        exact HA.out i hi
      case measure => simp [intOf]; omega
    · obtain rfl : j = n := by omega
      go_wp2_with fail
      go_ret
      exact ⟨rfl, C.out⟩

end Go.Proofs.YtopikapamfmalaaGreatDoor
