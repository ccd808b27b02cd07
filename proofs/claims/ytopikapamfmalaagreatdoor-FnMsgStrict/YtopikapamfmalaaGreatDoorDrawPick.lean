/-
  The drawing of a number: a reader in memory, its place moved on by one, the number that is drawn in its range; nothing else in memory is turned.
-/
import Derived.Test.YtopikapamfmalaaGreatDoorBaseJ
import Derived.Laws.BitsAllLaws
namespace Go.Proofs.YtopikapamfmalaaGreatDoor
open Go.RowKit

/-- All but one block is as it was. -/
structure Only (b : Nat) (w w' : World) : Prop where
  os : w'.os = w.os
  tape : w'.tape = w.tape
  output : w'.output = w.output
  size : w'.heap.size = w.heap.size
  block : ∀ k, k ≠ b → w'.heap[k]? = w.heap[k]?

/-- A reader: where its list and its place lie, and what the list holds. -/
structure Rd (w : World) (br : Nat) (sv : Value) (L : Nat) (p : Int) : Prop where
  list : w.cell? ⟨br, 0, none⟩ = some sv
  place : w.cell? ⟨br, 1, none⟩ = some (.int .i64 p)
  free : w.frozen? ⟨br, 1, none⟩ = false
  form : (L = 0 ∧ ∃ a c, sv = .slice a 0 c) ∨ (0 < L ∧ L ≤ 2000 ∧ ∃ cb off c, sv = .slice (some ⟨cb, off, none⟩) L c ∧ cb < br ∧ ∀ i, i < L → ∃ u : Int, 0 ≤ u ∧ u ≤ 255 ∧ w.cell? ⟨cb, off + i, none⟩ = some (.int .u8 u))

set_option maxHeartbeats 400000 in
set_option maxRecDepth 100000 in
theorem pick_none (n : Int) (br : Nat) (a : Option Addr) (c : Nat) (p : Int) (w : World) (hn : 1 ≤ n) (hp : 0 ≤ p) (hp2 : p ≤ 1000000) (h0 : w.cell? ⟨br, 0, none⟩ = some (.slice a 0 c)) (h1 : w.cell? ⟨br, 1, none⟩ = some (.int .i64 p)) (hf : w.frozen? ⟨br, 1, none⟩ = false) :
    Calls Tryz.prog 26 #[.pointer (some ⟨br, 0, none⟩), .int .i64 n] w fun e w' => e = .returned (.int .i64 0) ∧ w' = w.setCell ⟨br, 1, none⟩ (.int .i64 (p + 1)) := by
  go_enter Tryz.func26, Tryz.ntmps26
  go_wp2
  go_ret
  exact ⟨rfl, rfl⟩

set_option maxHeartbeats 400000 in
set_option maxRecDepth 100000 in
theorem pick_in (n : Int) (br cb off L c : Nat) (p u : Int) (w : World) (hn : 1 ≤ n) (hp : 0 ≤ p) (hL : p < L) (hL2 : L ≤ 2000) (h0 : w.cell? ⟨br, 0, none⟩ = some (.slice (some ⟨cb, off, none⟩) L c)) (h1 : w.cell? ⟨br, 1, none⟩ = some (.int .i64 p)) (hf : w.frozen? ⟨br, 1, none⟩ = false)
    (hcb : cb ≠ br) (hu : w.cell? ⟨cb, off + p.toNat, none⟩ = some (.int .u8 u)) (u0 : 0 ≤ u) (u1 : u ≤ 255) :
    Calls Tryz.prog 26 #[.pointer (some ⟨br, 0, none⟩), .int .i64 n] w fun e w' => e = .returned (.int .i64 (u % n)) ∧ w' = w.setCell ⟨br, 1, none⟩ (.int .i64 (p + 1)) := by
  have hz : ((L : Int) == 0) = false := by simp; omega
  go_enter Tryz.func26, Tryz.ntmps26
  go_wp2
  go_ret
  exact ⟨rfl, rfl⟩

theorem elsewhere {w : World} {b o b' o' : Nat} {v : Value} (h : b ≠ b' ∨ o ≠ o') : (w.setCell ⟨b, o, none⟩ v).cell? ⟨b', o', none⟩ = w.cell? ⟨b', o', none⟩ := by
  apply World.cell?_setCell_other
  intro e
  injection e with e1 e2
  rcases h with h | h
  · exact h e1
  · exact h e2

theorem wrapI {n : Int} (h0 : -1000000 ≤ n) (h1 : n ≤ 1000000000) : IntKind.i64.wrap n = n := by
  rcases Int.le_total 0 n with h | h
  · have e : n % 18446744073709551616 = n := Int.emod_eq_of_lt h (by omega)
    simp [IntKind.wrap, IntKind.bits, IntKind.signed, e]; omega
  · have e : n % 18446744073709551616 = n + 18446744073709551616 ∨ n = 0 := by omega
    rcases e with e | e
    · simp [IntKind.wrap, IntKind.bits, IntKind.signed, e]; omega
    · subst e; rfl

theorem xor_nonneg (x y : Int) (h1 : 0 ≤ x) (h2 : x ≤ 100000000) (h3 : 0 ≤ y) (h4 : y ≤ 100000000) : 0 ≤ bits .xor .i64 x y := by
  obtain ⟨a, rfl⟩ := Int.eq_ofNat_of_zero_le h1
  obtain ⟨b, rfl⟩ := Int.eq_ofNat_of_zero_le h3
  show 0 ≤ IntKind.i64.wrap ((BitVec.ofInt 64 (a : Int) ^^^ BitVec.ofInt 64 (b : Int)).toNat : Int)
  have hx : a ^^^ b < 2 ^ 27 := Nat.xor_lt_two_pow (by omega) (by omega)
  rw [BitVec.toNat_xor, ofInt_u64 a (by omega), ofInt_u64 b (by omega), wrapI (by omega) (by omega)]
  omega

set_option maxHeartbeats 1000000 in
set_option maxRecDepth 100000 in
theorem pick_far (n : Int) (br cb off L c i1 i2 : Nat) (p u1 u2 q : Int) (w : World) (hn : 1 ≤ n) (hp : 0 ≤ p) (hp2 : p ≤ 1000000) (hL : (L : Int) ≤ p) (hL2 : 0 < L) (h0 : w.cell? ⟨br, 0, none⟩ = some (.slice (some ⟨cb, off, none⟩) L c)) (h1 : w.cell? ⟨br, 1, none⟩ = some (.int .i64 p)) (hf : w.frozen? ⟨br, 1, none⟩ = false)
    (hcb : cb ≠ br) (k1 : i1 < L) (k2 : i2 < L) (e1 : p.tmod L = i1) (e2 : (p * 7 + 3).tmod L = i2) (e3 : p.tdiv L = q) (q0 : 0 ≤ q) (q1 : q ≤ 1000000)
    (hu1 : w.cell? ⟨cb, off + i1, none⟩ = some (.int .u8 u1)) (a0 : 0 ≤ u1) (a1 : u1 ≤ 255) (hu2 : w.cell? ⟨cb, off + i2, none⟩ = some (.int .u8 u2)) (b0 : 0 ≤ u2) (b1 : u2 ≤ 255) :
    Calls Tryz.prog 26 #[.pointer (some ⟨br, 0, none⟩), .int .i64 n] w fun e w' => (∃ v : Int, 0 ≤ v ∧ v < n ∧ e = .returned (.int .i64 v)) ∧ ∃ k, w' = (w.setCell ⟨br, 1, none⟩ (.int .i64 (p + 1))).drewN k := by
  have hz : ((L : Int) == 0) = false := by simp; omega
  have hlt : decide (p < (L : Int)) = false := by simp; omega
  have hL0 : ¬ L = 0 := by omega
  have r11 : IntKind.i64.wrap u1 = u1 := wrapI (by omega) (by omega)
  have r12 : IntKind.i64.wrap u2 = u2 := wrapI (by omega) (by omega)
  have hj1 : (i1 : Int) < (L : Int) := by omega
  have hj2 : (i2 : Int) < (L : Int) := by omega
  have hk1 : (0 : Int) ≤ (i1 : Int) := by omega
  have hk2 : (0 : Int) ≤ (i2 : Int) := by omega
  have r1 : IntKind.i64.wrap (u1 * 131) = u1 * 131 := wrapI (by omega) (by omega)
  have r2 : IntKind.i64.wrap (p * 7) = p * 7 := wrapI (by omega) (by omega)
  have r3 : IntKind.i64.wrap (p * 7 + 3) = p * 7 + 3 := wrapI (by omega) (by omega)
  have r4 : IntKind.i64.wrap (u2 * 1117) = u2 * 1117 := wrapI (by omega) (by omega)
  have r5 : IntKind.i64.wrap (u1 * 131 + u2 * 1117) = u1 * 131 + u2 * 1117 := wrapI (by omega) (by omega)
  have r6 : IntKind.i64.wrap (p * 29) = p * 29 := wrapI (by omega) (by omega)
  have r7 : IntKind.i64.wrap (u1 * 131 + u2 * 1117 + p * 29) = u1 * 131 + u2 * 1117 + p * 29 := wrapI (by omega) (by omega)
  have r8 : IntKind.i64.wrap q = q := wrapI (by omega) (by omega)
  have r9 : IntKind.i64.wrap (q * 53) = q * 53 := wrapI (by omega) (by omega)
  obtain ⟨X, hX⟩ : ∃ X, X = u1 * 131 + u2 * 1117 + p * 29 + q * 53 := ⟨_, rfl⟩
  have X0 : 0 ≤ X := by omega
  have X1 : X ≤ 100000000 := by omega
  have r10 : IntKind.i64.wrap (u1 * 131 + u2 * 1117 + p * 29 + q * 53) = X := by rw [wrapI (by omega) (by omega), hX]
  have s0 : (w.setCell ⟨br, 1, none⟩ (.int .i64 (p + 1))).cell? ⟨br, 0, none⟩ = some (.slice (some ⟨cb, off, none⟩) L c) := (elsewhere (Or.inr (by decide))).trans h0
  have s1 : (w.setCell ⟨br, 1, none⟩ (.int .i64 (p + 1))).cell? ⟨cb, off + i1, none⟩ = some (.int .u8 u1) := (elsewhere (Or.inl (Ne.symm hcb))).trans hu1
  have s2 : (w.setCell ⟨br, 1, none⟩ (.int .i64 (p + 1))).cell? ⟨cb, off + i2, none⟩ = some (.int .u8 u2) := (elsewhere (Or.inl (Ne.symm hcb))).trans hu2
  have HS : Hid ((w.setCell ⟨br, 1, none⟩ (.int .i64 (p + 1))).cell? ⟨br, 0, none⟩ = some (.slice (some ⟨cb, off, none⟩) L c) ∧ (w.setCell ⟨br, 1, none⟩ (.int .i64 (p + 1))).cell? ⟨cb, off + i1, none⟩ = some (.int .u8 u1) ∧ (w.setCell ⟨br, 1, none⟩ (.int .i64 (p + 1))).cell? ⟨cb, off + i2, none⟩ = some (.int .u8 u2)) := ⟨s0, s1, s2⟩
  clear hX s0 s1 s2 hu1 hu2
  go_enter Tryz.func26, Tryz.ntmps26
  go_wp2
  refine wp_region_held_drew (S := fun w' => w'.cell? ⟨br, 0, none⟩ = some (.slice (some ⟨cb, off, none⟩) L c) ∧ w'.cell? ⟨cb, off + i1, none⟩ = some (.int .u8 u1) ∧ w'.cell? ⟨cb, off + i2, none⟩ = some (.int .u8 u2)) (by kernel_rfl) HS.out (fun hS => ?_)
  refine take1 0 47 (.pointer (some ⟨br, 0, none⟩)) rfl rfl (by kernel_rfl) (by kernel_rfl) (by kernel_rfl) (by rfl) (fun _ _ _ h => h) hS (fun w' hS' => ?_) ?_
  · obtain ⟨q0, q1, q2⟩ := hS'; go_simp
  simp only [Act.put, List.setIfInBounds_toArray, List.set_cons_zero, List.set_cons_succ]
  refine take1 1 48 (.pointer (some ⟨br, 0, none⟩)) rfl rfl (by kernel_rfl) (by kernel_rfl) (by kernel_rfl) (by rfl) (fun _ _ _ h => h) hS (fun w' hS' => ?_) ?_
  · obtain ⟨q0, q1, q2⟩ := hS'; go_simp
  simp only [Act.put, List.setIfInBounds_toArray, List.set_cons_zero, List.set_cons_succ]
  refine take1 2 49 (.pointer (some ⟨br, 0, none⟩)) rfl rfl (by kernel_rfl) (by kernel_rfl) (by kernel_rfl) (by rfl) (fun _ _ _ h => h) hS (fun w' hS' => ?_) ?_
  · obtain ⟨q0, q1, q2⟩ := hS'; go_simp
  simp only [Act.put, List.setIfInBounds_toArray, List.set_cons_zero, List.set_cons_succ]
  refine take1 3 50 (.slice (some ⟨cb, off, none⟩) L c) rfl rfl (by kernel_rfl) (by kernel_rfl) (by kernel_rfl) (by rfl) (fun _ _ _ h => h) hS (fun w' hS' => ?_) ?_
  · obtain ⟨q0, q1, q2⟩ := hS'; go_simp
  simp only [Act.put, List.setIfInBounds_toArray, List.set_cons_zero, List.set_cons_succ]
  refine take1 4 51 (.int .i64 p) rfl rfl (by kernel_rfl) (by kernel_rfl) (by kernel_rfl) (by rfl) (fun _ _ _ h => h) hS (fun w' hS' => ?_) ?_
  · obtain ⟨q0, q1, q2⟩ := hS'; go_simp
  simp only [Act.put, List.setIfInBounds_toArray, List.set_cons_zero, List.set_cons_succ]
  refine take1 5 52 (.pointer (some ⟨br, 0, none⟩)) rfl rfl (by kernel_rfl) (by kernel_rfl) (by kernel_rfl) (by rfl) (fun _ _ _ h => h) hS (fun w' hS' => ?_) ?_
  · obtain ⟨q0, q1, q2⟩ := hS'; go_simp
  simp only [Act.put, List.setIfInBounds_toArray, List.set_cons_zero, List.set_cons_succ]
  refine take1 6 53 (.pointer (some ⟨br, 0, none⟩)) rfl rfl (by kernel_rfl) (by kernel_rfl) (by kernel_rfl) (by rfl) (fun _ _ _ h => h) hS (fun w' hS' => ?_) ?_
  · obtain ⟨q0, q1, q2⟩ := hS'; go_simp
  simp only [Act.put, List.setIfInBounds_toArray, List.set_cons_zero, List.set_cons_succ]
  refine take1 7 54 (.pointer (some ⟨br, 0, none⟩)) rfl rfl (by kernel_rfl) (by kernel_rfl) (by kernel_rfl) (by rfl) (fun _ _ _ h => h) hS (fun w' hS' => ?_) ?_
  · obtain ⟨q0, q1, q2⟩ := hS'; go_simp
  simp only [Act.put, List.setIfInBounds_toArray, List.set_cons_zero, List.set_cons_succ]
  refine take1 8 55 (.slice (some ⟨cb, off, none⟩) L c) rfl rfl (by kernel_rfl) (by kernel_rfl) (by kernel_rfl) (by rfl) (fun _ _ _ h => h) hS (fun w' hS' => ?_) ?_
  · obtain ⟨q0, q1, q2⟩ := hS'; go_simp
  simp only [Act.put, List.setIfInBounds_toArray, List.set_cons_zero, List.set_cons_succ]
  refine take1 9 56 (.int .i64 (L : Int)) rfl rfl (by kernel_rfl) (by kernel_rfl) (by kernel_rfl) (by rfl) (fun _ _ _ h => h) hS (fun w' hS' => ?_) ?_
  · obtain ⟨q0, q1, q2⟩ := hS'; go_simp
  simp only [Act.put, List.setIfInBounds_toArray, List.set_cons_zero, List.set_cons_succ]
  refine take1 10 57 (.int .i64 (i1 : Int)) rfl rfl (by kernel_rfl) (by kernel_rfl) (by kernel_rfl) (by rfl) (fun _ _ _ h => h) hS (fun w' hS' => ?_) ?_
  · obtain ⟨q0, q1, q2⟩ := hS'; go_simp
  simp only [Act.put, List.setIfInBounds_toArray, List.set_cons_zero, List.set_cons_succ]
  refine take1 11 58 (.pointer (some ⟨cb, off + i1, none⟩)) rfl rfl (by kernel_rfl) (by kernel_rfl) (by kernel_rfl) (by rfl) (fun _ _ _ h => h) hS (fun w' hS' => ?_) ?_
  · obtain ⟨q0, q1, q2⟩ := hS'; go_simp
  simp only [Act.put, List.setIfInBounds_toArray, List.set_cons_zero, List.set_cons_succ]
  refine take1 12 59 (.int .u8 u1) rfl rfl (by kernel_rfl) (by kernel_rfl) (by kernel_rfl) (by rfl) (fun _ _ _ h => h) hS (fun w' hS' => ?_) ?_
  · obtain ⟨q0, q1, q2⟩ := hS'; go_simp
  simp only [Act.put, List.setIfInBounds_toArray, List.set_cons_zero, List.set_cons_succ]
  refine take1 13 60 (.int .i64 u1) rfl rfl (by kernel_rfl) (by kernel_rfl) (by kernel_rfl) (by rfl) (fun _ _ _ h => h) hS (fun w' hS' => ?_) ?_
  · obtain ⟨q0, q1, q2⟩ := hS'; go_simp
  simp only [Act.put, List.setIfInBounds_toArray, List.set_cons_zero, List.set_cons_succ]
  refine take1 14 61 (.int .i64 (u1 * 131)) rfl rfl (by kernel_rfl) (by kernel_rfl) (by kernel_rfl) (by rfl) (fun _ _ _ h => h) hS (fun w' hS' => ?_) ?_
  · obtain ⟨q0, q1, q2⟩ := hS'; go_simp
  simp only [Act.put, List.setIfInBounds_toArray, List.set_cons_zero, List.set_cons_succ]
  refine take1 15 62 (.pointer (some ⟨br, 0, none⟩)) rfl rfl (by kernel_rfl) (by kernel_rfl) (by kernel_rfl) (by rfl) (fun _ _ _ h => h) hS (fun w' hS' => ?_) ?_
  · obtain ⟨q0, q1, q2⟩ := hS'; go_simp
  simp only [Act.put, List.setIfInBounds_toArray, List.set_cons_zero, List.set_cons_succ]
  refine take1 16 63 (.pointer (some ⟨br, 0, none⟩)) rfl rfl (by kernel_rfl) (by kernel_rfl) (by kernel_rfl) (by rfl) (fun _ _ _ h => h) hS (fun w' hS' => ?_) ?_
  · obtain ⟨q0, q1, q2⟩ := hS'; go_simp
  simp only [Act.put, List.setIfInBounds_toArray, List.set_cons_zero, List.set_cons_succ]
  refine take1 17 64 (.pointer (some ⟨br, 0, none⟩)) rfl rfl (by kernel_rfl) (by kernel_rfl) (by kernel_rfl) (by rfl) (fun _ _ _ h => h) hS (fun w' hS' => ?_) ?_
  · obtain ⟨q0, q1, q2⟩ := hS'; go_simp
  simp only [Act.put, List.setIfInBounds_toArray, List.set_cons_zero, List.set_cons_succ]
  refine take1 18 65 (.slice (some ⟨cb, off, none⟩) L c) rfl rfl (by kernel_rfl) (by kernel_rfl) (by kernel_rfl) (by rfl) (fun _ _ _ h => h) hS (fun w' hS' => ?_) ?_
  · obtain ⟨q0, q1, q2⟩ := hS'; go_simp
  simp only [Act.put, List.setIfInBounds_toArray, List.set_cons_zero, List.set_cons_succ]
  refine take1 19 66 (.int .i64 p) rfl rfl (by kernel_rfl) (by kernel_rfl) (by kernel_rfl) (by rfl) (fun _ _ _ h => h) hS (fun w' hS' => ?_) ?_
  · obtain ⟨q0, q1, q2⟩ := hS'; go_simp
  simp only [Act.put, List.setIfInBounds_toArray, List.set_cons_zero, List.set_cons_succ]
  refine take1 20 67 (.int .i64 (p * 7)) rfl rfl (by kernel_rfl) (by kernel_rfl) (by kernel_rfl) (by rfl) (fun _ _ _ h => h) hS (fun w' hS' => ?_) ?_
  · obtain ⟨q0, q1, q2⟩ := hS'; go_simp
  simp only [Act.put, List.setIfInBounds_toArray, List.set_cons_zero, List.set_cons_succ]
  refine take1 21 68 (.int .i64 (p * 7 + 3)) rfl rfl (by kernel_rfl) (by kernel_rfl) (by kernel_rfl) (by rfl) (fun _ _ _ h => h) hS (fun w' hS' => ?_) ?_
  · obtain ⟨q0, q1, q2⟩ := hS'; go_simp
  simp only [Act.put, List.setIfInBounds_toArray, List.set_cons_zero, List.set_cons_succ]
  refine take1 22 69 (.pointer (some ⟨br, 0, none⟩)) rfl rfl (by kernel_rfl) (by kernel_rfl) (by kernel_rfl) (by rfl) (fun _ _ _ h => h) hS (fun w' hS' => ?_) ?_
  · obtain ⟨q0, q1, q2⟩ := hS'; go_simp
  simp only [Act.put, List.setIfInBounds_toArray, List.set_cons_zero, List.set_cons_succ]
  refine take1 23 70 (.pointer (some ⟨br, 0, none⟩)) rfl rfl (by kernel_rfl) (by kernel_rfl) (by kernel_rfl) (by rfl) (fun _ _ _ h => h) hS (fun w' hS' => ?_) ?_
  · obtain ⟨q0, q1, q2⟩ := hS'; go_simp
  simp only [Act.put, List.setIfInBounds_toArray, List.set_cons_zero, List.set_cons_succ]
  refine take1 24 71 (.pointer (some ⟨br, 0, none⟩)) rfl rfl (by kernel_rfl) (by kernel_rfl) (by kernel_rfl) (by rfl) (fun _ _ _ h => h) hS (fun w' hS' => ?_) ?_
  · obtain ⟨q0, q1, q2⟩ := hS'; go_simp
  simp only [Act.put, List.setIfInBounds_toArray, List.set_cons_zero, List.set_cons_succ]
  refine take1 25 72 (.slice (some ⟨cb, off, none⟩) L c) rfl rfl (by kernel_rfl) (by kernel_rfl) (by kernel_rfl) (by rfl) (fun _ _ _ h => h) hS (fun w' hS' => ?_) ?_
  · obtain ⟨q0, q1, q2⟩ := hS'; go_simp
  simp only [Act.put, List.setIfInBounds_toArray, List.set_cons_zero, List.set_cons_succ]
  refine take1 26 73 (.int .i64 (L : Int)) rfl rfl (by kernel_rfl) (by kernel_rfl) (by kernel_rfl) (by rfl) (fun _ _ _ h => h) hS (fun w' hS' => ?_) ?_
  · obtain ⟨q0, q1, q2⟩ := hS'; go_simp
  simp only [Act.put, List.setIfInBounds_toArray, List.set_cons_zero, List.set_cons_succ]
  refine take1 27 74 (.int .i64 (i2 : Int)) rfl rfl (by kernel_rfl) (by kernel_rfl) (by kernel_rfl) (by rfl) (fun _ _ _ h => h) hS (fun w' hS' => ?_) ?_
  · obtain ⟨q0, q1, q2⟩ := hS'; go_simp
  simp only [Act.put, List.setIfInBounds_toArray, List.set_cons_zero, List.set_cons_succ]
  refine take1 28 75 (.pointer (some ⟨cb, off + i2, none⟩)) rfl rfl (by kernel_rfl) (by kernel_rfl) (by kernel_rfl) (by rfl) (fun _ _ _ h => h) hS (fun w' hS' => ?_) ?_
  · obtain ⟨q0, q1, q2⟩ := hS'; go_simp
  simp only [Act.put, List.setIfInBounds_toArray, List.set_cons_zero, List.set_cons_succ]
  refine take1 29 76 (.int .u8 u2) rfl rfl (by kernel_rfl) (by kernel_rfl) (by kernel_rfl) (by rfl) (fun _ _ _ h => h) hS (fun w' hS' => ?_) ?_
  · obtain ⟨q0, q1, q2⟩ := hS'; go_simp
  simp only [Act.put, List.setIfInBounds_toArray, List.set_cons_zero, List.set_cons_succ]
  refine take1 30 77 (.int .i64 u2) rfl rfl (by kernel_rfl) (by kernel_rfl) (by kernel_rfl) (by rfl) (fun _ _ _ h => h) hS (fun w' hS' => ?_) ?_
  · obtain ⟨q0, q1, q2⟩ := hS'; go_simp
  simp only [Act.put, List.setIfInBounds_toArray, List.set_cons_zero, List.set_cons_succ]
  refine take1 31 78 (.int .i64 (u2 * 1117)) rfl rfl (by kernel_rfl) (by kernel_rfl) (by kernel_rfl) (by rfl) (fun _ _ _ h => h) hS (fun w' hS' => ?_) ?_
  · obtain ⟨q0, q1, q2⟩ := hS'; go_simp
  simp only [Act.put, List.setIfInBounds_toArray, List.set_cons_zero, List.set_cons_succ]
  refine take1 32 79 (.int .i64 (u1 * 131 + u2 * 1117)) rfl rfl (by kernel_rfl) (by kernel_rfl) (by kernel_rfl) (by rfl) (fun _ _ _ h => h) hS (fun w' hS' => ?_) ?_
  · obtain ⟨q0, q1, q2⟩ := hS'; go_simp
  simp only [Act.put, List.setIfInBounds_toArray, List.set_cons_zero, List.set_cons_succ]
  refine take1 33 80 (.int .i64 p) rfl rfl (by kernel_rfl) (by kernel_rfl) (by kernel_rfl) (by rfl) (fun _ _ _ h => h) hS (fun w' hS' => ?_) ?_
  · obtain ⟨q0, q1, q2⟩ := hS'; go_simp
  simp only [Act.put, List.setIfInBounds_toArray, List.set_cons_zero, List.set_cons_succ]
  refine take1 34 81 (.int .i64 (p * 29)) rfl rfl (by kernel_rfl) (by kernel_rfl) (by kernel_rfl) (by rfl) (fun _ _ _ h => h) hS (fun w' hS' => ?_) ?_
  · obtain ⟨q0, q1, q2⟩ := hS'; go_simp
  simp only [Act.put, List.setIfInBounds_toArray, List.set_cons_zero, List.set_cons_succ]
  refine take1 35 82 (.int .i64 (u1 * 131 + u2 * 1117 + p * 29)) rfl rfl (by kernel_rfl) (by kernel_rfl) (by kernel_rfl) (by rfl) (fun _ _ _ h => h) hS (fun w' hS' => ?_) ?_
  · obtain ⟨q0, q1, q2⟩ := hS'; go_simp
  simp only [Act.put, List.setIfInBounds_toArray, List.set_cons_zero, List.set_cons_succ]
  refine take1 36 83 (.int .i64 p) rfl rfl (by kernel_rfl) (by kernel_rfl) (by kernel_rfl) (by rfl) (fun _ _ _ h => h) hS (fun w' hS' => ?_) ?_
  · obtain ⟨q0, q1, q2⟩ := hS'; go_simp
  simp only [Act.put, List.setIfInBounds_toArray, List.set_cons_zero, List.set_cons_succ]
  refine take1 37 84 (.pointer (some ⟨br, 0, none⟩)) rfl rfl (by kernel_rfl) (by kernel_rfl) (by kernel_rfl) (by rfl) (fun _ _ _ h => h) hS (fun w' hS' => ?_) ?_
  · obtain ⟨q0, q1, q2⟩ := hS'; go_simp
  simp only [Act.put, List.setIfInBounds_toArray, List.set_cons_zero, List.set_cons_succ]
  refine take1 38 85 (.pointer (some ⟨br, 0, none⟩)) rfl rfl (by kernel_rfl) (by kernel_rfl) (by kernel_rfl) (by rfl) (fun _ _ _ h => h) hS (fun w' hS' => ?_) ?_
  · obtain ⟨q0, q1, q2⟩ := hS'; go_simp
  simp only [Act.put, List.setIfInBounds_toArray, List.set_cons_zero, List.set_cons_succ]
  refine take1 39 86 (.pointer (some ⟨br, 0, none⟩)) rfl rfl (by kernel_rfl) (by kernel_rfl) (by kernel_rfl) (by rfl) (fun _ _ _ h => h) hS (fun w' hS' => ?_) ?_
  · obtain ⟨q0, q1, q2⟩ := hS'; go_simp
  simp only [Act.put, List.setIfInBounds_toArray, List.set_cons_zero, List.set_cons_succ]
  refine take1 40 87 (.slice (some ⟨cb, off, none⟩) L c) rfl rfl (by kernel_rfl) (by kernel_rfl) (by kernel_rfl) (by rfl) (fun _ _ _ h => h) hS (fun w' hS' => ?_) ?_
  · obtain ⟨q0, q1, q2⟩ := hS'; go_simp
  simp only [Act.put, List.setIfInBounds_toArray, List.set_cons_zero, List.set_cons_succ]
  refine take1 41 88 (.int .i64 (L : Int)) rfl rfl (by kernel_rfl) (by kernel_rfl) (by kernel_rfl) (by rfl) (fun _ _ _ h => h) hS (fun w' hS' => ?_) ?_
  · obtain ⟨q0, q1, q2⟩ := hS'; go_simp
  simp only [Act.put, List.setIfInBounds_toArray, List.set_cons_zero, List.set_cons_succ]
  refine take1 42 89 (.int .i64 q) rfl rfl (by kernel_rfl) (by kernel_rfl) (by kernel_rfl) (by rfl) (fun _ _ _ h => h) hS (fun w' hS' => ?_) ?_
  · obtain ⟨q0, q1, q2⟩ := hS'; go_simp
  simp only [Act.put, List.setIfInBounds_toArray, List.set_cons_zero, List.set_cons_succ]
  refine take1 43 90 (.int .i64 (q * 53)) rfl rfl (by kernel_rfl) (by kernel_rfl) (by kernel_rfl) (by rfl) (fun _ _ _ h => h) hS (fun w' hS' => ?_) ?_
  · obtain ⟨q0, q1, q2⟩ := hS'; go_simp
  simp only [Act.put, List.setIfInBounds_toArray, List.set_cons_zero, List.set_cons_succ]
  refine take1 44 91 (.int .i64 X) rfl rfl (by kernel_rfl) (by kernel_rfl) (by kernel_rfl) (by rfl) (fun _ _ _ h => h) hS (fun w' hS' => ?_) ?_
  · obtain ⟨q0, q1, q2⟩ := hS'; go_simp
  simp only [Act.put, List.setIfInBounds_toArray, List.set_cons_zero, List.set_cons_succ]
  refine take1 45 6 (.int .i64 X) rfl rfl (by kernel_rfl) (by kernel_rfl) (by kernel_rfl) (by rfl) (fun _ _ _ h => h) hS (fun w' hS' => ?_) ?_
  · obtain ⟨q0, q1, q2⟩ := hS'; go_simp
  simp only [Act.put, List.setIfInBounds_toArray, List.set_cons_zero, List.set_cons_succ]
  refine wpAnyH_done (by kernel_rfl) ?_ _
  clear hS HS r1 r2 r3 r4 r5 r6 r7 r8 r9 r10 r11 r12
  go_wp2
  go_ret
  have hx := xor_nonneg X (X / 64) X0 X1 (by omega) (by omega)
  exact ⟨⟨_, Int.tmod_nonneg _ hx, Int.tmod_lt_of_pos _ (by omega), rfl⟩, 1, rfl⟩

end Go.Proofs.YtopikapamfmalaaGreatDoor
