/-
  The laws' own marks in rows of wants, calls and creds.
-/
import Derived.Test.YthkngdbhddedpaaClRow
namespace Go.Proofs.Ythkngdbhddedpaa
open Go.RowKit
attribute [local go_sem ↓] Go.wp_at_zero Go.wp_at_succ

set_option maxRecDepth 100000 in
set_option maxHeartbeats 4000000 in
theorem markWantS_any (g n cap : Nat) (k0 : Int) (w : World) (h : WB w g (n * 2)) (hn : n ≤ 2000000) (h0 : 0 ≤ k0) (h1 : k0 ≤ 100000000) :
    Calls Try.prog 37 #[.slice (some ⟨g, 0, none⟩) n cap, .int .i64 k0] w fun r w' => r = .returned (.int .i64 (k0 + 2 * n)) ∧ Touch g w w' ∧ WB w' g (n * 2) ∧ ∀ i, i < n * 2 → w'.cell? ⟨g, i, none⟩ = some (.int .i64 (k0 + i)) := by
  go_enter Try.func37, Try.ntmps37
  go_wp2_with fail
  go_loopw [1, 5] (fun k i wr => ∃ (j : Nat), j ≤ n ∧ i = .int .i64 j ∧ k = .int .i64 (k0 + 2 * j) ∧ Hid (Touch g w wr ∧ WB wr g (n * 2) ∧ ∀ i, i < j * 2 → wr.cell? ⟨g, i, none⟩ = some (.int .i64 (k0 + i)))) (fun _ i _ => n - (intOf i).toNat)
  case atStart => exact ⟨0, Nat.zero_le _, rfl, by simp, Touch.refl _ _, h, fun i hi => by omega⟩
  case round =>
    obtain ⟨j, hj, rfl, rfl, C⟩ := hrel
    by_cases hlt : j < n
    · obtain ⟨K, hK⟩ : ∃ K : Int, K = k0 + 2 * j := ⟨_, rfl⟩
      have hall := marksN (w := wr) (g := g) (j := j) (n := 2) (k0 := k0) (l := [K, K + 1]) rfl (fun q hq => (C.out.2.1.cell (by omega)).1) C.out.2.2 (fun q c hq => by
        match q, hq with
        | 0, hq => simp at hq; omega
        | 1, hq => simp at hq; omega
        | q + 2, hq => simp at hq)
      simp only [putN] at hall
      have HA := Hid.mk' hall
      clear hall
      obtain ⟨⟨v0, d0⟩, f0⟩ := C.out.2.1.cell (o := j * 2) (by omega)
      obtain ⟨⟨v1, d1⟩, f1⟩ := C.out.2.1.cell (o := j * 2 + 1) (by omega)
      rw [← hK]
      have w1 : IntKind.i64.wrap (K + 1) = K + 1 := wrapM (by omega) (by omega)
      have w2 : IntKind.i64.wrap (K + 1 + 1) = K + 1 + 1 := wrapM (by omega) (by omega)
      go_wp2_with fail
      go_roundw
      case rel =>
        refine ⟨j + 1, by omega, by go_num, by first | (congr 1; omega) | (simp; omega), C.out.1.set.set, C.out.2.1.set.set, fun i hi => ?_⟩
        subst hK
        exact HA.out i hi
      case measure => simp [intOf]; omega
    · obtain rfl : j = n := by omega
      go_wp2_with fail
      go_ret
      exact ⟨rfl, C.out⟩
set_option maxRecDepth 100000 in
theorem markWant_nil (a : Option Addr) (cap : Nat) (k0 : Int) (w : World) :
    Calls Try.prog 37 #[.slice a 0 cap, .int .i64 k0] w fun r w' => r = .returned (.int .i64 k0) ∧ w' = w := by
  go_enter Try.func37, Try.ntmps37
  go_wp2_with fail
  refine wp_loop_rounds 1 ?_
  rw [rounds_succ]
  go_wp2_with fail
  go_ret
  exact ⟨rfl, rfl⟩
set_option maxRecDepth 100000 in
theorem heldWant_nil (a : Option Addr) (cap : Nat) (k0 : Int) (w : World) :
    Calls Try.prog 41 #[.slice a 0 cap, .int .i64 k0] w fun r w' => r = .returned (.int .i64 k0) ∧ w' = w := by
  go_enter Try.func41, Try.ntmps41
  go_wp2_with fail
  refine wp_loop_rounds 1 ?_
  rw [rounds_succ]
  go_wp2_with fail
  go_ret
  exact ⟨rfl, rfl⟩
set_option maxRecDepth 100000 in
set_option maxHeartbeats 4000000 in
theorem heldWantS_any (g n cap : Nat) (k0 : Int) (w : World) (h : ∀ i, i < n * 2 → w.cell? ⟨g, i, none⟩ = some (.int .i64 (k0 + i))) (hn : n ≤ 2000000) (h0 : 0 ≤ k0) (h1 : k0 ≤ 100000000) :
    Calls Try.prog 41 #[.slice (some ⟨g, 0, none⟩) n cap, .int .i64 k0] w fun r w' => r = .returned (.int .i64 (k0 + 2 * n)) ∧ w' = w := by
  go_enter Try.func41, Try.ntmps41
  go_wp2_with fail
  go_loopw [1, 5] (fun k i wr => ∃ (j : Nat), j ≤ n ∧ i = .int .i64 j ∧ k = .int .i64 (k0 + 2 * j) ∧ Hid (wr = w)) (fun _ i _ => n - (intOf i).toNat)
  case atStart => exact ⟨0, Nat.zero_le _, rfl, by simp, rfl⟩
  case round =>
    obtain ⟨j, hj, rfl, rfl, C⟩ := hrel
    obtain rfl : wr = w := C.out
    by_cases hlt : j < n
    · obtain ⟨K, hK⟩ : ∃ K : Int, K = k0 + 2 * j := ⟨_, rfl⟩
      have d0 : wr.cell? ⟨g, j * 2, none⟩ = some (.int .i64 (K)) := (h (j * 2) (by omega)).trans (by congr 2; simp; omega)
      have d1 : wr.cell? ⟨g, j * 2 + 1, none⟩ = some (.int .i64 (K + 1)) := (h (j * 2 + 1) (by omega)).trans (by congr 2; simp; omega)
      rw [← hK]
      have w1 : IntKind.i64.wrap (K + 1) = K + 1 := wrapM (by omega) (by omega)
      have w2 : IntKind.i64.wrap (K + 1 + 1) = K + 1 + 1 := wrapM (by omega) (by omega)
      clear h
      go_wp2_with fail
      go_roundw
      case rel => exact ⟨j + 1, by omega, by go_num, by first | (congr 1; omega) | (simp; omega), by first | rfl | trivial⟩
      case measure => simp [intOf]; omega
    · obtain rfl : j = n := by omega
      clear h
      go_wp2_with fail
      go_ret
      exact ⟨rfl, rfl⟩
theorem markWant_own {w : World} {base : Nat} {v : Value} {zs : List Wn} (k0 : Int) (h : OwnN celW 60 w base v zs) (hn : zs.length ≤ 2000000) (h0 : 0 ≤ k0) (h1 : k0 ≤ 100000000) :
    Calls Try.prog 37 #[v, .int .i64 k0] w fun r w' => r = .returned (.int .i64 (k0 + 2 * zs.length)) ∧ w.grownBy w' v.ownBlock ∧ MkN 2 w' v zs.length k0 := by
  rcases h.2 with ⟨rfl, h2⟩ | ⟨g, cap, cur, rfl, h2, h3, h4, _, h5, _⟩
  · refine (markWant_nil none 0 k0 w).mono ?_
    rintro r w' ⟨rfl, rfl⟩
    exact ⟨by rw [h2]; simp, World.grownBy.refl _ _, none, 0, by rw [h2], Or.inl h2⟩
  · have h6 : cur.size = cap * 2 := h5
    refine (markWantS_any g zs.length cap k0 w ⟨cur, _, h3, by omega⟩ hn h0 h1).mono ?_
    rintro r w' ⟨rfl, ht, hw, hc⟩
    exact ⟨rfl, ⟨ht.os, ht.tape, ht.output, Nat.le_of_eq ht.size.symm, fun k _ hk => ht.block k (fun e => hk (by rw [e]; rfl))⟩, _, cap, rfl, Or.inr ⟨g, rfl, hw.lt, hc⟩⟩
theorem heldWant_own {w : World} {v : Value} {n : Nat} (k0 : Int) (h : MkN 2 w v n k0) (hn : n ≤ 2000000) (h0 : 0 ≤ k0) (h1 : k0 ≤ 100000000) :
    Calls Try.prog 41 #[v, .int .i64 k0] w fun r w' => r = .returned (.int .i64 (k0 + 2 * n)) ∧ w' = w := by
  obtain ⟨a, cap, rfl, h | ⟨g, rfl, hg, h⟩⟩ := h
  · subst h
    refine (heldWant_nil a cap k0 w).mono ?_
    rintro r w' ⟨rfl, rfl⟩
    exact ⟨by simp, rfl⟩
  · exact heldWantS_any g n cap k0 w h hn h0 h1

set_option maxRecDepth 100000 in
set_option maxHeartbeats 4000000 in
theorem markCallS_any (g n cap : Nat) (k0 : Int) (w : World) (h : WB w g (n * 4)) (hn : n ≤ 2000000) (h0 : 0 ≤ k0) (h1 : k0 ≤ 100000000) :
    Calls Try.prog 39 #[.slice (some ⟨g, 0, none⟩) n cap, .int .i64 k0] w fun r w' => r = .returned (.int .i64 (k0 + 4 * n)) ∧ Touch g w w' ∧ WB w' g (n * 4) ∧ ∀ i, i < n * 4 → w'.cell? ⟨g, i, none⟩ = some (.int .i64 (k0 + i)) := by
  go_enter Try.func39, Try.ntmps39
  go_wp2_with fail
  go_loopw [1, 5] (fun k i wr => ∃ (j : Nat), j ≤ n ∧ i = .int .i64 j ∧ k = .int .i64 (k0 + 4 * j) ∧ Hid (Touch g w wr ∧ WB wr g (n * 4) ∧ ∀ i, i < j * 4 → wr.cell? ⟨g, i, none⟩ = some (.int .i64 (k0 + i)))) (fun _ i _ => n - (intOf i).toNat)
  case atStart => exact ⟨0, Nat.zero_le _, rfl, by simp, Touch.refl _ _, h, fun i hi => by omega⟩
  case round =>
    obtain ⟨j, hj, rfl, rfl, C⟩ := hrel
    by_cases hlt : j < n
    · obtain ⟨K, hK⟩ : ∃ K : Int, K = k0 + 4 * j := ⟨_, rfl⟩
      have hall := marksN (w := wr) (g := g) (j := j) (n := 4) (k0 := k0) (l := [K, K + 1, K + 1 + 1, K + 1 + 1 + 1]) rfl (fun q hq => (C.out.2.1.cell (by omega)).1) C.out.2.2 (fun q c hq => by
        match q, hq with
        | 0, hq => simp at hq; omega
        | 1, hq => simp at hq; omega
        | 2, hq => simp at hq; omega
        | 3, hq => simp at hq; omega
        | q + 4, hq => simp at hq)
      simp only [putN, Nat.add_assoc, Nat.reduceAdd] at hall
      have HA := Hid.mk' hall
      clear hall
      obtain ⟨⟨v0, d0⟩, f0⟩ := C.out.2.1.cell (o := j * 4) (by omega)
      obtain ⟨⟨v1, d1⟩, f1⟩ := C.out.2.1.cell (o := j * 4 + 1) (by omega)
      obtain ⟨⟨v2, d2⟩, f2⟩ := C.out.2.1.cell (o := j * 4 + 2) (by omega)
      obtain ⟨⟨v3, d3⟩, f3⟩ := C.out.2.1.cell (o := j * 4 + 3) (by omega)
      rw [← hK]
      have w1 : IntKind.i64.wrap (K + 1) = K + 1 := wrapM (by omega) (by omega)
      have w2 : IntKind.i64.wrap (K + 1 + 1) = K + 1 + 1 := wrapM (by omega) (by omega)
      have w3 : IntKind.i64.wrap (K + 1 + 1 + 1) = K + 1 + 1 + 1 := wrapM (by omega) (by omega)
      have w4 : IntKind.i64.wrap (K + 1 + 1 + 1 + 1) = K + 1 + 1 + 1 + 1 := wrapM (by omega) (by omega)
      go_wp2_with fail
      go_roundw
      case rel =>
        refine ⟨j + 1, by omega, by go_num, by first | (congr 1; omega) | (simp; omega), C.out.1.set.set.set.set, C.out.2.1.set.set.set.set, fun i hi => ?_⟩
        subst hK
        exact HA.out i hi
      case measure => simp [intOf]; omega
    · obtain rfl : j = n := by omega
      go_wp2_with fail
      go_ret
      exact ⟨rfl, C.out⟩
set_option maxRecDepth 100000 in
theorem markCall_nil (a : Option Addr) (cap : Nat) (k0 : Int) (w : World) :
    Calls Try.prog 39 #[.slice a 0 cap, .int .i64 k0] w fun r w' => r = .returned (.int .i64 k0) ∧ w' = w := by
  go_enter Try.func39, Try.ntmps39
  go_wp2_with fail
  refine wp_loop_rounds 1 ?_
  rw [rounds_succ]
  go_wp2_with fail
  go_ret
  exact ⟨rfl, rfl⟩
set_option maxRecDepth 100000 in
theorem heldCall_nil (a : Option Addr) (cap : Nat) (k0 : Int) (w : World) :
    Calls Try.prog 43 #[.slice a 0 cap, .int .i64 k0] w fun r w' => r = .returned (.int .i64 k0) ∧ w' = w := by
  go_enter Try.func43, Try.ntmps43
  go_wp2_with fail
  refine wp_loop_rounds 1 ?_
  rw [rounds_succ]
  go_wp2_with fail
  go_ret
  exact ⟨rfl, rfl⟩
set_option maxRecDepth 100000 in
set_option maxHeartbeats 4000000 in
theorem heldCallS_any (g n cap : Nat) (k0 : Int) (w : World) (h : ∀ i, i < n * 4 → w.cell? ⟨g, i, none⟩ = some (.int .i64 (k0 + i))) (hn : n ≤ 2000000) (h0 : 0 ≤ k0) (h1 : k0 ≤ 100000000) :
    Calls Try.prog 43 #[.slice (some ⟨g, 0, none⟩) n cap, .int .i64 k0] w fun r w' => r = .returned (.int .i64 (k0 + 4 * n)) ∧ w' = w := by
  go_enter Try.func43, Try.ntmps43
  go_wp2_with fail
  go_loopw [1, 5] (fun k i wr => ∃ (j : Nat), j ≤ n ∧ i = .int .i64 j ∧ k = .int .i64 (k0 + 4 * j) ∧ Hid (wr = w)) (fun _ i _ => n - (intOf i).toNat)
  case atStart => exact ⟨0, Nat.zero_le _, rfl, by simp, rfl⟩
  case round =>
    obtain ⟨j, hj, rfl, rfl, C⟩ := hrel
    obtain rfl : wr = w := C.out
    by_cases hlt : j < n
    · obtain ⟨K, hK⟩ : ∃ K : Int, K = k0 + 4 * j := ⟨_, rfl⟩
      have d0 : wr.cell? ⟨g, j * 4, none⟩ = some (.int .i64 (K)) := (h (j * 4) (by omega)).trans (by congr 2; simp; omega)
      have d1 : wr.cell? ⟨g, j * 4 + 1, none⟩ = some (.int .i64 (K + 1)) := (h (j * 4 + 1) (by omega)).trans (by congr 2; simp; omega)
      have d2 : wr.cell? ⟨g, j * 4 + 2, none⟩ = some (.int .i64 (K + 1 + 1)) := (h (j * 4 + 2) (by omega)).trans (by congr 2; simp; omega)
      have d3 : wr.cell? ⟨g, j * 4 + 3, none⟩ = some (.int .i64 (K + 1 + 1 + 1)) := (h (j * 4 + 3) (by omega)).trans (by congr 2; simp; omega)
      rw [← hK]
      have w1 : IntKind.i64.wrap (K + 1) = K + 1 := wrapM (by omega) (by omega)
      have w2 : IntKind.i64.wrap (K + 1 + 1) = K + 1 + 1 := wrapM (by omega) (by omega)
      have w3 : IntKind.i64.wrap (K + 1 + 1 + 1) = K + 1 + 1 + 1 := wrapM (by omega) (by omega)
      have w4 : IntKind.i64.wrap (K + 1 + 1 + 1 + 1) = K + 1 + 1 + 1 + 1 := wrapM (by omega) (by omega)
      clear h
      go_wp2_with fail
      go_roundw
      case rel => exact ⟨j + 1, by omega, by go_num, by first | (congr 1; omega) | (simp; omega), by first | rfl | trivial⟩
      case measure => simp [intOf]; omega
    · obtain rfl : j = n := by omega
      clear h
      go_wp2_with fail
      go_ret
      exact ⟨rfl, rfl⟩
theorem markCall_own {w : World} {base : Nat} {v : Value} {zs : List Ca} (k0 : Int) (h : OwnN celC 71 w base v zs) (hn : zs.length ≤ 2000000) (h0 : 0 ≤ k0) (h1 : k0 ≤ 100000000) :
    Calls Try.prog 39 #[v, .int .i64 k0] w fun r w' => r = .returned (.int .i64 (k0 + 4 * zs.length)) ∧ w.grownBy w' v.ownBlock ∧ MkN 4 w' v zs.length k0 := by
  rcases h.2 with ⟨rfl, h2⟩ | ⟨g, cap, cur, rfl, h2, h3, h4, _, h5, _⟩
  · refine (markCall_nil none 0 k0 w).mono ?_
    rintro r w' ⟨rfl, rfl⟩
    exact ⟨by rw [h2]; simp, World.grownBy.refl _ _, none, 0, by rw [h2], Or.inl h2⟩
  · have h6 : cur.size = cap * 4 := h5
    refine (markCallS_any g zs.length cap k0 w ⟨cur, _, h3, by omega⟩ hn h0 h1).mono ?_
    rintro r w' ⟨rfl, ht, hw, hc⟩
    exact ⟨rfl, ⟨ht.os, ht.tape, ht.output, Nat.le_of_eq ht.size.symm, fun k _ hk => ht.block k (fun e => hk (by rw [e]; rfl))⟩, _, cap, rfl, Or.inr ⟨g, rfl, hw.lt, hc⟩⟩
theorem heldCall_own {w : World} {v : Value} {n : Nat} (k0 : Int) (h : MkN 4 w v n k0) (hn : n ≤ 2000000) (h0 : 0 ≤ k0) (h1 : k0 ≤ 100000000) :
    Calls Try.prog 43 #[v, .int .i64 k0] w fun r w' => r = .returned (.int .i64 (k0 + 4 * n)) ∧ w' = w := by
  obtain ⟨a, cap, rfl, h | ⟨g, rfl, hg, h⟩⟩ := h
  · subst h
    refine (heldCall_nil a cap k0 w).mono ?_
    rintro r w' ⟨rfl, rfl⟩
    exact ⟨by simp, rfl⟩
  · exact heldCallS_any g n cap k0 w h hn h0 h1

set_option maxRecDepth 100000 in
set_option maxHeartbeats 4000000 in
theorem markCredS_any (g n cap : Nat) (k0 : Int) (w : World) (h : WB w g (n * 10)) (hn : n ≤ 2000000) (h0 : 0 ≤ k0) (h1 : k0 ≤ 100000000) :
    Calls Try.prog 38 #[.slice (some ⟨g, 0, none⟩) n cap, .int .i64 k0] w fun r w' => r = .returned (.int .i64 (k0 + 10 * n)) ∧ Touch g w w' ∧ WB w' g (n * 10) ∧ ∀ i, i < n * 10 → w'.cell? ⟨g, i, none⟩ = some (.int .i64 (k0 + i)) := by
  go_enter Try.func38, Try.ntmps38
  go_wp2_with fail
  go_loopw [1, 5] (fun k i wr => ∃ (j : Nat), j ≤ n ∧ i = .int .i64 j ∧ k = .int .i64 (k0 + 10 * j) ∧ Hid (Touch g w wr ∧ WB wr g (n * 10) ∧ ∀ i, i < j * 10 → wr.cell? ⟨g, i, none⟩ = some (.int .i64 (k0 + i)))) (fun _ i _ => n - (intOf i).toNat)
  case atStart => exact ⟨0, Nat.zero_le _, rfl, by simp, Touch.refl _ _, h, fun i hi => by omega⟩
  case round =>
    obtain ⟨j, hj, rfl, rfl, C⟩ := hrel
    by_cases hlt : j < n
    · obtain ⟨K, hK⟩ : ∃ K : Int, K = k0 + 10 * j := ⟨_, rfl⟩
      have hall := marksN (w := wr) (g := g) (j := j) (n := 10) (k0 := k0) (l := [K, K + 1, K + 1 + 1, K + 1 + 1 + 1, K + 1 + 1 + 1 + 1, K + 1 + 1 + 1 + 1 + 1, K + 1 + 1 + 1 + 1 + 1 + 1, K + 1 + 1 + 1 + 1 + 1 + 1 + 1, K + 1 + 1 + 1 + 1 + 1 + 1 + 1 + 1, K + 1 + 1 + 1 + 1 + 1 + 1 + 1 + 1 + 1]) rfl (fun q hq => (C.out.2.1.cell (by omega)).1) C.out.2.2 (fun q c hq => by
        match q, hq with
        | 0, hq => simp at hq; omega
        | 1, hq => simp at hq; omega
        | 2, hq => simp at hq; omega
        | 3, hq => simp at hq; omega
        | 4, hq => simp at hq; omega
        | 5, hq => simp at hq; omega
        | 6, hq => simp at hq; omega
        | 7, hq => simp at hq; omega
        | 8, hq => simp at hq; omega
        | 9, hq => simp at hq; omega
        | q + 10, hq => simp at hq)
      simp only [putN, Nat.add_assoc, Nat.reduceAdd] at hall
      have HA := Hid.mk' hall
      clear hall
      obtain ⟨⟨v0, d0⟩, f0⟩ := C.out.2.1.cell (o := j * 10) (by omega)
      obtain ⟨⟨v1, d1⟩, f1⟩ := C.out.2.1.cell (o := j * 10 + 1) (by omega)
      obtain ⟨⟨v2, d2⟩, f2⟩ := C.out.2.1.cell (o := j * 10 + 2) (by omega)
      obtain ⟨⟨v3, d3⟩, f3⟩ := C.out.2.1.cell (o := j * 10 + 3) (by omega)
      obtain ⟨⟨v4, d4⟩, f4⟩ := C.out.2.1.cell (o := j * 10 + 4) (by omega)
      obtain ⟨⟨v5, d5⟩, f5⟩ := C.out.2.1.cell (o := j * 10 + 5) (by omega)
      obtain ⟨⟨v6, d6⟩, f6⟩ := C.out.2.1.cell (o := j * 10 + 6) (by omega)
      obtain ⟨⟨v7, d7⟩, f7⟩ := C.out.2.1.cell (o := j * 10 + 7) (by omega)
      obtain ⟨⟨v8, d8⟩, f8⟩ := C.out.2.1.cell (o := j * 10 + 8) (by omega)
      obtain ⟨⟨v9, d9⟩, f9⟩ := C.out.2.1.cell (o := j * 10 + 9) (by omega)
      rw [← hK]
      have w1 : IntKind.i64.wrap (K + 1) = K + 1 := wrapM (by omega) (by omega)
      have w2 : IntKind.i64.wrap (K + 1 + 1) = K + 1 + 1 := wrapM (by omega) (by omega)
      have w3 : IntKind.i64.wrap (K + 1 + 1 + 1) = K + 1 + 1 + 1 := wrapM (by omega) (by omega)
      have w4 : IntKind.i64.wrap (K + 1 + 1 + 1 + 1) = K + 1 + 1 + 1 + 1 := wrapM (by omega) (by omega)
      have w5 : IntKind.i64.wrap (K + 1 + 1 + 1 + 1 + 1) = K + 1 + 1 + 1 + 1 + 1 := wrapM (by omega) (by omega)
      have w6 : IntKind.i64.wrap (K + 1 + 1 + 1 + 1 + 1 + 1) = K + 1 + 1 + 1 + 1 + 1 + 1 := wrapM (by omega) (by omega)
      have w7 : IntKind.i64.wrap (K + 1 + 1 + 1 + 1 + 1 + 1 + 1) = K + 1 + 1 + 1 + 1 + 1 + 1 + 1 := wrapM (by omega) (by omega)
      have w8 : IntKind.i64.wrap (K + 1 + 1 + 1 + 1 + 1 + 1 + 1 + 1) = K + 1 + 1 + 1 + 1 + 1 + 1 + 1 + 1 := wrapM (by omega) (by omega)
      have w9 : IntKind.i64.wrap (K + 1 + 1 + 1 + 1 + 1 + 1 + 1 + 1 + 1) = K + 1 + 1 + 1 + 1 + 1 + 1 + 1 + 1 + 1 := wrapM (by omega) (by omega)
      have w10 : IntKind.i64.wrap (K + 1 + 1 + 1 + 1 + 1 + 1 + 1 + 1 + 1 + 1) = K + 1 + 1 + 1 + 1 + 1 + 1 + 1 + 1 + 1 + 1 := wrapM (by omega) (by omega)
      go_wp2_with fail
      go_roundw
      case rel =>
        refine ⟨j + 1, by omega, by go_num, by first | (congr 1; omega) | (simp; omega), C.out.1.set.set.set.set.set.set.set.set.set.set, C.out.2.1.set.set.set.set.set.set.set.set.set.set, fun i hi => ?_⟩
        subst hK
        exact HA.out i hi
      case measure => simp [intOf]; omega
    · obtain rfl : j = n := by omega
      go_wp2_with fail
      go_ret
      exact ⟨rfl, C.out⟩
set_option maxRecDepth 100000 in
theorem markCred_nil (a : Option Addr) (cap : Nat) (k0 : Int) (w : World) :
    Calls Try.prog 38 #[.slice a 0 cap, .int .i64 k0] w fun r w' => r = .returned (.int .i64 k0) ∧ w' = w := by
  go_enter Try.func38, Try.ntmps38
  go_wp2_with fail
  refine wp_loop_rounds 1 ?_
  rw [rounds_succ]
  go_wp2_with fail
  go_ret
  exact ⟨rfl, rfl⟩
set_option maxRecDepth 100000 in
theorem heldCred_nil (a : Option Addr) (cap : Nat) (k0 : Int) (w : World) :
    Calls Try.prog 42 #[.slice a 0 cap, .int .i64 k0] w fun r w' => r = .returned (.int .i64 k0) ∧ w' = w := by
  go_enter Try.func42, Try.ntmps42
  go_wp2_with fail
  refine wp_loop_rounds 1 ?_
  rw [rounds_succ]
  go_wp2_with fail
  go_ret
  exact ⟨rfl, rfl⟩
set_option maxRecDepth 100000 in
set_option maxHeartbeats 4000000 in
theorem heldCredS_any (g n cap : Nat) (k0 : Int) (w : World) (h : ∀ i, i < n * 10 → w.cell? ⟨g, i, none⟩ = some (.int .i64 (k0 + i))) (hn : n ≤ 2000000) (h0 : 0 ≤ k0) (h1 : k0 ≤ 100000000) :
    Calls Try.prog 42 #[.slice (some ⟨g, 0, none⟩) n cap, .int .i64 k0] w fun r w' => r = .returned (.int .i64 (k0 + 10 * n)) ∧ w' = w := by
  go_enter Try.func42, Try.ntmps42
  go_wp2_with fail
  go_loopw [1, 5] (fun k i wr => ∃ (j : Nat), j ≤ n ∧ i = .int .i64 j ∧ k = .int .i64 (k0 + 10 * j) ∧ Hid (wr = w)) (fun _ i _ => n - (intOf i).toNat)
  case atStart => exact ⟨0, Nat.zero_le _, rfl, by simp, rfl⟩
  case round =>
    obtain ⟨j, hj, rfl, rfl, C⟩ := hrel
    obtain rfl : wr = w := C.out
    by_cases hlt : j < n
    · obtain ⟨K, hK⟩ : ∃ K : Int, K = k0 + 10 * j := ⟨_, rfl⟩
      have d0 : wr.cell? ⟨g, j * 10, none⟩ = some (.int .i64 (K)) := (h (j * 10) (by omega)).trans (by congr 2; simp; omega)
      have d1 : wr.cell? ⟨g, j * 10 + 1, none⟩ = some (.int .i64 (K + 1)) := (h (j * 10 + 1) (by omega)).trans (by congr 2; simp; omega)
      have d2 : wr.cell? ⟨g, j * 10 + 2, none⟩ = some (.int .i64 (K + 1 + 1)) := (h (j * 10 + 2) (by omega)).trans (by congr 2; simp; omega)
      have d3 : wr.cell? ⟨g, j * 10 + 3, none⟩ = some (.int .i64 (K + 1 + 1 + 1)) := (h (j * 10 + 3) (by omega)).trans (by congr 2; simp; omega)
      have d4 : wr.cell? ⟨g, j * 10 + 4, none⟩ = some (.int .i64 (K + 1 + 1 + 1 + 1)) := (h (j * 10 + 4) (by omega)).trans (by congr 2; simp; omega)
      have d5 : wr.cell? ⟨g, j * 10 + 5, none⟩ = some (.int .i64 (K + 1 + 1 + 1 + 1 + 1)) := (h (j * 10 + 5) (by omega)).trans (by congr 2; simp; omega)
      have d6 : wr.cell? ⟨g, j * 10 + 6, none⟩ = some (.int .i64 (K + 1 + 1 + 1 + 1 + 1 + 1)) := (h (j * 10 + 6) (by omega)).trans (by congr 2; simp; omega)
      have d7 : wr.cell? ⟨g, j * 10 + 7, none⟩ = some (.int .i64 (K + 1 + 1 + 1 + 1 + 1 + 1 + 1)) := (h (j * 10 + 7) (by omega)).trans (by congr 2; simp; omega)
      have d8 : wr.cell? ⟨g, j * 10 + 8, none⟩ = some (.int .i64 (K + 1 + 1 + 1 + 1 + 1 + 1 + 1 + 1)) := (h (j * 10 + 8) (by omega)).trans (by congr 2; simp; omega)
      have d9 : wr.cell? ⟨g, j * 10 + 9, none⟩ = some (.int .i64 (K + 1 + 1 + 1 + 1 + 1 + 1 + 1 + 1 + 1)) := (h (j * 10 + 9) (by omega)).trans (by congr 2; simp; omega)
      rw [← hK]
      have w1 : IntKind.i64.wrap (K + 1) = K + 1 := wrapM (by omega) (by omega)
      have w2 : IntKind.i64.wrap (K + 1 + 1) = K + 1 + 1 := wrapM (by omega) (by omega)
      have w3 : IntKind.i64.wrap (K + 1 + 1 + 1) = K + 1 + 1 + 1 := wrapM (by omega) (by omega)
      have w4 : IntKind.i64.wrap (K + 1 + 1 + 1 + 1) = K + 1 + 1 + 1 + 1 := wrapM (by omega) (by omega)
      have w5 : IntKind.i64.wrap (K + 1 + 1 + 1 + 1 + 1) = K + 1 + 1 + 1 + 1 + 1 := wrapM (by omega) (by omega)
      have w6 : IntKind.i64.wrap (K + 1 + 1 + 1 + 1 + 1 + 1) = K + 1 + 1 + 1 + 1 + 1 + 1 := wrapM (by omega) (by omega)
      have w7 : IntKind.i64.wrap (K + 1 + 1 + 1 + 1 + 1 + 1 + 1) = K + 1 + 1 + 1 + 1 + 1 + 1 + 1 := wrapM (by omega) (by omega)
      have w8 : IntKind.i64.wrap (K + 1 + 1 + 1 + 1 + 1 + 1 + 1 + 1) = K + 1 + 1 + 1 + 1 + 1 + 1 + 1 + 1 := wrapM (by omega) (by omega)
      have w9 : IntKind.i64.wrap (K + 1 + 1 + 1 + 1 + 1 + 1 + 1 + 1 + 1) = K + 1 + 1 + 1 + 1 + 1 + 1 + 1 + 1 + 1 := wrapM (by omega) (by omega)
      have w10 : IntKind.i64.wrap (K + 1 + 1 + 1 + 1 + 1 + 1 + 1 + 1 + 1 + 1) = K + 1 + 1 + 1 + 1 + 1 + 1 + 1 + 1 + 1 + 1 := wrapM (by omega) (by omega)
      clear h
      go_wp2_with fail
      go_roundw
      case rel => exact ⟨j + 1, by omega, by go_num, by first | (congr 1; omega) | (simp; omega), by first | rfl | trivial⟩
      case measure => simp [intOf]; omega
    · obtain rfl : j = n := by omega
      clear h
      go_wp2_with fail
      go_ret
      exact ⟨rfl, rfl⟩
theorem markCred_own {w : World} {base : Nat} {v : Value} {zs : List Cd} (k0 : Int) (h : OwnN celD 56 w base v zs) (hn : zs.length ≤ 2000000) (h0 : 0 ≤ k0) (h1 : k0 ≤ 100000000) :
    Calls Try.prog 38 #[v, .int .i64 k0] w fun r w' => r = .returned (.int .i64 (k0 + 10 * zs.length)) ∧ w.grownBy w' v.ownBlock ∧ MkN 10 w' v zs.length k0 := by
  rcases h.2 with ⟨rfl, h2⟩ | ⟨g, cap, cur, rfl, h2, h3, h4, _, h5, _⟩
  · refine (markCred_nil none 0 k0 w).mono ?_
    rintro r w' ⟨rfl, rfl⟩
    exact ⟨by rw [h2]; simp, World.grownBy.refl _ _, none, 0, by rw [h2], Or.inl h2⟩
  · have h6 : cur.size = cap * 10 := h5
    refine (markCredS_any g zs.length cap k0 w ⟨cur, _, h3, by omega⟩ hn h0 h1).mono ?_
    rintro r w' ⟨rfl, ht, hw, hc⟩
    exact ⟨rfl, ⟨ht.os, ht.tape, ht.output, Nat.le_of_eq ht.size.symm, fun k _ hk => ht.block k (fun e => hk (by rw [e]; rfl))⟩, _, cap, rfl, Or.inr ⟨g, rfl, hw.lt, hc⟩⟩
theorem heldCred_own {w : World} {v : Value} {n : Nat} (k0 : Int) (h : MkN 10 w v n k0) (hn : n ≤ 2000000) (h0 : 0 ≤ k0) (h1 : k0 ≤ 100000000) :
    Calls Try.prog 42 #[v, .int .i64 k0] w fun r w' => r = .returned (.int .i64 (k0 + 10 * n)) ∧ w' = w := by
  obtain ⟨a, cap, rfl, h | ⟨g, rfl, hg, h⟩⟩ := h
  · subst h
    refine (heldCred_nil a cap k0 w).mono ?_
    rintro r w' ⟨rfl, rfl⟩
    exact ⟨by simp, rfl⟩
  · exact heldCredS_any g n cap k0 w h hn h0 h1

end Go.Proofs.Ythkngdbhddedpaa
