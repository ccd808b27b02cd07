/-
  The laws' own copies of rows of numbers, and two such rows held against each other; blocks that may be written.
-/
import Derived.Test.YthgglnjjbpjonaaKnowBits
namespace Go.Proofs.Ythgglnjjbpjonaa
open Go.RowKit
attribute [local go_sem ↓] Go.wp_at_zero Go.wp_at_succ

set_option maxHeartbeats 1000000 in
set_option maxRecDepth 100000 in
theorem eqIntS_same (a1 a2 : Option Addr) (p1 p2 : Nat) (ks : List Int) (w : World) (h1 : IRow w a1 ks) (h2 : IRow w a2 ks) (hx : ks.length ≤ 2000000) :
    Calls Try.prog 12 #[.slice a1 ks.length p1, .slice a2 ks.length p2] w fun r w' => r = .returned (.bool true) ∧ Below w.heap.size w w' := by
  go_enter Try.func12, Try.ntmps12
  go_wp2_with fail
  go_loopw [5] (fun i wr => ∃ (j : Nat), j ≤ ks.length ∧ i = .int .i64 j ∧ Hid (Below w.heap.size w wr)) (fun i _ => ks.length - (intOf i).toNat)
  case atStart => exact ⟨0, Nat.zero_le _, rfl, Below.refl _ _⟩
  case round =>
    obtain ⟨j, hj, rfl, C⟩ := hrel
    by_cases hlt : j < ks.length
    · obtain ⟨n, hn⟩ : ∃ n, ks[j]? = some n := ⟨ks[j], List.getElem?_eq_getElem hlt⟩
      rcases h1 with h | ⟨b, off, rfl, hl, h1⟩
      · simp [h] at hlt
      rcases h2 with h | ⟨b2, off2, rfl, hl2, h2⟩
      · simp [h] at hlt
      have hbd := C.out.drew
      have hS0 : wr.drew.cell? ⟨b, off + j, none⟩ = some (.int .i64 n) ∧ wr.drew.cell? ⟨b2, off2 + j, none⟩ = some (.int .i64 n) := ⟨((bcell hbd).1 _ _ hl).trans (h1 j n hn), ((bcell hbd).1 _ _ hl2).trans (h2 j n hn)⟩
      clear h1 h2
      go_wp2_with fail
      refine wp_region_held_drew (S := fun w' => w'.cell? ⟨b, off + j, none⟩ = some (.int .i64 n) ∧ w'.cell? ⟨b2, off2 + j, none⟩ = some (.int .i64 n)) (by kernel_rfl) hS0 (fun hS => ?_)
      refine take1 0 17 (.slice (some ⟨b, off, none⟩) ks.length p1) rfl rfl (by kernel_rfl) (by kernel_rfl) (by kernel_rfl) (by rfl) (fun _ _ _ h => h) hS (fun w' hS' => ?_) ?_
      · go_simp
      simp only [Act.put, List.setIfInBounds_toArray, List.set_cons_zero, List.set_cons_succ]
      refine take1 1 18 (.int .i64 j) rfl rfl (by kernel_rfl) (by kernel_rfl) (by kernel_rfl) (by rfl) (fun _ _ _ h => h) hS (fun w' hS' => ?_) ?_
      · go_simp
      simp only [Act.put, List.setIfInBounds_toArray, List.set_cons_zero, List.set_cons_succ]
      refine take1 2 19 (.pointer (some ⟨b, off + j, none⟩)) rfl rfl (by kernel_rfl) (by kernel_rfl) (by kernel_rfl) (by rfl) (fun _ _ _ h => h) hS (fun w' hS' => ?_) ?_
      · go_simp
      simp only [Act.put, List.setIfInBounds_toArray, List.set_cons_zero, List.set_cons_succ]
      refine take1 3 20 (.int .i64 n) rfl rfl (by kernel_rfl) (by kernel_rfl) (by kernel_rfl) (by rfl) (fun _ _ _ h => h) hS (fun w' hS' => ?_) ?_
      · have c0 := hS'.1
        go_simp
      simp only [Act.put, List.setIfInBounds_toArray, List.set_cons_zero, List.set_cons_succ]
      refine take1 4 21 (.slice (some ⟨b2, off2, none⟩) ks.length p2) rfl rfl (by kernel_rfl) (by kernel_rfl) (by kernel_rfl) (by rfl) (fun _ _ _ h => h) hS (fun w' hS' => ?_) ?_
      · go_simp
      simp only [Act.put, List.setIfInBounds_toArray, List.set_cons_zero, List.set_cons_succ]
      refine take1 5 22 (.int .i64 j) rfl rfl (by kernel_rfl) (by kernel_rfl) (by kernel_rfl) (by rfl) (fun _ _ _ h => h) hS (fun w' hS' => ?_) ?_
      · go_simp
      simp only [Act.put, List.setIfInBounds_toArray, List.set_cons_zero, List.set_cons_succ]
      refine take1 6 23 (.pointer (some ⟨b2, off2 + j, none⟩)) rfl rfl (by kernel_rfl) (by kernel_rfl) (by kernel_rfl) (by rfl) (fun _ _ _ h => h) hS (fun w' hS' => ?_) ?_
      · go_simp
      simp only [Act.put, List.setIfInBounds_toArray, List.set_cons_zero, List.set_cons_succ]
      refine take1 7 24 (.int .i64 n) rfl rfl (by kernel_rfl) (by kernel_rfl) (by kernel_rfl) (by rfl) (fun _ _ _ h => h) hS (fun w' hS' => ?_) ?_
      · have c0 := hS'.2
        go_simp
      simp only [Act.put, List.setIfInBounds_toArray, List.set_cons_zero, List.set_cons_succ]
      refine take1 8 25 (.bool false) rfl rfl (by kernel_rfl) (by kernel_rfl) (by kernel_rfl) (by rfl) (fun _ _ _ h => h) hS (fun w' hS' => ?_) ?_
      · go_simp
      simp only [Act.put, List.setIfInBounds_toArray, List.set_cons_zero, List.set_cons_succ]
      refine wpAnyH_done (by kernel_rfl) ?_ _
      have C2 : Hid (Below w.heap.size w wr.drew) := hbd
      clear hS hS0 hbd C
      go_wp2_with fail
      go_roundw
      case rel => exact ⟨j + 1, by omega, by go_num, C2⟩
      case measure => simp [intOf]; omega
    · obtain rfl : j = ks.length := by omega
      go_wp2_with fail
      go_ret
      exact ⟨rfl, C.out⟩

theorem Hid.mk' {p : Prop} (h : p) : Hid p := h
/-- Just one block is turned. -/
structure Touch (g : Nat) (w w' : World) : Prop where
  os : w'.os = w.os
  tape : w'.tape = w.tape
  output : w'.output = w.output
  size : w'.heap.size = w.heap.size
  block : ∀ k, k ≠ g → w'.heap[k]? = w.heap[k]?
theorem Touch.refl (g : Nat) (w : World) : Touch g w w := ⟨rfl, rfl, rfl, rfl, fun _ _ => rfl⟩
theorem Touch.below {g : Nat} {w w' : World} (h : Touch g w w') {B : Nat} (hB : B ≤ g) : Below B w w' := ⟨h.os, h.tape, h.output, Nat.le_of_eq h.size.symm, fun k hk => h.block k (by omega)⟩
theorem Touch.set {g o : Nat} {w w' : World} {v : Value} (h : Touch g w w') : Touch g w (w'.setCell ⟨g, o, none⟩ v) :=
  ⟨h.os, h.tape, h.output, by simpa using h.size, fun k hk => by
    rw [← h.block k hk]
    simp [World.setCell, Array.getElem?_modify, Ne.symm hk]⟩
/-- A row that may be written: so many cells of a block. -/
def WB (w : World) (g n : Nat) : Prop := ∃ cur t, w.heap[g]? = some (.cells cur t (0, 0)) ∧ n ≤ cur.size
theorem WB.set {w : World} {g o n : Nat} {v : Value} (h : WB w g n) : WB (w.setCell ⟨g, o, none⟩ v) g n := by
  obtain ⟨cur, t, hc, hn⟩ := h
  exact ⟨cur.setIfInBounds o v, t, by simp [World.setCell, Array.getElem?_modify, hc], by simpa using hn⟩
theorem WB.lt {w : World} {g n : Nat} (h : WB w g n) : g < w.heap.size := by
  obtain ⟨cur, t, hc, _⟩ := h
  exact (Array.getElem?_eq_some_iff.1 hc).1
theorem WB.cell {w : World} {g n : Nat} (h : WB w g n) {o : Nat} (ho : o < n) : (∃ v, w.cell? ⟨g, o, none⟩ = some v) ∧ w.frozen? ⟨g, o, none⟩ = false := by
  obtain ⟨cur, t, hc, hn⟩ := h
  have ho' : o < cur.size := by omega
  exact ⟨⟨cur[o], by simp [World.cell?, hc, ho']⟩, by simp [World.frozen?, hc]⟩
theorem WB.same {w w' : World} {g n : Nat} (h : WB w g n) (e : w'.heap[g]? = w.heap[g]?) : WB w' g n := by
  obtain ⟨cur, t, hc, hn⟩ := h
  exact ⟨cur, t, e.trans hc, hn⟩

/-- On the way: so many numbers are copied. -/
structure Ti (W : World) (n : Nat) (ks : List Int) (j : Nat) (w : World) : Prop where
  below : Below W.heap.size W w
  row : WB w W.heap.size n
  done : ∀ (i : Nat) m, i < j → ks[i]? = some m → w.cell? ⟨W.heap.size, i, none⟩ = some (.int .i64 m)
theorem infoIntS : (Try.prog.info? 3).map (fun i => (i.zero, i.size, i.bytes)) = some (some (.int .i64 0), 1, 8) := by kernel_rfl

set_option maxRecDepth 100000 in
set_option maxHeartbeats 1000000 in
theorem toIntS_any (a : Option Addr) (cap : Nat) (ks : List Int) (w : World) (h : IRow w a ks) (hx : ks.length ≤ 2000000) :
    Calls Try.prog 9 #[.slice a ks.length cap] w fun r w' => r = .returned (.slice (some ⟨w.heap.size, 0, none⟩) ks.length ks.length) ∧ IRow w' (some ⟨w.heap.size, 0, none⟩) ks ∧ WB w' w.heap.size ks.length ∧ Below w.heap.size w w' := by
  obtain ⟨i0, hi, hz0, hz1, hz2⟩ := info_parts infoIntS
  go_enter Try.func9, Try.ntmps9
  go_wp2_with fail
  rw [run_makeSlice w 22 3 i0 _ Try.underlying22 hi hz0 .i64 .i64 ks.length ks.length (by omega) (by omega) (by rw [hz1]; omega) (by rw [hz2]; omega) (by omega)]
  rw [hz1]
  simp only [Int.toNat_natCast]
  obtain ⟨W1, hW1⟩ : ∃ W1, W1 = w.alloc (.cells (madeCells (Value.int .i64 0).cells (ks.length * 1)) 3) := ⟨_, rfl⟩
  rw [← hW1]
  have T0 : Hid (Ti w ks.length ks 0 W1) := by
    subst hW1
    exact ⟨Below.alloc_ _ _, ⟨_, _, heap_alloc_new _ _, by simp [madeCells]⟩, fun i m hi => by omega⟩
  clear hW1 hi hz0 hz1 hz2
  go_wp2_with fail
  go_loopw [4] (fun i wr => ∃ (j : Nat), j ≤ ks.length ∧ i = .int .i64 j ∧ Hid (Ti w ks.length ks j wr)) (fun i _ => ks.length - (intOf i).toNat)
  case atStart => exact ⟨0, Nat.zero_le _, rfl, T0⟩
  case round =>
    obtain ⟨j, hj, rfl, C⟩ := hrel
    clear T0
    by_cases hlt : j < ks.length
    · obtain ⟨n, hn⟩ : ∃ n, ks[j]? = some n := ⟨ks[j], List.getElem?_eq_getElem hlt⟩
      rcases h with h | ⟨b, off, rfl, hl, h⟩
      · simp [h] at hlt
      have c0 := ((bcell C.out.below).1 _ _ hl).trans (h j n hn)
      obtain ⟨⟨v0, d0⟩, f0⟩ := C.out.row.cell (o := j) hlt
      clear h
      go_wp2_with fail
      go_roundw
      case rel =>
        refine ⟨j + 1, by omega, by go_num, C.out.below.setCell (p := ⟨_, _, none⟩) (Nat.le_refl _) _, C.out.row.set, fun i m hi' hm => ?_⟩
        by_cases e : i = j
        · subst e
          obtain rfl : n = m := Option.some.inj (hn.symm.trans hm)
          exact cell_same ⟨_, d0⟩
        · rw [cell_else (by omega)]
          exact C.out.done i m (by omega) hm
      case measure => simp [intOf]; omega
    · obtain rfl : j = ks.length := by omega
      clear h
      go_wp2_with fail
      go_ret
      refine ⟨rfl, Or.inr ⟨w.heap.size, 0, rfl, C.out.row.lt, fun i m hm => ?_⟩, C.out.row, C.out.below⟩
      rw [Nat.zero_add]
      exact C.out.done i m (by have := (List.getElem?_eq_some_iff.1 hm).1; omega) hm

end Go.Proofs.Ythgglnjjbpjonaa
