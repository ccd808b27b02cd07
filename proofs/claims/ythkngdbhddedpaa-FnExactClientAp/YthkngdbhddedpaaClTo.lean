/-
  The laws' own copies of rows of wants, calls and creds, and whether two rows are the same, and how long they are: nothing that was in memory is turned.
-/
import Derived.Test.YthkngdbhddedpaaClRow
import Derived.Test.YthkngdbhddedpaaSealTo
namespace Go.Proofs.Ythkngdbhddedpaa
open Go.RowKit
attribute [local go_sem ↓] Go.wp_at_zero Go.wp_at_succ

set_option maxHeartbeats 400000 in
theorem toWant_any (x : Wn) (w : World) : Calls Try.prog 55 #[Value.agg #[.int .i64 x.s, .int .i64 x.n]] w fun r w' => r = .returned (Value.agg #[.int .i64 x.s, .int .i64 x.n]) ∧ Below w.heap.size w w' := by
  go_enter Try.func55, Try.ntmps55
  go_wp2
  exact bodyPost_ret (v := Value.agg #[.int .i64 x.s, .int .i64 x.n]) (by simp [results, Try.results55, go_sem]) rfl ⟨rfl, ((((Below.refl _ _).alloc (Nat.le_refl _) _).alloc (by simp) _).alloc (by simp; omega) _)⟩
set_option maxRecDepth 100000 in
set_option maxHeartbeats 2000000 in
theorem toWantS_wb (a : Option Addr) (cap : Nat) (xs : List Wn) (w : World) (h : NRow celW w a xs) (hx : xs.length ≤ 1048576) :
    Calls Try.prog 24 #[.slice a xs.length cap] w fun r w' => r = .returned (.slice (some ⟨w.heap.size, 0, none⟩) xs.length xs.length) ∧ NRow celW w' (some ⟨w.heap.size, 0, none⟩) xs ∧ (∃ cur, w'.heap[w.heap.size]? = some (.cells cur 60 (0, 0)) ∧ cur.size = xs.length * 2) ∧ Below w.heap.size w w' := by
  obtain ⟨i0, hi, hz0, hz1, hz2⟩ := info_parts infoWant
  go_enter Try.func24, Try.ntmps24
  go_wp2_with fail
  rw [run_makeSlice w 28 60 i0 _ Try.underlying28 hi hz0 .i64 .i64 xs.length xs.length (by omega) (by omega) (by rw [hz1]; omega) (by rw [hz2]; omega) (by omega)]
  rw [hz1]
  simp only [Int.toNat_natCast]
  obtain ⟨W1, hW1⟩ : ∃ W1, W1 = w.alloc (.cells (madeCells (Value.agg #[.int .i64 0, .int .i64 0]).cells (xs.length * 2)) 60) := ⟨_, rfl⟩
  rw [← hW1]
  have T0 : Hid (TrN celW 60 w xs.length xs 0 W1) := by
    subst hW1
    exact ⟨(Below.refl _ _).alloc (Nat.le_refl _) _, ⟨_, heap_alloc_new _ _, by simp [madeCells, celW]⟩, fun i s hi => by omega⟩
  clear hW1 hi hz0 hz1 hz2
  go_wp2_with fail
  go_loopw [4] (fun i wr => ∃ (j : Nat), j ≤ xs.length ∧ i = .int .i64 j ∧ Hid (TrN celW 60 w xs.length xs j wr)) (fun i _ => xs.length - (intOf i).toNat)
  case atStart => exact ⟨0, Nat.zero_le _, rfl, T0⟩
  case round =>
    obtain ⟨j, hj, rfl, C⟩ := hrel
    by_cases hlt : j < xs.length
    · obtain ⟨x, hs⟩ : ∃ x, xs[j]? = some x := ⟨xs[j], List.getElem?_eq_getElem hlt⟩
      rcases h with h | ⟨b, off, rfl, hl, h⟩
      · simp [h] at hlt
      obtain ⟨c0, c1⟩ := celW.at ((h j x hs).later C.out.below hl)
      clear h
      simp only [show celW.n = 2 from rfl] at c0 c1
      go_wp2_with fail
      refine (toWant_any x _).mono ?_
      rintro r w2 ⟨rfl, hb2⟩
      have C2 : Hid (TrN celW 60 w xs.length xs j w2) := C.out.later hb2
      clear c0 c1 C hb2
      obtain ⟨⟨v0, d0⟩, f0⟩ := C2.out.cell (o := j * 2) (by show _ < xs.length * 2; omega)
      obtain ⟨⟨v1, d1⟩, f1⟩ := C2.out.cell (o := j * 2 + 1) (by show _ < xs.length * 2; omega)
      have hlw := C2.out.lt
      have hst : xs[j]? = some x := hs
      go_wp2_with fail
      refine ⟨⟨j + 1, by omega, by go_num, (C2.out.step hlt hst)⟩, by simp [intOf]; omega⟩
    · obtain rfl : j = xs.length := by omega
      have HA : Hid (TrN celW 60 w xs.length xs xs.length wr) := C.out
      clear C T0 h
      go_wp2_with fail
      go_ret
      refine ⟨rfl, Or.inr ⟨w.heap.size, 0, rfl, HA.out.lt, fun i s hs => ?_⟩, HA.out.row, HA.out.below⟩
      have := HA.out.done i s (by have := (List.getElem?_eq_some_iff.1 hs).1; omega) hs
      rw [Nat.zero_add]; exact this
set_option maxRecDepth 100000 in
set_option maxHeartbeats 1000000 in
theorem eqWant_same (x : Wn) (w : World) : Calls Try.prog 64 #[Value.agg #[.int .i64 x.s, .int .i64 x.n], Value.agg #[.int .i64 x.s, .int .i64 x.n]] w fun r w' => r = .returned (.bool true) ∧ Below w.heap.size w w' := by
  go_enter Try.func64, Try.ntmps64
  go_wp2_with fail
  go_ret
  exact ⟨rfl, ((Below.refl _ _).alloc (Nat.le_refl _) _).alloc (by simp) _⟩
set_option maxHeartbeats 1000000 in
set_option maxRecDepth 100000 in
theorem eqWantS_same (a1 a2 : Option Addr) (p1 p2 : Nat) (xs : List Wn) (w : World) (h1 : NRow celW w a1 xs) (h2 : NRow celW w a2 xs) (hx : xs.length ≤ 2000000) :
    Calls Try.prog 33 #[.slice a1 xs.length p1, .slice a2 xs.length p2] w fun r w' => r = .returned (.bool true) ∧ Below w.heap.size w w' := by
  go_enter Try.func33, Try.ntmps33
  go_wp2_with fail
  go_loopw [5] (fun i wr => ∃ (j : Nat), j ≤ xs.length ∧ i = .int .i64 j ∧ Hid (Below w.heap.size w wr)) (fun i _ => xs.length - (intOf i).toNat)
  case atStart => exact ⟨0, Nat.zero_le _, rfl, Below.refl _ _⟩
  case round =>
    obtain ⟨j, hj, rfl, C⟩ := hrel
    by_cases hlt : j < xs.length
    · obtain ⟨x, hs⟩ : ∃ x, xs[j]? = some x := ⟨xs[j], List.getElem?_eq_getElem hlt⟩
      rcases h1 with h | ⟨b, off, rfl, hl, h1⟩
      · simp [h] at hlt
      rcases h2 with h | ⟨b2, off2, rfl, hl2, h2⟩
      · simp [h] at hlt
      have hS0 : NumsAt wr.drew b (off + j * 2) (celW.cs x) ∧ NumsAt wr.drew b2 (off2 + j * 2) (celW.cs x) := ⟨(h1 j x hs).later C.out.drew hl, (h2 j x hs).later C.out.drew hl2⟩
      have hbd := C.out.drew
      clear h1 h2
      go_wp2_with fail
      refine wp_region_held_drew (S := fun w' => NumsAt w' b (off + j * 2) (celW.cs x) ∧ NumsAt w' b2 (off2 + j * 2) (celW.cs x)) (by kernel_rfl) hS0 (fun hS => ?_)
      refine take1 0 17 (.slice (some ⟨b, off, none⟩) xs.length p1) rfl rfl (by kernel_rfl) (by kernel_rfl) (by kernel_rfl) (by rfl) (fun _ _ _ h => h) hS (fun w' hS' => ?_) ?_
      · go_simp
      simp only [Act.put, List.setIfInBounds_toArray, List.set_cons_zero, List.set_cons_succ]
      refine take1 1 18 (.int .i64 j) rfl rfl (by kernel_rfl) (by kernel_rfl) (by kernel_rfl) (by rfl) (fun _ _ _ h => h) hS (fun w' hS' => ?_) ?_
      · go_simp
      simp only [Act.put, List.setIfInBounds_toArray, List.set_cons_zero, List.set_cons_succ]
      refine take1 2 19 (.pointer (some ⟨b, off + j * 2, none⟩)) rfl rfl (by kernel_rfl) (by kernel_rfl) (by kernel_rfl) (by rfl) (fun _ _ _ h => h) hS (fun w' hS' => ?_) ?_
      · go_simp
      simp only [Act.put, List.setIfInBounds_toArray, List.set_cons_zero, List.set_cons_succ]
      refine take1 3 20 (Value.agg #[.int .i64 x.s, .int .i64 x.n]) rfl rfl (by kernel_rfl) (by kernel_rfl) (by kernel_rfl) (by rfl) (fun _ _ _ h => h) hS (fun w' hS' => ?_) ?_
      · obtain ⟨c0, c1⟩ := celW.at hS'.1
        go_simp
      simp only [Act.put, List.setIfInBounds_toArray, List.set_cons_zero, List.set_cons_succ]
      refine take1 4 21 (.slice (some ⟨b2, off2, none⟩) xs.length p2) rfl rfl (by kernel_rfl) (by kernel_rfl) (by kernel_rfl) (by rfl) (fun _ _ _ h => h) hS (fun w' hS' => ?_) ?_
      · go_simp
      simp only [Act.put, List.setIfInBounds_toArray, List.set_cons_zero, List.set_cons_succ]
      refine take1 5 22 (.int .i64 j) rfl rfl (by kernel_rfl) (by kernel_rfl) (by kernel_rfl) (by rfl) (fun _ _ _ h => h) hS (fun w' hS' => ?_) ?_
      · go_simp
      simp only [Act.put, List.setIfInBounds_toArray, List.set_cons_zero, List.set_cons_succ]
      refine take1 6 23 (.pointer (some ⟨b2, off2 + j * 2, none⟩)) rfl rfl (by kernel_rfl) (by kernel_rfl) (by kernel_rfl) (by rfl) (fun _ _ _ h => h) hS (fun w' hS' => ?_) ?_
      · go_simp
      simp only [Act.put, List.setIfInBounds_toArray, List.set_cons_zero, List.set_cons_succ]
      refine take1 7 24 (Value.agg #[.int .i64 x.s, .int .i64 x.n]) rfl rfl (by kernel_rfl) (by kernel_rfl) (by kernel_rfl) (by rfl) (fun _ _ _ h => h) hS (fun w' hS' => ?_) ?_
      · obtain ⟨c0, c1⟩ := celW.at hS'.2
        go_simp
      simp only [Act.put, List.setIfInBounds_toArray, List.set_cons_zero, List.set_cons_succ]
      refine wpAnyH_ready (rs := [8]) (by kernel_rfl) (by simp) ?_
      refine AllReadyH.cons rfl (fun K hK => ?_) AllReadyH.nil
      go_simp
      refine (eqWant_same x _).mono ?_
      rintro r w2 ⟨rfl, hb2⟩
      have hsz := C.out.size
      have C2 : Hid (Below w.heap.size w w2) := hbd.trans (hb2.mono (by simpa using hsz))
      refine hK.out _ _ ⟨hS.1.later hb2 (by simp; omega), hS.2.later hb2 (by simp; omega)⟩ (fun hS2 => ?_)
      clear hK K hb2 hbd hS hS0 C
      refine take1 9 26 (.bool false) rfl rfl (by kernel_rfl) (by kernel_rfl) (by kernel_rfl) (by rfl) (fun _ _ _ h => h) hS2 (fun w' hS' => ?_) ?_
      · go_simp
      simp only [Act.put, List.setIfInBounds_toArray, List.set_cons_zero, List.set_cons_succ]
      refine wpAnyH_done (by kernel_rfl) ?_ _
      clear hS2
      go_wp2_with fail
      go_roundw
      case rel => exact ⟨j + 1, by omega, by go_num, C2⟩
      case measure => simp [intOf]; omega
    · obtain rfl : j = xs.length := by omega
      go_wp2_with fail
      go_ret
      exact ⟨rfl, C.out⟩
set_option maxHeartbeats 400000 in
theorem szWantS_any (a : Option Addr) (len cap : Nat) (q : Int) (w : World) (hq : 0 ≤ q) (hq2 : q ≤ 1048576) (hm : len ≤ 9223372036854775807) :
    Calls Try.prog 17 #[.slice a len cap, .int .i64 q] w fun r w' => r = .returned (.int .i64 (restI q len)) ∧ w' = w := by
  have hw : IntKind.i64.wrap (q - (len : Int)) = q - (len : Int) := wrapM (by omega) (by omega)
  unfold restI
  by_cases hn : q - (len : Int) < 0
  · rw [if_pos hn]
    go_enter Try.func17, Try.ntmps17
    go_wp2_with fail
    go_ret
    exact ⟨rfl, rfl⟩
  · rw [if_neg hn]
    go_enter Try.func17, Try.ntmps17
    go_wp2_with fail
    go_ret
    exact ⟨rfl, rfl⟩

set_option maxHeartbeats 400000 in
theorem toCall_any (x : Ca) (w : World) : Calls Try.prog 57 #[Value.agg #[.int .i64 x.p, .int .i64 x.k, .int .i64 x.t, .int .i64 x.n]] w fun r w' => r = .returned (Value.agg #[.int .i64 x.p, .int .i64 x.k, .int .i64 x.t, .int .i64 x.n]) ∧ Below w.heap.size w w' := by
  go_enter Try.func57, Try.ntmps57
  go_wp2
  exact bodyPost_ret (v := Value.agg #[.int .i64 x.p, .int .i64 x.k, .int .i64 x.t, .int .i64 x.n]) (by simp [results, Try.results57, go_sem]) rfl ⟨rfl, ((((Below.refl _ _).alloc (Nat.le_refl _) _).alloc (by simp) _).alloc (by simp; omega) _)⟩
set_option maxRecDepth 100000 in
set_option maxHeartbeats 2000000 in
theorem toCallS_wb (a : Option Addr) (cap : Nat) (xs : List Ca) (w : World) (h : NRow celC w a xs) (hx : xs.length ≤ 1048576) :
    Calls Try.prog 26 #[.slice a xs.length cap] w fun r w' => r = .returned (.slice (some ⟨w.heap.size, 0, none⟩) xs.length xs.length) ∧ NRow celC w' (some ⟨w.heap.size, 0, none⟩) xs ∧ (∃ cur, w'.heap[w.heap.size]? = some (.cells cur 71 (0, 0)) ∧ cur.size = xs.length * 4) ∧ Below w.heap.size w w' := by
  obtain ⟨i0, hi, hz0, hz1, hz2⟩ := info_parts infoCall
  go_enter Try.func26, Try.ntmps26
  go_wp2_with fail
  rw [run_makeSlice w 30 71 i0 _ Try.underlying30 hi hz0 .i64 .i64 xs.length xs.length (by omega) (by omega) (by rw [hz1]; omega) (by rw [hz2]; omega) (by omega)]
  rw [hz1]
  simp only [Int.toNat_natCast]
  obtain ⟨W1, hW1⟩ : ∃ W1, W1 = w.alloc (.cells (madeCells (Value.agg #[.int .i64 0, .int .i64 0, .int .i64 0, .int .i64 0]).cells (xs.length * 4)) 71) := ⟨_, rfl⟩
  rw [← hW1]
  have T0 : Hid (TrN celC 71 w xs.length xs 0 W1) := by
    subst hW1
    exact ⟨(Below.refl _ _).alloc (Nat.le_refl _) _, ⟨_, heap_alloc_new _ _, by simp [madeCells, celC]⟩, fun i s hi => by omega⟩
  clear hW1 hi hz0 hz1 hz2
  go_wp2_with fail
  go_loopw [4] (fun i wr => ∃ (j : Nat), j ≤ xs.length ∧ i = .int .i64 j ∧ Hid (TrN celC 71 w xs.length xs j wr)) (fun i _ => xs.length - (intOf i).toNat)
  case atStart => exact ⟨0, Nat.zero_le _, rfl, T0⟩
  case round =>
    obtain ⟨j, hj, rfl, C⟩ := hrel
    by_cases hlt : j < xs.length
    · obtain ⟨x, hs⟩ : ∃ x, xs[j]? = some x := ⟨xs[j], List.getElem?_eq_getElem hlt⟩
      rcases h with h | ⟨b, off, rfl, hl, h⟩
      · simp [h] at hlt
      obtain ⟨c0, c1, c2, c3⟩ := celC.at ((h j x hs).later C.out.below hl)
      clear h
      simp only [show celC.n = 4 from rfl] at c0 c1 c2 c3
      go_wp2_with fail
      refine (toCall_any x _).mono ?_
      rintro r w2 ⟨rfl, hb2⟩
      have C2 : Hid (TrN celC 71 w xs.length xs j w2) := C.out.later hb2
      clear c0 c1 c2 c3 C hb2
      obtain ⟨⟨v0, d0⟩, f0⟩ := C2.out.cell (o := j * 4) (by show _ < xs.length * 4; omega)
      obtain ⟨⟨v1, d1⟩, f1⟩ := C2.out.cell (o := j * 4 + 1) (by show _ < xs.length * 4; omega)
      obtain ⟨⟨v2, d2⟩, f2⟩ := C2.out.cell (o := j * 4 + 2) (by show _ < xs.length * 4; omega)
      obtain ⟨⟨v3, d3⟩, f3⟩ := C2.out.cell (o := j * 4 + 3) (by show _ < xs.length * 4; omega)
      have hlw := C2.out.lt
      have hst : xs[j]? = some x := hs
      go_wp2_with fail
      refine ⟨⟨j + 1, by omega, by go_num, (C2.out.step hlt hst)⟩, by simp [intOf]; omega⟩
    · obtain rfl : j = xs.length := by omega
      have HA : Hid (TrN celC 71 w xs.length xs xs.length wr) := C.out
      clear C T0 h
      go_wp2_with fail
      go_ret
      refine ⟨rfl, Or.inr ⟨w.heap.size, 0, rfl, HA.out.lt, fun i s hs => ?_⟩, HA.out.row, HA.out.below⟩
      have := HA.out.done i s (by have := (List.getElem?_eq_some_iff.1 hs).1; omega) hs
      rw [Nat.zero_add]; exact this
set_option maxRecDepth 100000 in
set_option maxHeartbeats 1000000 in
theorem eqCall_same (x : Ca) (w : World) : Calls Try.prog 66 #[Value.agg #[.int .i64 x.p, .int .i64 x.k, .int .i64 x.t, .int .i64 x.n], Value.agg #[.int .i64 x.p, .int .i64 x.k, .int .i64 x.t, .int .i64 x.n]] w fun r w' => r = .returned (.bool true) ∧ Below w.heap.size w w' := by
  go_enter Try.func66, Try.ntmps66
  go_wp2_with fail
  go_ret
  exact ⟨rfl, ((Below.refl _ _).alloc (Nat.le_refl _) _).alloc (by simp) _⟩
set_option maxHeartbeats 1000000 in
set_option maxRecDepth 100000 in
theorem eqCallS_same (a1 a2 : Option Addr) (p1 p2 : Nat) (xs : List Ca) (w : World) (h1 : NRow celC w a1 xs) (h2 : NRow celC w a2 xs) (hx : xs.length ≤ 2000000) :
    Calls Try.prog 35 #[.slice a1 xs.length p1, .slice a2 xs.length p2] w fun r w' => r = .returned (.bool true) ∧ Below w.heap.size w w' := by
  go_enter Try.func35, Try.ntmps35
  go_wp2_with fail
  go_loopw [5] (fun i wr => ∃ (j : Nat), j ≤ xs.length ∧ i = .int .i64 j ∧ Hid (Below w.heap.size w wr)) (fun i _ => xs.length - (intOf i).toNat)
  case atStart => exact ⟨0, Nat.zero_le _, rfl, Below.refl _ _⟩
  case round =>
    obtain ⟨j, hj, rfl, C⟩ := hrel
    by_cases hlt : j < xs.length
    · obtain ⟨x, hs⟩ : ∃ x, xs[j]? = some x := ⟨xs[j], List.getElem?_eq_getElem hlt⟩
      rcases h1 with h | ⟨b, off, rfl, hl, h1⟩
      · simp [h] at hlt
      rcases h2 with h | ⟨b2, off2, rfl, hl2, h2⟩
      · simp [h] at hlt
      have hS0 : NumsAt wr.drew b (off + j * 4) (celC.cs x) ∧ NumsAt wr.drew b2 (off2 + j * 4) (celC.cs x) := ⟨(h1 j x hs).later C.out.drew hl, (h2 j x hs).later C.out.drew hl2⟩
      have hbd := C.out.drew
      clear h1 h2
      go_wp2_with fail
      refine wp_region_held_drew (S := fun w' => NumsAt w' b (off + j * 4) (celC.cs x) ∧ NumsAt w' b2 (off2 + j * 4) (celC.cs x)) (by kernel_rfl) hS0 (fun hS => ?_)
      refine take1 0 17 (.slice (some ⟨b, off, none⟩) xs.length p1) rfl rfl (by kernel_rfl) (by kernel_rfl) (by kernel_rfl) (by rfl) (fun _ _ _ h => h) hS (fun w' hS' => ?_) ?_
      · go_simp
      simp only [Act.put, List.setIfInBounds_toArray, List.set_cons_zero, List.set_cons_succ]
      refine take1 1 18 (.int .i64 j) rfl rfl (by kernel_rfl) (by kernel_rfl) (by kernel_rfl) (by rfl) (fun _ _ _ h => h) hS (fun w' hS' => ?_) ?_
      · go_simp
      simp only [Act.put, List.setIfInBounds_toArray, List.set_cons_zero, List.set_cons_succ]
      refine take1 2 19 (.pointer (some ⟨b, off + j * 4, none⟩)) rfl rfl (by kernel_rfl) (by kernel_rfl) (by kernel_rfl) (by rfl) (fun _ _ _ h => h) hS (fun w' hS' => ?_) ?_
      · go_simp
      simp only [Act.put, List.setIfInBounds_toArray, List.set_cons_zero, List.set_cons_succ]
      refine take1 3 20 (Value.agg #[.int .i64 x.p, .int .i64 x.k, .int .i64 x.t, .int .i64 x.n]) rfl rfl (by kernel_rfl) (by kernel_rfl) (by kernel_rfl) (by rfl) (fun _ _ _ h => h) hS (fun w' hS' => ?_) ?_
      · obtain ⟨c0, c1, c2, c3⟩ := celC.at hS'.1
        go_simp
      simp only [Act.put, List.setIfInBounds_toArray, List.set_cons_zero, List.set_cons_succ]
      refine take1 4 21 (.slice (some ⟨b2, off2, none⟩) xs.length p2) rfl rfl (by kernel_rfl) (by kernel_rfl) (by kernel_rfl) (by rfl) (fun _ _ _ h => h) hS (fun w' hS' => ?_) ?_
      · go_simp
      simp only [Act.put, List.setIfInBounds_toArray, List.set_cons_zero, List.set_cons_succ]
      refine take1 5 22 (.int .i64 j) rfl rfl (by kernel_rfl) (by kernel_rfl) (by kernel_rfl) (by rfl) (fun _ _ _ h => h) hS (fun w' hS' => ?_) ?_
      · go_simp
      simp only [Act.put, List.setIfInBounds_toArray, List.set_cons_zero, List.set_cons_succ]
      refine take1 6 23 (.pointer (some ⟨b2, off2 + j * 4, none⟩)) rfl rfl (by kernel_rfl) (by kernel_rfl) (by kernel_rfl) (by rfl) (fun _ _ _ h => h) hS (fun w' hS' => ?_) ?_
      · go_simp
      simp only [Act.put, List.setIfInBounds_toArray, List.set_cons_zero, List.set_cons_succ]
      refine take1 7 24 (Value.agg #[.int .i64 x.p, .int .i64 x.k, .int .i64 x.t, .int .i64 x.n]) rfl rfl (by kernel_rfl) (by kernel_rfl) (by kernel_rfl) (by rfl) (fun _ _ _ h => h) hS (fun w' hS' => ?_) ?_
      · obtain ⟨c0, c1, c2, c3⟩ := celC.at hS'.2
        go_simp
      simp only [Act.put, List.setIfInBounds_toArray, List.set_cons_zero, List.set_cons_succ]
      refine wpAnyH_ready (rs := [8]) (by kernel_rfl) (by simp) ?_
      refine AllReadyH.cons rfl (fun K hK => ?_) AllReadyH.nil
      go_simp
      refine (eqCall_same x _).mono ?_
      rintro r w2 ⟨rfl, hb2⟩
      have hsz := C.out.size
      have C2 : Hid (Below w.heap.size w w2) := hbd.trans (hb2.mono (by simpa using hsz))
      refine hK.out _ _ ⟨hS.1.later hb2 (by simp; omega), hS.2.later hb2 (by simp; omega)⟩ (fun hS2 => ?_)
      clear hK K hb2 hbd hS hS0 C
      refine take1 9 26 (.bool false) rfl rfl (by kernel_rfl) (by kernel_rfl) (by kernel_rfl) (by rfl) (fun _ _ _ h => h) hS2 (fun w' hS' => ?_) ?_
      · go_simp
      simp only [Act.put, List.setIfInBounds_toArray, List.set_cons_zero, List.set_cons_succ]
      refine wpAnyH_done (by kernel_rfl) ?_ _
      clear hS2
      go_wp2_with fail
      go_roundw
      case rel => exact ⟨j + 1, by omega, by go_num, C2⟩
      case measure => simp [intOf]; omega
    · obtain rfl : j = xs.length := by omega
      go_wp2_with fail
      go_ret
      exact ⟨rfl, C.out⟩
set_option maxHeartbeats 400000 in
theorem szCallS_any (a : Option Addr) (len cap : Nat) (q : Int) (w : World) (hq : 0 ≤ q) (hq2 : q ≤ 1048576) (hm : len ≤ 9223372036854775807) :
    Calls Try.prog 19 #[.slice a len cap, .int .i64 q] w fun r w' => r = .returned (.int .i64 (restI q len)) ∧ w' = w := by
  have hw : IntKind.i64.wrap (q - (len : Int)) = q - (len : Int) := wrapM (by omega) (by omega)
  unfold restI
  by_cases hn : q - (len : Int) < 0
  · rw [if_pos hn]
    go_enter Try.func19, Try.ntmps19
    go_wp2_with fail
    go_ret
    exact ⟨rfl, rfl⟩
  · rw [if_neg hn]
    go_enter Try.func19, Try.ntmps19
    go_wp2_with fail
    go_ret
    exact ⟨rfl, rfl⟩

set_option maxHeartbeats 1000000 in
set_option maxRecDepth 100000 in
theorem toCred_any (x : Cd) (w : World) : Calls Try.prog 56 #[Value.agg #[.int .i64 x.s, .int .i64 x.k, .int .i64 x.u, .int .i64 x.x.k, .int .i64 x.x.t, .int .i64 x.x.a, .int .i64 x.x.b, .int .i64 x.x.c, .int .i64 x.x.d, .int .i64 x.x.e]] w fun r w' => r = .returned (Value.agg #[.int .i64 x.s, .int .i64 x.k, .int .i64 x.u, .int .i64 x.x.k, .int .i64 x.x.t, .int .i64 x.x.a, .int .i64 x.x.b, .int .i64 x.x.c, .int .i64 x.x.d, .int .i64 x.x.e]) ∧ Below w.heap.size w w' := by
  obtain ⟨W, hW⟩ : ∃ W, W = (((w.alloc (.cells #[.int .i64 x.s, .int .i64 x.k, .int .i64 x.u, .int .i64 x.x.k, .int .i64 x.x.t, .int .i64 x.x.a, .int .i64 x.x.b, .int .i64 x.x.c, .int .i64 x.x.d, .int .i64 x.x.e] 82)).alloc (.cells #[.int .i64 0, .int .i64 0, .int .i64 0, .int .i64 0, .int .i64 0, .int .i64 0, .int .i64 0, .int .i64 0, .int .i64 0, .int .i64 0] 56)).alloc (.cells #[.int .i64 x.s, .int .i64 x.k, .int .i64 x.u, .int .i64 0, .int .i64 0, .int .i64 0, .int .i64 0, .int .i64 0, .int .i64 0, .int .i64 0] 56)) := ⟨_, rfl⟩
  have hz : W.heap.size = w.heap.size + 3 := by subst hW; simp
  have B0 : Below w.heap.size w W := hW ▸ (((Below.refl _ _).alloc (Nat.le_refl _) _).alloc (by simp) _).alloc (by simp; omega) _
  have R1 : W.heap[w.heap.size + 1]? = some (.cells #[.int .i64 0, .int .i64 0, .int .i64 0, .int .i64 0, .int .i64 0, .int .i64 0, .int .i64 0, .int .i64 0, .int .i64 0, .int .i64 0] 56 (0, 0)) := by
    subst hW
    rw [Below.heap_alloc _ _ _ (by simp)]
    have e := heap_alloc_new (w.alloc (.cells #[.int .i64 x.s, .int .i64 x.k, .int .i64 x.u, .int .i64 x.x.k, .int .i64 x.x.t, .int .i64 x.x.a, .int .i64 x.x.b, .int .i64 x.x.c, .int .i64 x.x.d, .int .i64 x.x.e] 82)) (.cells #[.int .i64 0, .int .i64 0, .int .i64 0, .int .i64 0, .int .i64 0, .int .i64 0, .int .i64 0, .int .i64 0, .int .i64 0, .int .i64 0] 56)
    simpa using e
  have R2 : W.heap[w.heap.size + 1 + 1]? = some (.cells #[.int .i64 x.s, .int .i64 x.k, .int .i64 x.u, .int .i64 0, .int .i64 0, .int .i64 0, .int .i64 0, .int .i64 0, .int .i64 0, .int .i64 0] 56 (0, 0)) := by
    subst hW
    have e := heap_alloc_new ((w.alloc (.cells #[.int .i64 x.s, .int .i64 x.k, .int .i64 x.u, .int .i64 x.x.k, .int .i64 x.x.t, .int .i64 x.x.a, .int .i64 x.x.b, .int .i64 x.x.c, .int .i64 x.x.d, .int .i64 x.x.e] 82)).alloc (.cells #[.int .i64 0, .int .i64 0, .int .i64 0, .int .i64 0, .int .i64 0, .int .i64 0, .int .i64 0, .int .i64 0, .int .i64 0, .int .i64 0] 56)) (.cells #[.int .i64 x.s, .int .i64 x.k, .int .i64 x.u, .int .i64 0, .int .i64 0, .int .i64 0, .int .i64 0, .int .i64 0, .int .i64 0, .int .i64 0] 56)
    simpa using e
  go_enter Try.func56, Try.ntmps56
  go_wp2_with fail
  rw [← hW]
  clear hW
  refine (toSeal_any _ _ _ _ _ _ _ _).mono ?_
  rintro r w2 ⟨rfl, hb2⟩
  have HB : Hid (Below w.heap.size w w2 ∧ w.heap.size + 3 ≤ w2.heap.size) := ⟨B0.trans (hb2.mono (by omega)), by have := hb2.size; omega⟩
  have S1 := (hb2.block _ (by omega)).trans R1
  have S2 := (hb2.block _ (by omega)).trans R2
  clear hb2 B0 R1 R2 hz
  have L1 : w.heap.size + 1 < w2.heap.size := by have := HB.out.2; omega
  have L2 : w.heap.size + 1 + 1 < w2.heap.size := by have := HB.out.2; omega
  have k0 : w2.cell? ⟨w.heap.size + 1 + 1, 0, none⟩ = some (.int .i64 x.s) := by simp [World.cell?, S2]
  have r0 : w2.cell? ⟨w.heap.size + 1, 0, none⟩ = some (.int .i64 0) := by simp [World.cell?, S1]
  have fk0 : w2.frozen? ⟨w.heap.size + 1 + 1, 0, none⟩ = false := by simp [World.frozen?, S2]
  have fr0 : w2.frozen? ⟨w.heap.size + 1, 0, none⟩ = false := by simp [World.frozen?, S1]
  have k1 : w2.cell? ⟨w.heap.size + 1 + 1, 1, none⟩ = some (.int .i64 x.k) := by simp [World.cell?, S2]
  have r1 : w2.cell? ⟨w.heap.size + 1, 1, none⟩ = some (.int .i64 0) := by simp [World.cell?, S1]
  have fk1 : w2.frozen? ⟨w.heap.size + 1 + 1, 1, none⟩ = false := by simp [World.frozen?, S2]
  have fr1 : w2.frozen? ⟨w.heap.size + 1, 1, none⟩ = false := by simp [World.frozen?, S1]
  have k2 : w2.cell? ⟨w.heap.size + 1 + 1, 2, none⟩ = some (.int .i64 x.u) := by simp [World.cell?, S2]
  have r2 : w2.cell? ⟨w.heap.size + 1, 2, none⟩ = some (.int .i64 0) := by simp [World.cell?, S1]
  have fk2 : w2.frozen? ⟨w.heap.size + 1 + 1, 2, none⟩ = false := by simp [World.frozen?, S2]
  have fr2 : w2.frozen? ⟨w.heap.size + 1, 2, none⟩ = false := by simp [World.frozen?, S1]
  have k3 : w2.cell? ⟨w.heap.size + 1 + 1, 3, none⟩ = some (.int .i64 0) := by simp [World.cell?, S2]
  have r3 : w2.cell? ⟨w.heap.size + 1, 3, none⟩ = some (.int .i64 0) := by simp [World.cell?, S1]
  have fk3 : w2.frozen? ⟨w.heap.size + 1 + 1, 3, none⟩ = false := by simp [World.frozen?, S2]
  have fr3 : w2.frozen? ⟨w.heap.size + 1, 3, none⟩ = false := by simp [World.frozen?, S1]
  have k4 : w2.cell? ⟨w.heap.size + 1 + 1, 4, none⟩ = some (.int .i64 0) := by simp [World.cell?, S2]
  have r4 : w2.cell? ⟨w.heap.size + 1, 4, none⟩ = some (.int .i64 0) := by simp [World.cell?, S1]
  have fk4 : w2.frozen? ⟨w.heap.size + 1 + 1, 4, none⟩ = false := by simp [World.frozen?, S2]
  have fr4 : w2.frozen? ⟨w.heap.size + 1, 4, none⟩ = false := by simp [World.frozen?, S1]
  have k5 : w2.cell? ⟨w.heap.size + 1 + 1, 5, none⟩ = some (.int .i64 0) := by simp [World.cell?, S2]
  have r5 : w2.cell? ⟨w.heap.size + 1, 5, none⟩ = some (.int .i64 0) := by simp [World.cell?, S1]
  have fk5 : w2.frozen? ⟨w.heap.size + 1 + 1, 5, none⟩ = false := by simp [World.frozen?, S2]
  have fr5 : w2.frozen? ⟨w.heap.size + 1, 5, none⟩ = false := by simp [World.frozen?, S1]
  have k6 : w2.cell? ⟨w.heap.size + 1 + 1, 6, none⟩ = some (.int .i64 0) := by simp [World.cell?, S2]
  have r6 : w2.cell? ⟨w.heap.size + 1, 6, none⟩ = some (.int .i64 0) := by simp [World.cell?, S1]
  have fk6 : w2.frozen? ⟨w.heap.size + 1 + 1, 6, none⟩ = false := by simp [World.frozen?, S2]
  have fr6 : w2.frozen? ⟨w.heap.size + 1, 6, none⟩ = false := by simp [World.frozen?, S1]
  have k7 : w2.cell? ⟨w.heap.size + 1 + 1, 7, none⟩ = some (.int .i64 0) := by simp [World.cell?, S2]
  have r7 : w2.cell? ⟨w.heap.size + 1, 7, none⟩ = some (.int .i64 0) := by simp [World.cell?, S1]
  have fk7 : w2.frozen? ⟨w.heap.size + 1 + 1, 7, none⟩ = false := by simp [World.frozen?, S2]
  have fr7 : w2.frozen? ⟨w.heap.size + 1, 7, none⟩ = false := by simp [World.frozen?, S1]
  have k8 : w2.cell? ⟨w.heap.size + 1 + 1, 8, none⟩ = some (.int .i64 0) := by simp [World.cell?, S2]
  have r8 : w2.cell? ⟨w.heap.size + 1, 8, none⟩ = some (.int .i64 0) := by simp [World.cell?, S1]
  have fk8 : w2.frozen? ⟨w.heap.size + 1 + 1, 8, none⟩ = false := by simp [World.frozen?, S2]
  have fr8 : w2.frozen? ⟨w.heap.size + 1, 8, none⟩ = false := by simp [World.frozen?, S1]
  have k9 : w2.cell? ⟨w.heap.size + 1 + 1, 9, none⟩ = some (.int .i64 0) := by simp [World.cell?, S2]
  have r9 : w2.cell? ⟨w.heap.size + 1, 9, none⟩ = some (.int .i64 0) := by simp [World.cell?, S1]
  have fk9 : w2.frozen? ⟨w.heap.size + 1 + 1, 9, none⟩ = false := by simp [World.frozen?, S2]
  have fr9 : w2.frozen? ⟨w.heap.size + 1, 9, none⟩ = false := by simp [World.frozen?, S1]
  clear S1 S2
  go_wp2_with fail
  refine bodyPost_ret (v := Value.agg #[.int .i64 x.s, .int .i64 x.k, .int .i64 x.u, .int .i64 x.x.k, .int .i64 x.x.t, .int .i64 x.x.a, .int .i64 x.x.b, .int .i64 x.x.c, .int .i64 x.x.d, .int .i64 x.x.e]) (by simp [results, Try.results56, go_sem, *]) rfl ⟨rfl, ?_⟩
  exact (((((((((((((((((HB.out.1.setCell (p := ⟨w.heap.size + 1 + 1, 3, none⟩) (by show w.heap.size ≤ w.heap.size + 1 + 1; omega) _).setCell (p := ⟨w.heap.size + 1 + 1, 4, none⟩) (by show w.heap.size ≤ w.heap.size + 1 + 1; omega) _).setCell (p := ⟨w.heap.size + 1 + 1, 5, none⟩) (by show w.heap.size ≤ w.heap.size + 1 + 1; omega) _).setCell (p := ⟨w.heap.size + 1 + 1, 6, none⟩) (by show w.heap.size ≤ w.heap.size + 1 + 1; omega) _).setCell (p := ⟨w.heap.size + 1 + 1, 7, none⟩) (by show w.heap.size ≤ w.heap.size + 1 + 1; omega) _).setCell (p := ⟨w.heap.size + 1 + 1, 8, none⟩) (by show w.heap.size ≤ w.heap.size + 1 + 1; omega) _).setCell (p := ⟨w.heap.size + 1 + 1, 9, none⟩) (by show w.heap.size ≤ w.heap.size + 1 + 1; omega) _).setCell (p := ⟨w.heap.size + 1, 0, none⟩) (by show w.heap.size ≤ w.heap.size + 1; omega) _).setCell (p := ⟨w.heap.size + 1, 1, none⟩) (by show w.heap.size ≤ w.heap.size + 1; omega) _).setCell (p := ⟨w.heap.size + 1, 2, none⟩) (by show w.heap.size ≤ w.heap.size + 1; omega) _).setCell (p := ⟨w.heap.size + 1, 3, none⟩) (by show w.heap.size ≤ w.heap.size + 1; omega) _).setCell (p := ⟨w.heap.size + 1, 4, none⟩) (by show w.heap.size ≤ w.heap.size + 1; omega) _).setCell (p := ⟨w.heap.size + 1, 5, none⟩) (by show w.heap.size ≤ w.heap.size + 1; omega) _).setCell (p := ⟨w.heap.size + 1, 6, none⟩) (by show w.heap.size ≤ w.heap.size + 1; omega) _).setCell (p := ⟨w.heap.size + 1, 7, none⟩) (by show w.heap.size ≤ w.heap.size + 1; omega) _).setCell (p := ⟨w.heap.size + 1, 8, none⟩) (by show w.heap.size ≤ w.heap.size + 1; omega) _).setCell (p := ⟨w.heap.size + 1, 9, none⟩) (by show w.heap.size ≤ w.heap.size + 1; omega) _)
set_option maxRecDepth 100000 in
set_option maxHeartbeats 2000000 in
theorem toCredS_wb (a : Option Addr) (cap : Nat) (xs : List Cd) (w : World) (h : NRow celD w a xs) (hx : xs.length ≤ 1048576) :
    Calls Try.prog 25 #[.slice a xs.length cap] w fun r w' => r = .returned (.slice (some ⟨w.heap.size, 0, none⟩) xs.length xs.length) ∧ NRow celD w' (some ⟨w.heap.size, 0, none⟩) xs ∧ (∃ cur, w'.heap[w.heap.size]? = some (.cells cur 56 (0, 0)) ∧ cur.size = xs.length * 10) ∧ Below w.heap.size w w' := by
  obtain ⟨i0, hi, hz0, hz1, hz2⟩ := info_parts infoCred
  go_enter Try.func25, Try.ntmps25
  go_wp2_with fail
  rw [run_makeSlice w 29 56 i0 _ Try.underlying29 hi hz0 .i64 .i64 xs.length xs.length (by omega) (by omega) (by rw [hz1]; omega) (by rw [hz2]; omega) (by omega)]
  rw [hz1]
  simp only [Int.toNat_natCast]
  obtain ⟨W1, hW1⟩ : ∃ W1, W1 = w.alloc (.cells (madeCells (Value.agg #[.int .i64 0, .int .i64 0, .int .i64 0, .int .i64 0, .int .i64 0, .int .i64 0, .int .i64 0, .int .i64 0, .int .i64 0, .int .i64 0]).cells (xs.length * 10)) 56) := ⟨_, rfl⟩
  rw [← hW1]
  have T0 : Hid (TrN celD 56 w xs.length xs 0 W1) := by
    subst hW1
    exact ⟨(Below.refl _ _).alloc (Nat.le_refl _) _, ⟨_, heap_alloc_new _ _, by simp [madeCells, celD]⟩, fun i s hi => by omega⟩
  clear hW1 hi hz0 hz1 hz2
  go_wp2_with fail
  go_loopw [4] (fun i wr => ∃ (j : Nat), j ≤ xs.length ∧ i = .int .i64 j ∧ Hid (TrN celD 56 w xs.length xs j wr)) (fun i _ => xs.length - (intOf i).toNat)
  case atStart => exact ⟨0, Nat.zero_le _, rfl, T0⟩
  case round =>
    obtain ⟨j, hj, rfl, C⟩ := hrel
    by_cases hlt : j < xs.length
    · obtain ⟨x, hs⟩ : ∃ x, xs[j]? = some x := ⟨xs[j], List.getElem?_eq_getElem hlt⟩
      rcases h with h | ⟨b, off, rfl, hl, h⟩
      · simp [h] at hlt
      obtain ⟨c0, c1, c2, c3, c4, c5, c6, c7, c8, c9⟩ := celD.at ((h j x hs).later C.out.below hl)
      clear h
      simp only [show celD.n = 10 from rfl] at c0 c1 c2 c3 c4 c5 c6 c7 c8 c9
      go_wp2_with fail
      refine (toCred_any x _).mono ?_
      rintro r w2 ⟨rfl, hb2⟩
      have C2 : Hid (TrN celD 56 w xs.length xs j w2) := C.out.later hb2
      clear c0 c1 c2 c3 c4 c5 c6 c7 c8 c9 C hb2
      obtain ⟨⟨v0, d0⟩, f0⟩ := C2.out.cell (o := j * 10) (by show _ < xs.length * 10; omega)
      obtain ⟨⟨v1, d1⟩, f1⟩ := C2.out.cell (o := j * 10 + 1) (by show _ < xs.length * 10; omega)
      obtain ⟨⟨v2, d2⟩, f2⟩ := C2.out.cell (o := j * 10 + 2) (by show _ < xs.length * 10; omega)
      obtain ⟨⟨v3, d3⟩, f3⟩ := C2.out.cell (o := j * 10 + 3) (by show _ < xs.length * 10; omega)
      obtain ⟨⟨v4, d4⟩, f4⟩ := C2.out.cell (o := j * 10 + 4) (by show _ < xs.length * 10; omega)
      obtain ⟨⟨v5, d5⟩, f5⟩ := C2.out.cell (o := j * 10 + 5) (by show _ < xs.length * 10; omega)
      obtain ⟨⟨v6, d6⟩, f6⟩ := C2.out.cell (o := j * 10 + 6) (by show _ < xs.length * 10; omega)
      obtain ⟨⟨v7, d7⟩, f7⟩ := C2.out.cell (o := j * 10 + 7) (by show _ < xs.length * 10; omega)
      obtain ⟨⟨v8, d8⟩, f8⟩ := C2.out.cell (o := j * 10 + 8) (by show _ < xs.length * 10; omega)
      obtain ⟨⟨v9, d9⟩, f9⟩ := C2.out.cell (o := j * 10 + 9) (by show _ < xs.length * 10; omega)
      have hlw := C2.out.lt
      have hst : xs[j]? = some x := hs
      go_wp2_with fail
      refine ⟨⟨j + 1, by omega, by go_num, (C2.out.step hlt hst)⟩, by simp [intOf]; omega⟩
    · obtain rfl : j = xs.length := by omega
      have HA : Hid (TrN celD 56 w xs.length xs xs.length wr) := C.out
      clear C T0 h
      go_wp2_with fail
      go_ret
      refine ⟨rfl, Or.inr ⟨w.heap.size, 0, rfl, HA.out.lt, fun i s hs => ?_⟩, HA.out.row, HA.out.below⟩
      have := HA.out.done i s (by have := (List.getElem?_eq_some_iff.1 hs).1; omega) hs
      rw [Nat.zero_add]; exact this
set_option maxRecDepth 100000 in
set_option maxHeartbeats 1000000 in
theorem eqSealV_same (s : Sl) (w : World) : Calls Try.prog 67 #[.agg #[.int .i64 s.k, .int .i64 s.t, .int .i64 s.a, .int .i64 s.b, .int .i64 s.c, .int .i64 s.d, .int .i64 s.e], .agg #[.int .i64 s.k, .int .i64 s.t, .int .i64 s.a, .int .i64 s.b, .int .i64 s.c, .int .i64 s.d, .int .i64 s.e]] w fun r w' => r = .returned (.bool true) ∧ Below w.heap.size w w' := by
  go_enter Try.func67, Try.ntmps67
  go_wp2_with fail
  go_ret
  exact ⟨rfl, ((Below.refl _ _).alloc (Nat.le_refl _) _).alloc (by simp) _⟩
set_option maxRecDepth 100000 in
set_option maxHeartbeats 1000000 in
theorem eqCred_same (x : Cd) (w : World) : Calls Try.prog 65 #[Value.agg #[.int .i64 x.s, .int .i64 x.k, .int .i64 x.u, .int .i64 x.x.k, .int .i64 x.x.t, .int .i64 x.x.a, .int .i64 x.x.b, .int .i64 x.x.c, .int .i64 x.x.d, .int .i64 x.x.e], Value.agg #[.int .i64 x.s, .int .i64 x.k, .int .i64 x.u, .int .i64 x.x.k, .int .i64 x.x.t, .int .i64 x.x.a, .int .i64 x.x.b, .int .i64 x.x.c, .int .i64 x.x.d, .int .i64 x.x.e]] w fun r w' => r = .returned (.bool true) ∧ Below w.heap.size w w' := by
  go_enter Try.func65, Try.ntmps65
  go_wp2_with fail
  refine (eqSealV_same x.x _).mono ?_
  rintro r w2 ⟨rfl, hb2⟩
  go_wp2_with fail
  go_ret
  exact ⟨rfl, (((Below.refl _ _).alloc (Nat.le_refl _) _).alloc (by simp) _).trans (hb2.mono (by simp; omega))⟩
set_option maxHeartbeats 1000000 in
set_option maxRecDepth 100000 in
theorem eqCredS_same (a1 a2 : Option Addr) (p1 p2 : Nat) (xs : List Cd) (w : World) (h1 : NRow celD w a1 xs) (h2 : NRow celD w a2 xs) (hx : xs.length ≤ 2000000) :
    Calls Try.prog 34 #[.slice a1 xs.length p1, .slice a2 xs.length p2] w fun r w' => r = .returned (.bool true) ∧ Below w.heap.size w w' := by
  go_enter Try.func34, Try.ntmps34
  go_wp2_with fail
  go_loopw [5] (fun i wr => ∃ (j : Nat), j ≤ xs.length ∧ i = .int .i64 j ∧ Hid (Below w.heap.size w wr)) (fun i _ => xs.length - (intOf i).toNat)
  case atStart => exact ⟨0, Nat.zero_le _, rfl, Below.refl _ _⟩
  case round =>
    obtain ⟨j, hj, rfl, C⟩ := hrel
    by_cases hlt : j < xs.length
    · obtain ⟨x, hs⟩ : ∃ x, xs[j]? = some x := ⟨xs[j], List.getElem?_eq_getElem hlt⟩
      rcases h1 with h | ⟨b, off, rfl, hl, h1⟩
      · simp [h] at hlt
      rcases h2 with h | ⟨b2, off2, rfl, hl2, h2⟩
      · simp [h] at hlt
      have hS0 : NumsAt wr.drew b (off + j * 10) (celD.cs x) ∧ NumsAt wr.drew b2 (off2 + j * 10) (celD.cs x) := ⟨(h1 j x hs).later C.out.drew hl, (h2 j x hs).later C.out.drew hl2⟩
      have hbd := C.out.drew
      clear h1 h2
      go_wp2_with fail
      refine wp_region_held_drew (S := fun w' => NumsAt w' b (off + j * 10) (celD.cs x) ∧ NumsAt w' b2 (off2 + j * 10) (celD.cs x)) (by kernel_rfl) hS0 (fun hS => ?_)
      refine take1 0 17 (.slice (some ⟨b, off, none⟩) xs.length p1) rfl rfl (by kernel_rfl) (by kernel_rfl) (by kernel_rfl) (by rfl) (fun _ _ _ h => h) hS (fun w' hS' => ?_) ?_
      · go_simp
      simp only [Act.put, List.setIfInBounds_toArray, List.set_cons_zero, List.set_cons_succ]
      refine take1 1 18 (.int .i64 j) rfl rfl (by kernel_rfl) (by kernel_rfl) (by kernel_rfl) (by rfl) (fun _ _ _ h => h) hS (fun w' hS' => ?_) ?_
      · go_simp
      simp only [Act.put, List.setIfInBounds_toArray, List.set_cons_zero, List.set_cons_succ]
      refine take1 2 19 (.pointer (some ⟨b, off + j * 10, none⟩)) rfl rfl (by kernel_rfl) (by kernel_rfl) (by kernel_rfl) (by rfl) (fun _ _ _ h => h) hS (fun w' hS' => ?_) ?_
      · go_simp
      simp only [Act.put, List.setIfInBounds_toArray, List.set_cons_zero, List.set_cons_succ]
      refine take1 3 20 (Value.agg #[.int .i64 x.s, .int .i64 x.k, .int .i64 x.u, .int .i64 x.x.k, .int .i64 x.x.t, .int .i64 x.x.a, .int .i64 x.x.b, .int .i64 x.x.c, .int .i64 x.x.d, .int .i64 x.x.e]) rfl rfl (by kernel_rfl) (by kernel_rfl) (by kernel_rfl) (by rfl) (fun _ _ _ h => h) hS (fun w' hS' => ?_) ?_
      · obtain ⟨c0, c1, c2, c3, c4, c5, c6, c7, c8, c9⟩ := celD.at hS'.1
        go_simp
      simp only [Act.put, List.setIfInBounds_toArray, List.set_cons_zero, List.set_cons_succ]
      refine take1 4 21 (.slice (some ⟨b2, off2, none⟩) xs.length p2) rfl rfl (by kernel_rfl) (by kernel_rfl) (by kernel_rfl) (by rfl) (fun _ _ _ h => h) hS (fun w' hS' => ?_) ?_
      · go_simp
      simp only [Act.put, List.setIfInBounds_toArray, List.set_cons_zero, List.set_cons_succ]
      refine take1 5 22 (.int .i64 j) rfl rfl (by kernel_rfl) (by kernel_rfl) (by kernel_rfl) (by rfl) (fun _ _ _ h => h) hS (fun w' hS' => ?_) ?_
      · go_simp
      simp only [Act.put, List.setIfInBounds_toArray, List.set_cons_zero, List.set_cons_succ]
      refine take1 6 23 (.pointer (some ⟨b2, off2 + j * 10, none⟩)) rfl rfl (by kernel_rfl) (by kernel_rfl) (by kernel_rfl) (by rfl) (fun _ _ _ h => h) hS (fun w' hS' => ?_) ?_
      · go_simp
      simp only [Act.put, List.setIfInBounds_toArray, List.set_cons_zero, List.set_cons_succ]
      refine take1 7 24 (Value.agg #[.int .i64 x.s, .int .i64 x.k, .int .i64 x.u, .int .i64 x.x.k, .int .i64 x.x.t, .int .i64 x.x.a, .int .i64 x.x.b, .int .i64 x.x.c, .int .i64 x.x.d, .int .i64 x.x.e]) rfl rfl (by kernel_rfl) (by kernel_rfl) (by kernel_rfl) (by rfl) (fun _ _ _ h => h) hS (fun w' hS' => ?_) ?_
      · obtain ⟨c0, c1, c2, c3, c4, c5, c6, c7, c8, c9⟩ := celD.at hS'.2
        go_simp
      simp only [Act.put, List.setIfInBounds_toArray, List.set_cons_zero, List.set_cons_succ]
      refine wpAnyH_ready (rs := [8]) (by kernel_rfl) (by simp) ?_
      refine AllReadyH.cons rfl (fun K hK => ?_) AllReadyH.nil
      go_simp
      refine (eqCred_same x _).mono ?_
      rintro r w2 ⟨rfl, hb2⟩
      have hsz := C.out.size
      have C2 : Hid (Below w.heap.size w w2) := hbd.trans (hb2.mono (by simpa using hsz))
      refine hK.out _ _ ⟨hS.1.later hb2 (by simp; omega), hS.2.later hb2 (by simp; omega)⟩ (fun hS2 => ?_)
      clear hK K hb2 hbd hS hS0 C
      refine take1 9 26 (.bool false) rfl rfl (by kernel_rfl) (by kernel_rfl) (by kernel_rfl) (by rfl) (fun _ _ _ h => h) hS2 (fun w' hS' => ?_) ?_
      · go_simp
      simp only [Act.put, List.setIfInBounds_toArray, List.set_cons_zero, List.set_cons_succ]
      refine wpAnyH_done (by kernel_rfl) ?_ _
      clear hS2
      go_wp2_with fail
      go_roundw
      case rel => exact ⟨j + 1, by omega, by go_num, C2⟩
      case measure => simp [intOf]; omega
    · obtain rfl : j = xs.length := by omega
      go_wp2_with fail
      go_ret
      exact ⟨rfl, C.out⟩
set_option maxHeartbeats 400000 in
theorem szCredS_any (a : Option Addr) (len cap : Nat) (q : Int) (w : World) (hq : 0 ≤ q) (hq2 : q ≤ 1048576) (hm : len ≤ 9223372036854775807) :
    Calls Try.prog 18 #[.slice a len cap, .int .i64 q] w fun r w' => r = .returned (.int .i64 (restI q len)) ∧ w' = w := by
  have hw : IntKind.i64.wrap (q - (len : Int)) = q - (len : Int) := wrapM (by omega) (by omega)
  unfold restI
  by_cases hn : q - (len : Int) < 0
  · rw [if_pos hn]
    go_enter Try.func18, Try.ntmps18
    go_wp2_with fail
    go_ret
    exact ⟨rfl, rfl⟩
  · rw [if_neg hn]
    go_enter Try.func18, Try.ntmps18
    go_wp2_with fail
    go_ret
    exact ⟨rfl, rfl⟩

end Go.Proofs.Ythkngdbhddedpaa
