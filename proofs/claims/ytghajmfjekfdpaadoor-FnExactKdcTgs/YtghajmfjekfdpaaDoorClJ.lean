/-
  What a user waits for, has, and whom he called: their numbers, and rows of them.
-/
import Derived.Test.YtghajmfjekfdpaaDoorNRow
import Derived.Test.YtghajmfjekfdpaaDoorSealTo
namespace Go.Proofs.YtghajmfjekfdpaaDoor
open Go.RowKit

/-- What is waited for. -/
structure Wn where
  s : Int
  n : Int
/-- A call. -/
structure Ca where
  p : Int
  k : Int
  t : Int
  n : Int
/-- What one has for somebody. -/
structure Cd where
  s : Int
  k : Int
  u : Int
  x : Sl
def Wn.v (x : Wn) : Value := .agg #[.int .i64 x.s, .int .i64 x.n]
def Ca.v (x : Ca) : Value := .agg #[.int .i64 x.p, .int .i64 x.k, .int .i64 x.t, .int .i64 x.n]
def Cd.v (x : Cd) : Value := .agg #[.int .i64 x.s, .int .i64 x.k, .int .i64 x.u, .int .i64 x.x.k, .int .i64 x.x.t, .int .i64 x.x.a, .int .i64 x.x.b, .int .i64 x.x.c, .int .i64 x.x.d, .int .i64 x.x.e]
def celW : Cel Wn := ⟨fun x => [x.s, x.n], 2, fun _ => rfl, by decide⟩
def celC : Cel Ca := ⟨fun x => [x.p, x.k, x.t, x.n], 4, fun _ => rfl, by decide⟩
def celD : Cel Cd := ⟨fun x => [x.s, x.k, x.u, x.x.k, x.x.t, x.x.a, x.x.b, x.x.c, x.x.d, x.x.e], 10, fun _ => rfl, by decide⟩
theorem celW.at {w : World} {b o : Nat} {x : Wn} (h : NumsAt w b o (celW.cs x)) : w.cell? ⟨b, o, none⟩ = some (.int .i64 x.s) ∧ w.cell? ⟨b, o + 1, none⟩ = some (.int .i64 x.n) := ⟨h 0 _ rfl, h 1 _ rfl⟩
theorem celC.at {w : World} {b o : Nat} {x : Ca} (h : NumsAt w b o (celC.cs x)) : w.cell? ⟨b, o, none⟩ = some (.int .i64 x.p) ∧ w.cell? ⟨b, o + 1, none⟩ = some (.int .i64 x.k) ∧ w.cell? ⟨b, o + 2, none⟩ = some (.int .i64 x.t) ∧ w.cell? ⟨b, o + 3, none⟩ = some (.int .i64 x.n) := ⟨h 0 _ rfl, h 1 _ rfl, h 2 _ rfl, h 3 _ rfl⟩
theorem celD.at {w : World} {b o : Nat} {x : Cd} (h : NumsAt w b o (celD.cs x)) : w.cell? ⟨b, o, none⟩ = some (.int .i64 x.s) ∧ w.cell? ⟨b, o + 1, none⟩ = some (.int .i64 x.k) ∧ w.cell? ⟨b, o + 2, none⟩ = some (.int .i64 x.u) ∧ w.cell? ⟨b, o + 3, none⟩ = some (.int .i64 x.x.k) ∧ w.cell? ⟨b, o + 4, none⟩ = some (.int .i64 x.x.t) ∧ w.cell? ⟨b, o + 5, none⟩ = some (.int .i64 x.x.a) ∧ w.cell? ⟨b, o + 6, none⟩ = some (.int .i64 x.x.b) ∧ w.cell? ⟨b, o + 7, none⟩ = some (.int .i64 x.x.c) ∧ w.cell? ⟨b, o + 8, none⟩ = some (.int .i64 x.x.d) ∧ w.cell? ⟨b, o + 9, none⟩ = some (.int .i64 x.x.e) :=
  ⟨h 0 _ rfl, h 1 _ rfl, h 2 _ rfl, h 3 _ rfl, h 4 _ rfl, h 5 _ rfl, h 6 _ rfl, h 7 _ rfl, h 8 _ rfl, h 9 _ rfl⟩

theorem infoCall : (Tryd.prog.info? 90).map (fun i => (i.zero, i.size, i.bytes)) = some (some (.agg #[.int .i64 0, .int .i64 0, .int .i64 0, .int .i64 0]), 4, 32) := by kernel_rfl
end Go.Proofs.YtghajmfjekfdpaaDoor

namespace Go.Proofs.YtghajmfjekfdpaaDoor
open Go.RowKit
attribute [local go_sem ↓] Go.wp_at_zero Go.wp_at_succ

set_option maxHeartbeats 400000 in
theorem toCall_any (x : Ca) (w : World) : Calls Tryd.prog 74 #[Value.agg #[.int .i64 x.p, .int .i64 x.k, .int .i64 x.t, .int .i64 x.n]] w fun r w' => r = .returned (Value.agg #[.int .i64 x.p, .int .i64 x.k, .int .i64 x.t, .int .i64 x.n]) ∧ Below w.heap.size w w' := by
  go_enter Tryd.func74, Tryd.ntmps74
  go_wp2
  exact bodyPost_ret (v := Value.agg #[.int .i64 x.p, .int .i64 x.k, .int .i64 x.t, .int .i64 x.n]) (by simp [results, Tryd.results74, go_sem]) rfl ⟨rfl, ((((Below.refl _ _).alloc (Nat.le_refl _) _).alloc (by simp) _).alloc (by simp; omega) _)⟩
set_option maxRecDepth 100000 in
set_option maxHeartbeats 2000000 in
theorem toCallS_wb (a : Option Addr) (cap : Nat) (xs : List Ca) (w : World) (h : NRow celC w a xs) (hx : xs.length ≤ 1048576) :
    Calls Tryd.prog 44 #[.slice a xs.length cap] w fun r w' => r = .returned (.slice (some ⟨w.heap.size, 0, none⟩) xs.length xs.length) ∧ NRow celC w' (some ⟨w.heap.size, 0, none⟩) xs ∧ (∃ cur, w'.heap[w.heap.size]? = some (.cells cur 90 (0, 0)) ∧ cur.size = xs.length * 4) ∧ Below w.heap.size w w' := by
  obtain ⟨i0, hi, hz0, hz1, hz2⟩ := info_parts infoCall
  go_enter Tryd.func44, Tryd.ntmps44
  go_wp2_with fail
  rw [run_makeSlice w 47 90 i0 _ Tryd.underlying47 hi hz0 .i64 .i64 xs.length xs.length (by omega) (by omega) (by rw [hz1]; omega) (by rw [hz2]; omega) (by omega)]
  rw [hz1]
  simp only [Int.toNat_natCast]
  obtain ⟨W1, hW1⟩ : ∃ W1, W1 = w.alloc (.cells (madeCells (Value.agg #[.int .i64 0, .int .i64 0, .int .i64 0, .int .i64 0]).cells (xs.length * 4)) 90) := ⟨_, rfl⟩
  rw [← hW1]
  have T0 : Hid (TrN celC 90 w xs.length xs 0 W1) := by
    subst hW1
    exact ⟨(Below.refl _ _).alloc (Nat.le_refl _) _, ⟨_, heap_alloc_new _ _, by simp [madeCells, celC]⟩, fun i s hi => by omega⟩
  clear hW1 hi hz0 hz1 hz2
  go_wp2_with fail
  go_loopw [4] (fun i wr => ∃ (j : Nat), j ≤ xs.length ∧ i = .int .i64 j ∧ Hid (TrN celC 90 w xs.length xs j wr)) (fun i _ => xs.length - (intOf i).toNat)
  case atStart => exact ⟨0, Nat.zero_le _, rfl, T0⟩
  case round =>
    obtain ⟨j, hj, rfl, C⟩ := hrel
    by_cases hlt : j < xs.length
    · obtain ⟨x, hs⟩ : ∃ x, xs[j]? = some x := ⟨xs[j], List.getElem?_eq_getElem hlt⟩
      rcases h with h | ⟨b, off, rfl, hl, h⟩
      · simp [h] at hlt
      obtain ⟨c0, c1, c2, c3⟩ := celC.at ((h j x hs).later C.out.below hl)
      clear h
      simp only [show celC.n = 4 from rfl] at c0 c1 c2 c3
      go_wp2_with fail
      refine (toCall_any x _).mono ?_
      rintro r w2 ⟨rfl, hb2⟩
      have C2 : Hid (TrN celC 90 w xs.length xs j w2) := C.out.later hb2
      clear c0 c1 c2 c3 C hb2
      obtain ⟨⟨v0, d0⟩, f0⟩ := C2.out.cell (o := j * 4) (by show _ < xs.length * 4; omega)
      obtain ⟨⟨v1, d1⟩, f1⟩ := C2.out.cell (o := j * 4 + 1) (by show _ < xs.length * 4; omega)
      obtain ⟨⟨v2, d2⟩, f2⟩ := C2.out.cell (o := j * 4 + 2) (by show _ < xs.length * 4; omega)
      obtain ⟨⟨v3, d3⟩, f3⟩ := C2.out.cell (o := j * 4 + 3) (by show _ < xs.length * 4; omega)
      have hlw := C2.out.lt
      have hst : xs[j]? = some x := hs
      go_wp2_with fail
      refine ⟨⟨j + 1, by omega, by go_num, (C2.out.step hlt hst)⟩, by simp [intOf]; omega⟩
    · obtain rfl : j = xs.length := by omega
      have HA : Hid (TrN celC 90 w xs.length xs xs.length wr) := C.out
      clear C T0 h
      go_wp2_with fail
      go_ret
      refine ⟨rfl, Or.inr ⟨w.heap.size, 0, rfl, HA.out.lt, fun i s hs => ?_⟩, HA.out.row, HA.out.below⟩
      have := HA.out.done i s (by have := (List.getElem?_eq_some_iff.1 hs).1; omega) hs
      rw [Nat.zero_add]; exact this
set_option maxRecDepth 100000 in
set_option maxHeartbeats 1000000 in
theorem eqCall_same (x : Ca) (w : World) : Calls Tryd.prog 80 #[Value.agg #[.int .i64 x.p, .int .i64 x.k, .int .i64 x.t, .int .i64 x.n], Value.agg #[.int .i64 x.p, .int .i64 x.k, .int .i64 x.t, .int .i64 x.n]] w fun r w' => r = .returned (.bool true) ∧ Below w.heap.size w w' := by
  go_enter Tryd.func80, Tryd.ntmps80
  go_wp2_with fail
  go_ret
  exact ⟨rfl, ((Below.refl _ _).alloc (Nat.le_refl _) _).alloc (by simp) _⟩
set_option maxHeartbeats 1000000 in
set_option maxRecDepth 100000 in
theorem eqCallS_same (a1 a2 : Option Addr) (p1 p2 : Nat) (xs : List Ca) (w : World) (h1 : NRow celC w a1 xs) (h2 : NRow celC w a2 xs) (hx : xs.length ≤ 2000000) :
    Calls Tryd.prog 52 #[.slice a1 xs.length p1, .slice a2 xs.length p2] w fun r w' => r = .returned (.bool true) ∧ Below w.heap.size w w' := by
  go_enter Tryd.func52, Tryd.ntmps52
  go_wp2_with fail
  go_loopw [5] (fun i wr => ∃ (j : Nat), j ≤ xs.length ∧ i = .int .i64 j ∧ Hid (Below w.heap.size w wr)) (fun i _ => xs.length - (intOf i).toNat)
  case atStart => exact ⟨0, Nat.zero_le _, rfl, Below.refl _ _⟩
  case round =>
    obtain ⟨j, hj, rfl, C⟩ := hrel
    by_cases hlt : j < xs.length
    · obtain ⟨x, hs⟩ : ∃ x, xs[j]? = some x := ⟨xs[j], List.getElem?_eq_getElem hlt⟩
      rcases h1 with h | ⟨b, off, rfl, hl, h1⟩
      · simp [h] at hlt
      rcases h2 with h | ⟨b2, off2, rfl, hl2, h2⟩
      · simp [h] at hlt
      have hS0 : NumsAt wr.drew b (off + j * 4) (celC.cs x) ∧ NumsAt wr.drew b2 (off2 + j * 4) (celC.cs x) := ⟨(h1 j x hs).later C.out.drew hl, (h2 j x hs).later C.out.drew hl2⟩
      have hbd := C.out.drew
      clear h1 h2
      go_wp2_with fail
      refine wp_region_held_drew (S := fun w' => NumsAt w' b (off + j * 4) (celC.cs x) ∧ NumsAt w' b2 (off2 + j * 4) (celC.cs x)) (by kernel_rfl) hS0 (fun hS => ?_)
      refine take1 0 17 (.slice (some ⟨b, off, none⟩) xs.length p1) rfl rfl (by kernel_rfl) (by kernel_rfl) (by kernel_rfl) (by rfl) (fun _ _ _ h => h) hS (fun w' hS' => ?_) ?_
      · go_simp
      simp only [Act.put, List.setIfInBounds_toArray, List.set_cons_zero, List.set_cons_succ]
      refine take1 1 18 (.int .i64 j) rfl rfl (by kernel_rfl) (by kernel_rfl) (by kernel_rfl) (by rfl) (fun _ _ _ h => h) hS (fun w' hS' => ?_) ?_
      · go_simp
      simp only [Act.put, List.setIfInBounds_toArray, List.set_cons_zero, List.set_cons_succ]
      refine take1 2 19 (.pointer (some ⟨b, off + j * 4, none⟩)) rfl rfl (by kernel_rfl) (by kernel_rfl) (by kernel_rfl) (by rfl) (fun _ _ _ h => h) hS (fun w' hS' => ?_) ?_
      · go_simp
      simp only [Act.put, List.setIfInBounds_toArray, List.set_cons_zero, List.set_cons_succ]
      refine take1 3 20 (Value.agg #[.int .i64 x.p, .int .i64 x.k, .int .i64 x.t, .int .i64 x.n]) rfl rfl (by kernel_rfl) (by kernel_rfl) (by kernel_rfl) (by rfl) (fun _ _ _ h => h) hS (fun w' hS' => ?_) ?_
      · obtain ⟨c0, c1, c2, c3⟩ := celC.at hS'.1
        go_simp
      simp only [Act.put, List.setIfInBounds_toArray, List.set_cons_zero, List.set_cons_succ]
      refine take1 4 21 (.slice (some ⟨b2, off2, none⟩) xs.length p2) rfl rfl (by kernel_rfl) (by kernel_rfl) (by kernel_rfl) (by rfl) (fun _ _ _ h => h) hS (fun w' hS' => ?_) ?_
      · go_simp
      simp only [Act.put, List.setIfInBounds_toArray, List.set_cons_zero, List.set_cons_succ]
      refine take1 5 22 (.int .i64 j) rfl rfl (by kernel_rfl) (by kernel_rfl) (by kernel_rfl) (by rfl) (fun _ _ _ h => h) hS (fun w' hS' => ?_) ?_
      · go_simp
      simp only [Act.put, List.setIfInBounds_toArray, List.set_cons_zero, List.set_cons_succ]
      refine take1 6 23 (.pointer (some ⟨b2, off2 + j * 4, none⟩)) rfl rfl (by kernel_rfl) (by kernel_rfl) (by kernel_rfl) (by rfl) (fun _ _ _ h => h) hS (fun w' hS' => ?_) ?_
      · go_simp
      simp only [Act.put, List.setIfInBounds_toArray, List.set_cons_zero, List.set_cons_succ]
      refine take1 7 24 (Value.agg #[.int .i64 x.p, .int .i64 x.k, .int .i64 x.t, .int .i64 x.n]) rfl rfl (by kernel_rfl) (by kernel_rfl) (by kernel_rfl) (by rfl) (fun _ _ _ h => h) hS (fun w' hS' => ?_) ?_
      · obtain ⟨c0, c1, c2, c3⟩ := celC.at hS'.2
        go_simp
      simp only [Act.put, List.setIfInBounds_toArray, List.set_cons_zero, List.set_cons_succ]
      refine wpAnyH_ready (rs := [8]) (by kernel_rfl) (by simp) ?_
      refine AllReadyH.cons rfl (fun K hK => ?_) AllReadyH.nil
      go_simp
      refine (eqCall_same x _).mono ?_
      rintro r w2 ⟨rfl, hb2⟩
      have hsz := C.out.size
      have C2 : Hid (Below w.heap.size w w2) := hbd.trans (hb2.mono (by simpa using hsz))
      refine hK.out _ _ ⟨hS.1.later hb2 (by simp; omega), hS.2.later hb2 (by simp; omega)⟩ (fun hS2 => ?_)
      clear hK K hb2 hbd hS hS0 C
      refine take1 9 26 (.bool false) rfl rfl (by kernel_rfl) (by kernel_rfl) (by kernel_rfl) (by rfl) (fun _ _ _ h => h) hS2 (fun w' hS' => ?_) ?_
      · go_simp
      simp only [Act.put, List.setIfInBounds_toArray, List.set_cons_zero, List.set_cons_succ]
      refine wpAnyH_done (by kernel_rfl) ?_ _
      clear hS2
      go_wp2_with fail
      go_roundw
      case rel => exact ⟨j + 1, by omega, by go_num, C2⟩
      case measure => simp [intOf]; omega
    · obtain rfl : j = xs.length := by omega
      go_wp2_with fail
      go_ret
      exact ⟨rfl, C.out⟩
set_option maxHeartbeats 400000 in
theorem szCallS_any (a : Option Addr) (len cap : Nat) (q : Int) (w : World) (hq : 0 ≤ q) (hq2 : q ≤ 1048576) (hm : len ≤ 9223372036854775807) :
    Calls Tryd.prog 40 #[.slice a len cap, .int .i64 q] w fun r w' => r = .returned (.int .i64 (restI q len)) ∧ w' = w := by
  have hw : IntKind.i64.wrap (q - (len : Int)) = q - (len : Int) := wrapM (by omega) (by omega)
  unfold restI
  by_cases hn : q - (len : Int) < 0
  · rw [if_pos hn]
    go_enter Tryd.func40, Tryd.ntmps40
    go_wp2_with fail
    go_ret
    exact ⟨rfl, rfl⟩
  · rw [if_neg hn]
    go_enter Tryd.func40, Tryd.ntmps40
    go_wp2_with fail
    go_ret
    exact ⟨rfl, rfl⟩

set_option maxRecDepth 100000 in
set_option maxHeartbeats 1000000 in
theorem eqSealV_same (s : Sl) (w : World) : Calls Tryd.prog 71 #[.agg #[.int .i64 s.k, .int .i64 s.t, .int .i64 s.a, .int .i64 s.b, .int .i64 s.c, .int .i64 s.d, .int .i64 s.e], .agg #[.int .i64 s.k, .int .i64 s.t, .int .i64 s.a, .int .i64 s.b, .int .i64 s.c, .int .i64 s.d, .int .i64 s.e]] w fun r w' => r = .returned (.bool true) ∧ Below w.heap.size w w' := by
  go_enter Tryd.func71, Tryd.ntmps71
  go_wp2_with fail
  go_ret
  exact ⟨rfl, ((Below.refl _ _).alloc (Nat.le_refl _) _).alloc (by simp) _⟩
end Go.Proofs.YtghajmfjekfdpaaDoor

namespace Go.Proofs.YtghajmfjekfdpaaDoor
open Go.RowKit
attribute [local go_sem ↓] Go.wp_at_zero Go.wp_at_succ

set_option maxRecDepth 100000 in
set_option maxHeartbeats 4000000 in
theorem markCallS_any (g n cap : Nat) (k0 : Int) (w : World) (h : WB w g (n * 4)) (hn : n ≤ 2000000) (h0 : 0 ≤ k0) (h1 : k0 ≤ 100000000) :
    Calls Tryd.prog 53 #[.slice (some ⟨g, 0, none⟩) n cap, .int .i64 k0] w fun r w' => r = .returned (.int .i64 (k0 + 4 * n)) ∧ Touch g w w' ∧ WB w' g (n * 4) ∧ ∀ i, i < n * 4 → w'.cell? ⟨g, i, none⟩ = some (.int .i64 (k0 + i)) := by
  go_enter Tryd.func53, Tryd.ntmps53
  go_wp2_with fail
  go_loopw [1, 5] (fun k i wr => ∃ (j : Nat), j ≤ n ∧ i = .int .i64 j ∧ k = .int .i64 (k0 + 4 * j) ∧ Hid (Touch g w wr ∧ WB wr g (n * 4) ∧ ∀ i, i < j * 4 → wr.cell? ⟨g, i, none⟩ = some (.int .i64 (k0 + i)))) (fun _ i _ => n - (intOf i).toNat)
  case atStart => exact ⟨0, Nat.zero_le _, rfl, by simp, Touch.refl _ _, h, fun i hi => by omega⟩
  case round =>
    obtain ⟨j, hj, rfl, rfl, C⟩ := hrel
    by_cases hlt : j < n
    · obtain ⟨K, hK⟩ : ∃ K : Int, K = k0 + 4 * j := ⟨_, rfl⟩
      have hall := marksN (w := wr) (g := g) (j := j) (n := 4) (k0 := k0) (l := [K, K + 1, K + 1 + 1, K + 1 + 1 + 1]) rfl (fun q hq => (C.out.2.1.cell (by omega)).1) C.out.2.2 (fun q c hq => by
        match q, hq with
        | 0, hq => simp at hq; omega
        | 1, hq => simp at hq; omega
        | 2, hq => simp at hq; omega
        | 3, hq => simp at hq; omega
        | q + 4, hq => simp at hq)
      simp only [putN, Nat.add_assoc, Nat.reduceAdd] at hall
      have HA := Hid.mk' hall
      clear hall
      obtain ⟨⟨v0, d0⟩, f0⟩ := C.out.2.1.cell (o := j * 4) (by omega)
      obtain ⟨⟨v1, d1⟩, f1⟩ := C.out.2.1.cell (o := j * 4 + 1) (by omega)
      obtain ⟨⟨v2, d2⟩, f2⟩ := C.out.2.1.cell (o := j * 4 + 2) (by omega)
      obtain ⟨⟨v3, d3⟩, f3⟩ := C.out.2.1.cell (o := j * 4 + 3) (by omega)
      rw [← hK]
      have w1 : IntKind.i64.wrap (K + 1) = K + 1 := wrapM (by omega) (by omega)
      have w2 : IntKind.i64.wrap (K + 1 + 1) = K + 1 + 1 := wrapM (by omega) (by omega)
      have w3 : IntKind.i64.wrap (K + 1 + 1 + 1) = K + 1 + 1 + 1 := wrapM (by omega) (by omega)
      have w4 : IntKind.i64.wrap (K + 1 + 1 + 1 + 1) = K + 1 + 1 + 1 + 1 := wrapM (by omega) (by omega)
      go_wp2_with fail
      go_roundw
      case rel =>
        refine ⟨j + 1, by omega, by go_num, by first | (congr 1; omega) | (simp; omega), C.out.1.set.set.set.set, C.out.2.1.set.set.set.set, fun i hi => ?_⟩
        subst hK
        exact HA.out i hi
      case measure => simp [intOf]; omega
    · obtain rfl : j = n := by omega
      go_wp2_with fail
      go_ret
      exact ⟨rfl, C.out⟩
set_option maxRecDepth 100000 in
theorem markCall_nil (a : Option Addr) (cap : Nat) (k0 : Int) (w : World) :
    Calls Tryd.prog 53 #[.slice a 0 cap, .int .i64 k0] w fun r w' => r = .returned (.int .i64 k0) ∧ w' = w := by
  go_enter Tryd.func53, Tryd.ntmps53
  go_wp2_with fail
  refine wp_loop_rounds 1 ?_
  rw [rounds_succ]
  go_wp2_with fail
  go_ret
  exact ⟨rfl, rfl⟩
set_option maxRecDepth 100000 in
theorem heldCall_nil (a : Option Addr) (cap : Nat) (k0 : Int) (w : World) :
    Calls Tryd.prog 54 #[.slice a 0 cap, .int .i64 k0] w fun r w' => r = .returned (.int .i64 k0) ∧ w' = w := by
  go_enter Tryd.func54, Tryd.ntmps54
  go_wp2_with fail
  refine wp_loop_rounds 1 ?_
  rw [rounds_succ]
  go_wp2_with fail
  go_ret
  exact ⟨rfl, rfl⟩
set_option maxRecDepth 100000 in
set_option maxHeartbeats 4000000 in
theorem heldCallS_any (g n cap : Nat) (k0 : Int) (w : World) (h : ∀ i, i < n * 4 → w.cell? ⟨g, i, none⟩ = some (.int .i64 (k0 + i))) (hn : n ≤ 2000000) (h0 : 0 ≤ k0) (h1 : k0 ≤ 100000000) :
    Calls Tryd.prog 54 #[.slice (some ⟨g, 0, none⟩) n cap, .int .i64 k0] w fun r w' => r = .returned (.int .i64 (k0 + 4 * n)) ∧ w' = w := by
  go_enter Tryd.func54, Tryd.ntmps54
  go_wp2_with fail
  go_loopw [1, 5] (fun k i wr => ∃ (j : Nat), j ≤ n ∧ i = .int .i64 j ∧ k = .int .i64 (k0 + 4 * j) ∧ Hid (wr = w)) (fun _ i _ => n - (intOf i).toNat)
  case atStart => exact ⟨0, Nat.zero_le _, rfl, by simp, rfl⟩
  case round =>
    obtain ⟨j, hj, rfl, rfl, C⟩ := hrel
    obtain rfl : wr = w := C.out
    by_cases hlt : j < n
    · obtain ⟨K, hK⟩ : ∃ K : Int, K = k0 + 4 * j := ⟨_, rfl⟩
      have d0 : wr.cell? ⟨g, j * 4, none⟩ = some (.int .i64 (K)) := (h (j * 4) (by omega)).trans (by congr 2; simp; omega)
      have d1 : wr.cell? ⟨g, j * 4 + 1, none⟩ = some (.int .i64 (K + 1)) := (h (j * 4 + 1) (by omega)).trans (by congr 2; simp; omega)
      have d2 : wr.cell? ⟨g, j * 4 + 2, none⟩ = some (.int .i64 (K + 1 + 1)) := (h (j * 4 + 2) (by omega)).trans (by congr 2; simp; omega)
      have d3 : wr.cell? ⟨g, j * 4 + 3, none⟩ = some (.int .i64 (K + 1 + 1 + 1)) := (h (j * 4 + 3) (by omega)).trans (by congr 2; simp; omega)
      rw [← hK]
      have w1 : IntKind.i64.wrap (K + 1) = K + 1 := wrapM (by omega) (by omega)
      have w2 : IntKind.i64.wrap (K + 1 + 1) = K + 1 + 1 := wrapM (by omega) (by omega)
      have w3 : IntKind.i64.wrap (K + 1 + 1 + 1) = K + 1 + 1 + 1 := wrapM (by omega) (by omega)
      have w4 : IntKind.i64.wrap (K + 1 + 1 + 1 + 1) = K + 1 + 1 + 1 + 1 := wrapM (by omega) (by omega)
      clear h
      go_wp2_with fail
      go_roundw
      case rel => exact ⟨j + 1, by omega, by go_num, by first | (congr 1; omega) | (simp; omega), by first | rfl | trivial⟩
      case measure => simp [intOf]; omega
    · obtain rfl : j = n := by omega
      clear h
      go_wp2_with fail
      go_ret
      exact ⟨rfl, rfl⟩
theorem markCall_own {w : World} {base : Nat} {v : Value} {zs : List Ca} (k0 : Int) (h : OwnN celC 90 w base v zs) (hn : zs.length ≤ 2000000) (h0 : 0 ≤ k0) (h1 : k0 ≤ 100000000) :
    Calls Tryd.prog 53 #[v, .int .i64 k0] w fun r w' => r = .returned (.int .i64 (k0 + 4 * zs.length)) ∧ w.grownBy w' v.ownBlock ∧ MkN 4 w' v zs.length k0 := by
  rcases h.2 with ⟨rfl, h2⟩ | ⟨g, cap, cur, rfl, h2, h3, h4, _, h5, _⟩
  · refine (markCall_nil none 0 k0 w).mono ?_
    rintro r w' ⟨rfl, rfl⟩
    exact ⟨by rw [h2]; simp, World.grownBy.refl _ _, none, 0, by rw [h2], Or.inl h2⟩
  · have h6 : cur.size = cap * 4 := h5
    refine (markCallS_any g zs.length cap k0 w ⟨cur, _, h3, by omega⟩ hn h0 h1).mono ?_
    rintro r w' ⟨rfl, ht, hw, hc⟩
    exact ⟨rfl, ⟨ht.os, ht.tape, ht.output, Nat.le_of_eq ht.size.symm, fun k _ hk => ht.block k (fun e => hk (by rw [e]; rfl))⟩, _, cap, rfl, Or.inr ⟨g, rfl, hw.lt, hc⟩⟩
theorem heldCall_own {w : World} {v : Value} {n : Nat} (k0 : Int) (h : MkN 4 w v n k0) (hn : n ≤ 2000000) (h0 : 0 ≤ k0) (h1 : k0 ≤ 100000000) :
    Calls Tryd.prog 54 #[v, .int .i64 k0] w fun r w' => r = .returned (.int .i64 (k0 + 4 * n)) ∧ w' = w := by
  obtain ⟨a, cap, rfl, h | ⟨g, rfl, hg, h⟩⟩ := h
  · subst h
    refine (heldCall_nil a cap k0 w).mono ?_
    rintro r w' ⟨rfl, rfl⟩
    exact ⟨by simp, rfl⟩
  · exact heldCallS_any g n cap k0 w h hn h0 h1

end Go.Proofs.YtghajmfjekfdpaaDoor

namespace Go.Proofs.YtghajmfjekfdpaaDoor
open Go.RowKit

/-- The lists of a user. -/
structure CRows (w : World) (a1 a2 a3 a4 : Option Addr) (ws : List Wn) (cs : List Cd) (ss ms : List Ca) : Prop where
  w1 : NRow celW w a1 ws
  w2 : NRow celD w a2 cs
  w3 : NRow celC w a3 ss
  w4 : NRow celC w a4 ms
theorem CRows.later {w w' : World} {a1 a2 a3 a4 : Option Addr} {ws : List Wn} {cs : List Cd} {ss ms : List Ca} (h : CRows w a1 a2 a3 a4 ws cs ss ms) (hb : Below w.heap.size w w') : CRows w' a1 a2 a3 a4 ws cs ss ms := ⟨h.w1.later hb, h.w2.later hb, h.w3.later hb, h.w4.later hb⟩

theorem WB.else {w : World} {g n p o : Nat} {u : Value} (h : WB w g n) (hp : p ≠ g) : WB (w.setCell ⟨p, o, none⟩ u) g n := h.same (by simp [World.setCell, Array.getElem?_modify, hp])
theorem WB.later {w w' : World} {g n : Nat} (h : WB w g n) (hb : Below w.heap.size w w') : WB w' g n := h.same (hb.block _ h.lt)

theorem restI_neg {q : Int} {len : Nat} (h : restI q len < 0) : restI q len = -1 := by
  unfold restI at h ⊢
  split at h
  · rw [if_pos (by assumption)]
  · omega
/-- What is left behind the four lists of a user. -/
def restC (q : Int) (l1 l2 l3 l4 : Nat) : Int := if q - l1 < 0 then -1 else if q - l1 - l2 < 0 then -1 else if q - l1 - l2 - l3 < 0 then -1 else if q - l1 - l2 - l3 - l4 < 0 then -1 else q - l1 - l2 - l3 - l4
end Go.Proofs.YtghajmfjekfdpaaDoor

namespace Go.Proofs.YtghajmfjekfdpaaDoor
open Go.RowKit

/-- Just these blocks are turned. -/
structure GrL (w w' : World) (bs : List (Option Nat)) : Prop where
  os : w'.os = w.os
  tape : w'.tape = w.tape
  output : w'.output = w.output
  size : w.heap.size ≤ w'.heap.size
  block : ∀ k, k < w.heap.size → some k ∉ bs → w'.heap[k]? = w.heap[k]?
theorem GrL.of {w w' : World} {r : Option Nat} (h : w.grownBy w' r) : GrL w w' [r] := ⟨h.os, h.tape, h.output, h.size, fun k hk hn => h.block k hk (by simpa using hn)⟩
theorem GrL.ofB {w w' : World} (h : Below w.heap.size w w') : GrL w w' [] := ⟨h.os, h.tape, h.output, h.size, fun k hk _ => h.block k hk⟩
theorem GrL.trans {w w' w'' : World} {ls bs : List (Option Nat)} (h : GrL w w' ls) (h' : GrL w' w'' bs) : GrL w w'' (ls ++ bs) :=
  ⟨h'.os.trans h.os, h'.tape.trans h.tape, h'.output.trans h.output, Nat.le_trans h.size h'.size, fun k hk hn => by
    simp only [List.mem_append, not_or] at hn
    exact (h'.block k (Nat.lt_of_lt_of_le hk h.size) hn.2).trans (h.block k hk hn.1)⟩
theorem GrL.below {w w' : World} {bs : List (Option Nat)} {B : Nat} (h : GrL w w' bs) (hB : B ≤ w.heap.size) (hn : ∀ k, some k ∈ bs → B ≤ k) : Below B w w' :=
  ⟨h.os, h.tape, h.output, h.size, fun k hk => h.block k (by omega) (fun hm => by have := hn k hm; omega)⟩
theorem OwnN.grl {X : Type} {C : Cel X} {T : TypeId} {w w' : World} {base : Nat} {v : Value} {zs : List X} {bs : List (Option Nat)} (h : OwnN C T w base v zs) (hg : GrL w w' bs) (hne : ∀ k, v.ownBlock = some k → some k ∉ bs) : OwnN C T w' base v zs :=
  h.keep fun g e => hg.block g (h.lt g e).2 (hne g e)
theorem MkN.grl {n : Nat} {w w' : World} {v : Value} {l : Nat} {k0 : Int} {bs : List (Option Nat)} (h : MkN n w v l k0) (hg : GrL w w' bs) (hne : ∀ k, v.ownBlock = some k → some k ∉ bs) : MkN n w' v l k0 := by
  obtain ⟨a, cap, rfl, h | ⟨g, rfl, hl, h⟩⟩ := h
  · exact ⟨a, cap, rfl, Or.inl h⟩
  · exact ⟨_, cap, rfl, Or.inr ⟨g, rfl, Nat.lt_of_lt_of_le hl hg.size, fun i hi => (World.cell?_of_block (hg.block g hl (hne g rfl))).trans (h i hi)⟩⟩
theorem NRow.grl {X : Type} {C : Cel X} {w w' : World} {a : Option Addr} {xs : List X} {bs : List (Option Nat)} (h : NRow C w a xs) (hg : GrL w w' bs) (hne : ∀ b off, a = some ⟨b, off, none⟩ → some b ∉ bs) : NRow C w' a xs := by
  rcases h with h | ⟨b, off, rfl, hl, h⟩
  · exact Or.inl h
  · exact Or.inr ⟨b, off, rfl, Nat.lt_of_lt_of_le hl hg.size, fun i x hx => (h i x hx).same (hg.block b hl (hne b off rfl))⟩

/-- Marks lie in them. -/
structure Mk4 (w : World) (v1 v2 v3 v4 : Value) (l1 l2 l3 l4 : Nat) (k0 : Int) : Prop where
  m1 : MkN 2 w v1 l1 k0
  m2 : MkN 10 w v2 l2 (k0 + 2 * l1)
  m3 : MkN 4 w v3 l3 (k0 + 2 * l1 + 10 * l2)
  m4 : MkN 4 w v4 l4 (k0 + 2 * l1 + 10 * l2 + 4 * l3)
theorem Mk4.later {w w' : World} {v1 v2 v3 v4 : Value} {l1 l2 l3 l4 : Nat} {k0 : Int} (h : Mk4 w v1 v2 v3 v4 l1 l2 l3 l4 k0) (hb : Below w.heap.size w w') : Mk4 w' v1 v2 v3 v4 l1 l2 l3 l4 k0 := ⟨h.m1.later hb, h.m2.later hb, h.m3.later hb, h.m4.later hb⟩
theorem Mk4.grl {w w' : World} {v1 v2 v3 v4 : Value} {l1 l2 l3 l4 : Nat} {k0 : Int} {bs : List (Option Nat)} (h : Mk4 w v1 v2 v3 v4 l1 l2 l3 l4 k0) (hg : GrL w w' bs) (hn : ∀ k, v1.ownBlock = some k ∨ v2.ownBlock = some k ∨ v3.ownBlock = some k ∨ v4.ownBlock = some k → some k ∉ bs) : Mk4 w' v1 v2 v3 v4 l1 l2 l3 l4 k0 :=
  ⟨h.m1.grl hg (fun k e => hn k (Or.inl e)), h.m2.grl hg (fun k e => hn k (Or.inr (Or.inl e))), h.m3.grl hg (fun k e => hn k (Or.inr (Or.inr (Or.inl e)))), h.m4.grl hg (fun k e => hn k (Or.inr (Or.inr (Or.inr e))))⟩

end Go.Proofs.YtghajmfjekfdpaaDoor
