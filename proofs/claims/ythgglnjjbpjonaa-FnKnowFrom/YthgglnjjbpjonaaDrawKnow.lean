/-
  Keys and seals are drawn: a row of at most four numbers, and a row of at most eight seals, in new memory; but for the reader nothing that was there is turned.
-/
import Derived.Test.YthgglnjjbpjonaaDrawSeal
import Derived.Test.YthgglnjjbpjonaaKOwn
import Derived.Test.YthgglnjjbpjonaaKCells
namespace Go.Proofs.Ythgglnjjbpjonaa
open Go.RowKit

/-- On the way: the reader, and a row of the call's own. -/
structure Dr (W : World) (br : Nat) (sv : Value) (L : Nat) (e sz : Nat) (w : World) (q : Int) (v : Value) (n : Nat) (cs : List Value) : Prop where
  rd : Rd w br sv L q
  grew : Grew br W w
  own : w.ownsRow W.heap.size e sz v n cs
  hbr : br < W.heap.size
section
variable {W : World} {br : Nat} {sv : Value} {L : Nat} {e sz : Nat} {w w' : World} {q q' : Int} {v v' : Value} {n : Nat} {cs : List Value}
theorem owns_grew (h : w.ownsRow W.heap.size e sz v n cs) (hg : Grew br w w') (hb : br < W.heap.size) : w'.ownsRow W.heap.size e sz v n cs := by
  refine ⟨h.1, h.2.imp id ?_⟩
  rintro ⟨g, cap, cur, h1, h2, h3, h4⟩
  exact ⟨g, cap, cur, h1, h2, (hg.block g (Array.getElem?_eq_some_iff.1 h3).1 (by omega)).trans h3, h4⟩
theorem Dr.go (h : Dr W br sv L e sz w q v n cs) (hr : Rd w' br sv L q') (hg : Grew br w w') : Dr W br sv L e sz w' q' v n cs := ⟨hr, h.grew.trans hg, owns_grew h.own hg h.hbr, h.hbr⟩
theorem Dr.alloc (h : Dr W br sv L e sz w q v n cs) (o : Obj) : Dr W br sv L e sz (w.alloc o) q v n cs := ⟨h.rd.alloc o, h.grew.alloc o, h.own.alloc o, h.hbr⟩
theorem Dr.append {n' : Nat} {cs' : List Value} (h : Dr W br sv L e sz w q v n cs) (ho : w'.ownsRow W.heap.size e sz v' n' cs') (hg : w.grownBy w' v.ownBlock) : Dr W br sv L e sz w' q v' n' cs' := by
  have hne : ∀ k, v.ownBlock = some k → W.heap.size ≤ k := fun k hk => (h.own.lt k hk).1
  have hbr := h.hbr
  refine ⟨h.rd.stay fun k hk => hg.block k (by have := h.grew.size; omega) (fun e => by have := hne k e.symm; omega), ⟨hg.os.trans h.grew.os, hg.tape.trans h.grew.tape, hg.output.trans h.grew.output, Nat.le_trans h.grew.size hg.size, fun k hk hb => ?_⟩, ho, hbr⟩
  exact (hg.block k (by have := h.grew.size; omega) (fun e => by have := hne k e.symm; omega)).trans (h.grew.block k hk hb)
end

theorem cell3 {w : World} {B t : Nat} {a0 a1 a2 : Int} (h : w.heap[B]? = some (.cells #[.int .i64 a0, .int .i64 a1, .int .i64 a2] t (0, 0))) (x : Nat) (h1 : x < 3) : ∃ y : Int, w.cell? ⟨B, x, none⟩ = some (.int .i64 y) := by
  rw [cell_of_row _ _ _ _ _ _ h]
  obtain rfl | rfl | rfl : x = 0 ∨ x = 1 ∨ x = 2 := by omega
  · exact ⟨a0, rfl⟩
  · exact ⟨a1, rfl⟩
  · exact ⟨a2, rfl⟩
theorem wrap1 {n : Int} (h0 : 0 ≤ n) (h1 : n ≤ 100) : IntKind.i64.wrap (1 + n) = 1 + n := wrapM (by omega) (by omega)

set_option maxRecDepth 100000 in
set_option maxHeartbeats 4000000 in
theorem l71Keys_any (br : Nat) (sv : Value) (L : Nat) (w : World) (R : Rd w br sv L 0) :
    Calls Try.prog 26 #[.pointer (some ⟨br, 0, none⟩)] w fun r w' => ∃ (v : Value) (zs : List Int) (q : Int), r = .returned v ∧ zs.length ≤ 4 ∧ 0 ≤ q ∧ q ≤ 20 ∧ Dr w br sv L 3 1 w' q v zs.length (zs.map (Value.int .i64)) := by
  obtain ⟨i0, hi, hz0, hz1, hz2⟩ := info_parts infoInt
  have T0 : Hid (Dr w br sv L 3 1 (w.alloc (.cells #[] 3)) 0 (.slice (some ⟨w.heap.size, 0, none⟩) 0 0) 0 []) :=
    ⟨R.alloc _, (Grew.refl _ _).alloc _, OwnI.zero w _ rfl (Nat.le_refl _), R.lt⟩
  go_enter Try.func26, Try.ntmps26
  go_wp2_with fail
  refine (pick_any 4 (by omega) _ _ _ _ _ T0.out.rd (by omega) (by omega)).mono ?_
  rintro r w1 ⟨⟨m, m0, m1, rfl⟩, R1, O1⟩
  have T1 : Hid (Dr w br sv L 3 1 w1 1 (.slice (some ⟨w.heap.size, 0, none⟩) 0 0) 0 []) := T0.out.go R1 O1.grew
  clear R R1 O1 T0
  go_wp2_with fail
  go_loopw [3, 4] (fun v i wr => ∃ (m : Nat) (zs : List Int) (q : Int), i = .int .i64 m ∧ m + zs.length ≤ 3 ∧ 0 ≤ q ∧ q ≤ 1 + 4 * (zs.length : Int) ∧ Hid (Dr w br sv L 3 1 wr q v zs.length (zs.map (Value.int .i64)))) (fun _ i _ => (intOf i).toNat)
  case atStart => exact ⟨m.toNat, [], 1, by simp; omega, by simp; omega, by omega, by simp, T1⟩
  case round =>
    clear T1
    obtain ⟨m, zs, q, rfl, hm, hq0, hq1, C⟩ := hrel
    by_cases hz : m = 0
    · subst hz
      go_wp2_with fail
      refine (pick_any 16 (by omega) _ _ _ _ _ C.out.rd (by omega) (by omega)).mono ?_
      rintro r w2 ⟨⟨x, x0, x1, rfl⟩, R2, O2⟩
      have C2 := C.out.go R2 O2.grew
      have H2 : Hid (Dr w br sv L 3 1 w2 (q + 1) u3 zs.length (zs.map (Value.int .i64))) := C2
      clear C R2 O2 C2
      by_cases hx : x = 0
      · subst hx
        go_wp2_with fail
        refine (pick_any 3 (by omega) _ _ _ _ _ (H2.out.alloc _).rd (by omega) (by omega)).mono ?_
        rintro r w3 ⟨⟨x, x0, x1, rfl⟩, R3, O3⟩
        have H3 : Hid (Dr w br sv L 3 1 w3 (q + 1 + 1) u3 zs.length (zs.map (Value.int .i64))) := (H2.out.alloc _).go R3 O3.grew
        have hb3 : br ≠ w2.heap.size := by have := H2.out.rd.lt; omega
        obtain ⟨xn, rfl⟩ : ∃ xn : Nat, x = xn := ⟨x.toNat, by omega⟩
        obtain ⟨y, hy⟩ := cell3 ((O3.block w2.heap.size (Ne.symm hb3)).trans (heap_alloc_new _ _)) xn (by omega)
        have hsz3 := H3.out.grew.size
        clear R3 O3
        go_wp2_with (first
          | (at_builtin; refine wpList_append_own_at _ rfl _ _ 22 rfl w.heap.size 3 i0 (.int .i64 0) 1 8 Try.underlying22 hi hz0 hz1 hz2 rfl (by decide) _ _ _ rfl (H3.out.own.alloc _) ⟨w3.heap.size, 0, none⟩ 1 1 [.int .i64 y] rfl rfl (cell_one_new _ _ _) (ints_one .i64 y) (by unfold maxLen; omega) (by omega) (by simp; omega) ?_; intro v' w5 hown' hgrow hnil hloc)
          | go_in)
        go_ret
        refine ⟨_, zs ++ [y], q + 1 + 1, rfl, by simp; omega, by omega, by omega, ?_⟩
        have := (H3.out.alloc _).append hown' hgrow
        simpa using this
      · go_wp2_with fail
        go_ret
        exact ⟨_, zs, q + 1, rfl, by omega, by omega, by omega, H2.out⟩
    · go_wp2_with fail
      refine (pick_any 6 (by omega) _ _ _ _ _ C.out.rd (by omega) (by omega)).mono ?_
      rintro r w2 ⟨⟨x, x0, x1, rfl⟩, R2, O2⟩
      have C2 : Hid (Dr w br sv L 3 1 w2 (q + 1) u3 zs.length (zs.map (Value.int .i64))) := C.out.go R2 O2.grew
      clear C R2 O2
      have e2 := wrap1 x0 (by omega)
      go_wp2_with fail
      refine (l71Key_any _ _ _ _ _ C2.out.rd (by omega) (by omega)).mono ?_
      rintro r w3 ⟨⟨y, rfl⟩, R3, O3⟩
      have C3 : Hid (Dr w br sv L 3 1 w3 (q + 1 + 1) u3 zs.length (zs.map (Value.int .i64))) := C2.out.go R3 O3.grew
      clear C2 R3 O3
      go_wp2_with fail
      refine (pick_any 3 (by omega) _ _ _ _ _ C3.out.rd (by omega) (by omega)).mono ?_
      rintro r w4 ⟨⟨z, z0, z1, rfl⟩, R4, O4⟩
      have C4 : Hid (Dr w br sv L 3 1 w4 (q + 1 + 1 + 1) u3 zs.length (zs.map (Value.int .i64))) := C3.out.go R4 O4.grew
      clear C3 R4 O4
      have e4 := wrap1 z0 (by omega)
      go_wp2_with fail
      refine (pick_any 3 (by omega) _ _ _ _ _ (C4.out.alloc _).rd (by omega) (by omega)).mono ?_
      rintro r w5 ⟨⟨t, t0, t1, rfl⟩, R5, O5⟩
      have C5 : Hid (Dr w br sv L 3 1 w5 (q + 1 + 1 + 1 + 1) u3 zs.length (zs.map (Value.int .i64))) := (C4.out.alloc _).go R5 O5.grew
      have hb3 : br ≠ w4.heap.size := by have := C4.out.rd.lt; omega
      obtain ⟨tn, rfl⟩ : ∃ tn : Nat, t = tn := ⟨t.toNat, by omega⟩
      obtain ⟨k, hk⟩ := cell3 ((O5.block w4.heap.size (Ne.symm hb3)).trans (heap_alloc_new _ _)) tn (by omega)
      have hsz3 := C5.out.grew.size
      clear R5 O5 C4
      have hwm : IntKind.i64.wrap ((m : Int) - 1) = (m : Int) - 1 := wrapM (by omega) (by omega)
      go_wp2_with (first
        | (at_builtin; refine wpList_append_own_at _ rfl _ _ 22 rfl w.heap.size 3 i0 (.int .i64 0) 1 8 Try.underlying22 hi hz0 hz1 hz2 rfl (by decide) _ _ _ rfl (C5.out.own.alloc _) ⟨w5.heap.size, 0, none⟩ 1 1 [.int .i64 k] rfl rfl (cell_one_new _ _ _) (ints_one .i64 k) (by unfold maxLen; omega) (by omega) (by simp; omega) ?_; intro v' w6 hown' hgrow hnil hloc)
        | go_in)
      go_roundw
      case rel =>
        refine ⟨m - 1, zs ++ [k], q + 1 + 1 + 1 + 1, by first | rfl | (congr 1; omega) | (simp; omega), by simp; omega, by omega, by simp; omega, ?_⟩
        have := (C5.out.alloc _).append hown' hgrow
        have h5 : Dr w br sv L 3 1 w6 (q + 1 + 1 + 1 + 1) v' (zs ++ [k]).length ((zs ++ [k]).map (Value.int .i64)) := by simpa using this
        exact h5
      case measure => simp [intOf]; omega

set_option maxRecDepth 100000 in
set_option maxHeartbeats 4000000 in
theorem l71Seals_any (br : Nat) (sv : Value) (L : Nat) (p : Int) (w : World) (R : Rd w br sv L p) (hp : 0 ≤ p) (hp2 : p ≤ 20) :
    Calls Try.prog 27 #[.pointer (some ⟨br, 0, none⟩)] w fun r w' => ∃ (v : Value) (xs : List Sl) (q : Int), r = .returned v ∧ xs.length ≤ 8 ∧ 0 ≤ q ∧ q ≤ 200 ∧ Dr w br sv L 40 7 w' q v xs.length (cellsL xs) := by
  have T0 : Hid (Dr w br sv L 40 7 (w.alloc (.cells #[] 40)) p (.slice (some ⟨w.heap.size, 0, none⟩) 0 0) 0 []) :=
    ⟨R.alloc _, (Grew.refl _ _).alloc _, ⟨rfl, Or.inr ⟨w.heap.size, 0, #[], rfl, Nat.le_refl _, heap_alloc_new _ _, Nat.le_refl _, Nat.zero_le _, rfl, rfl⟩⟩, R.lt⟩
  obtain ⟨i0, hi, hz0, hz1, hz2⟩ := info_parts infoSealM
  go_enter Try.func27, Try.ntmps27
  go_wp2_with fail
  refine (pick_any 9 (by omega) _ _ _ _ _ T0.out.rd (by omega) (by omega)).mono ?_
  rintro r w1 ⟨⟨m, m0, m1, rfl⟩, R1, O1⟩
  have T1 : Hid (Dr w br sv L 40 7 w1 (p + 1) (.slice (some ⟨w.heap.size, 0, none⟩) 0 0) 0 []) := T0.out.go R1 O1.grew
  clear R R1 O1 T0
  go_wp2_with fail
  go_loopw [3, 4] (fun v i wr => ∃ (m : Nat) (xs : List Sl) (q : Int), i = .int .i64 m ∧ m + xs.length ≤ 8 ∧ 0 ≤ q ∧ q ≤ 21 + 20 * (xs.length : Int) ∧ Hid (Dr w br sv L 40 7 wr q v xs.length (cellsL xs))) (fun _ i _ => (intOf i).toNat)
  case atStart => exact ⟨m.toNat, [], p + 1, by simp; omega, by simp; omega, by omega, by simp; omega, T1⟩
  case round =>
    clear T1
    obtain ⟨m, xs, q, rfl, hm, hq0, hq1, C⟩ := hrel
    by_cases hz : m = 0
    · subst hz
      go_wp2_with fail
      go_ret
      exact ⟨_, xs, q, rfl, by omega, by omega, by omega, C.out⟩
    · go_wp2_with fail
      refine (l71Seal_any _ _ _ _ _ C.out.rd (by omega) (by omega)).mono ?_
      rintro r w2 ⟨⟨k, t, a, b, c, d, e, rfl⟩, q2, hq20, hq21, R2, G2⟩
      have C2 : Hid (Dr w br sv L 40 7 w2 q2 u3 xs.length (cellsL xs)) := C.out.go R2 G2
      have hsz := C2.out.grew.size
      obtain ⟨s, hs⟩ : ∃ s : Sl, s = ⟨k, t, a, b, c, d, e⟩ := ⟨_, rfl⟩
      have hcs : s.cs = [.int .i64 k, .int .i64 t, .int .i64 a, .int .i64 b, .int .i64 c, .int .i64 d, .int .i64 e] := by rw [hs]; rfl
      clear C R2 G2
      have hwm : IntKind.i64.wrap ((m : Int) - 1) = (m : Int) - 1 := wrapM (by omega) (by omega)
      go_wp2_with (first
        | (at_builtin; refine wpList_append_own_at _ rfl _ _ 27 rfl w.heap.size 40 i0 (.agg #[.int .i64 0, .int .i64 0, .int .i64 0, .int .i64 0, .int .i64 0, .int .i64 0, .int .i64 0]) 7 56 Try.underlying27 hi hz0 hz1 hz2 rfl (by decide) _ _ _ rfl (C2.out.own.alloc _) ⟨w2.heap.size, 0, none⟩ 1 1 s.cs rfl (by rw [hcs]; rfl) (cs_at (by rw [hs]; exact ⟨by go_simp, by go_simp, by go_simp, by go_simp, by go_simp, by go_simp, by go_simp⟩)) (cs_one s) (by unfold maxLen; omega) (by omega) (by simp; omega) ?_; intro v' w6 hown' hgrow hnil hloc)
        | go_in)
      go_roundw
      case rel =>
        refine ⟨m - 1, xs ++ [s], q2, by first | rfl | (congr 1; omega) | (simp; omega), by simp; omega, by omega, by simp; omega, ?_⟩
        have := (C2.out.alloc _).append hown' hgrow
        rw [← cellsL_add] at this
        have h5 : Dr w br sv L 40 7 w6 q2 v' (xs ++ [s]).length (cellsL (xs ++ [s])) := by simpa using this
        exact h5
      case measure => simp [intOf]; omega

end Go.Proofs.Ythgglnjjbpjonaa
