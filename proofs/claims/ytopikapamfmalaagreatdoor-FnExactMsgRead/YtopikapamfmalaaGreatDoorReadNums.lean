/-
  The program's reading of six words as numbers: all of them, or false; nothing that was in memory is turned.
-/
import Derived.Test.YtopikapamfmalaaGreatDoorReadLib
namespace Go.Proofs.YtopikapamfmalaaGreatDoor
open Go.RowKit

/-- Six cells in a block of their own. -/
theorem cells6 {w : World} {B t : Nat} {a0 a1 a2 a3 a4 a5 : Value} (h : w.heap[B]? = some (.cells #[a0, a1, a2, a3, a4, a5] t (0, 0))) :
    w.cell? ⟨B, 0, none⟩ = some a0 ∧ w.cell? ⟨B, 1, none⟩ = some a1 ∧ w.cell? ⟨B, 2, none⟩ = some a2 ∧ w.cell? ⟨B, 3, none⟩ = some a3 ∧ w.cell? ⟨B, 4, none⟩ = some a4 ∧ w.cell? ⟨B, 5, none⟩ = some a5 ∧ (∀ i, w.frozen? ⟨B, i, none⟩ = false) := by
  refine ⟨?_, ?_, ?_, ?_, ?_, ?_, fun i => ?_⟩
  all_goals simp [World.cell?, World.frozen?, h]

/-- On the way: the numbers that were read, in a block of their own; the answer's block; what was there. -/
structure Nm (W : World) (y : Nat → ByteArray) (w : World) (j : Nat) (x : Nat → Int) : Prop where
  below : Below W.heap.size W w
  res : w.heap[W.heap.size]? = some (.cells #[.int .i64 0, .int .i64 0, .int .i64 0, .int .i64 0, .int .i64 0, .int .i64 0] 105 (0, 0))
  nums : w.heap[W.heap.size + 1]? = some (.cells #[.int .i64 (x 0), .int .i64 (x 1), .int .i64 (x 2), .int .i64 (x 3), .int .i64 (x 4), .int .i64 (x 5)] 105 (0, 0))
  read : ∀ m, m < j → Lib.atoiAll (y m).data.toList = .ok (x m)
theorem Nm.next {W : World} {y : Nat → ByteArray} {w w' : World} {j : Nat} {x : Nat → Int} (h : Nm W y w j x) (hb : Below w.heap.size w w') : Nm W y w' j x :=
  ⟨h.below.trans (hb.mono h.below.size), (hb.block _ (Array.getElem?_eq_some_iff.1 h.res).1).trans h.res, (hb.block _ (Array.getElem?_eq_some_iff.1 h.nums).1).trans h.nums, h.read⟩
theorem heap_set {w : World} {B o t : Nat} {cs : Array Value} {v : Value} (h : w.heap[B]? = some (.cells cs t (0, 0))) : (w.setCell ⟨B, o, none⟩ v).heap[B]? = some (.cells (cs.setIfInBounds o v) t (0, 0)) := by
  have hlt : B < w.heap.size := (Array.getElem?_eq_some_iff.1 h).1
  simp [World.setCell, Array.getElem?_modify, h]
/-- One number more. -/
theorem Nm.put {W : World} {y : Nat → ByteArray} {w : World} {j : Nat} {x : Nat → Int} (h : Nm W y w j x) {v : Int} (hj : j < 6) (hv : Lib.atoiAll (y j).data.toList = .ok v) {o : Nat} (ho : o = j) :
    Nm W y (w.setCell ⟨W.heap.size + 1, o, none⟩ (.int .i64 v)) (j + 1) (fun m => if m = j then v else x m) := by
  subst ho
  refine ⟨h.below.setCell (by simp) _, (Below.heap_setCell w _ _ _ (by simp)).trans h.res, ?_, fun m hm => ?_⟩
  · rw [heap_set h.nums]
    obtain rfl | rfl | rfl | rfl | rfl | rfl : o = 0 ∨ o = 1 ∨ o = 2 ∨ o = 3 ∨ o = 4 ∨ o = 5 := by omega
    all_goals simp
  · by_cases e : m = o
    · subst e; simpa using hv
    · simp only [e, if_false]; exact h.read m (by omega)

set_option maxHeartbeats 1000000 in
set_option maxRecDepth 100000 in
theorem nums_any (g cap : Nat) (y : Nat → ByteArray) (w : World) (hl : Lb w) (hy : ∀ j, j < 6 → (y j).size ≤ 2000000 ∧ w.cell? ⟨g, 1 + j, none⟩ = some (.string (y j))) :
    Calls Tryz.prog 87 #[.slice (some ⟨g, 1, none⟩) 6 cap] w fun r w' => (∃ (x0 x1 x2 x3 x4 x5 : Int) (b : Bool), r = .returned (.tuple #[.agg #[.int .i64 x0, .int .i64 x1, .int .i64 x2, .int .i64 x3, .int .i64 x4, .int .i64 x5], .bool b]) ∧ (b = true → Lib.atoiAll (y 0).data.toList = .ok x0 ∧ Lib.atoiAll (y 1).data.toList = .ok x1 ∧ Lib.atoiAll (y 2).data.toList = .ok x2 ∧ Lib.atoiAll (y 3).data.toList = .ok x3 ∧ Lib.atoiAll (y 4).data.toList = .ok x4 ∧ Lib.atoiAll (y 5).data.toList = .ok x5) ∧ (b = false → ∃ j, j < 6 ∧ ∀ u, Lib.atoiAll (y j).data.toList ≠ .ok u)) ∧ Below w.heap.size w w' := by
  have HY : Hid (Lb w ∧ ∀ j, j < 6 → (y j).size ≤ 2000000 ∧ w.cell? ⟨g, 1 + j, none⟩ = some (.string (y j))) := ⟨hl, hy⟩
  clear hl hy
  go_enter Tryz.func87, Tryz.ntmps87
  go_wp2_with fail
  have T0 : Hid (Nm w y ((w.alloc (.cells #[.int .i64 0, .int .i64 0, .int .i64 0, .int .i64 0, .int .i64 0, .int .i64 0] 105)).alloc (.cells #[.int .i64 0, .int .i64 0, .int .i64 0, .int .i64 0, .int .i64 0, .int .i64 0] 105)) 0 (fun _ => 0)) :=
    ⟨((Below.refl _ _).alloc (Nat.le_refl _) _).alloc (by simp) _, (Below.heap_alloc _ _ _ (by simp)).trans (heap_alloc_new w _), (by have h := heap_alloc_new (w.alloc (.cells #[.int .i64 0, .int .i64 0, .int .i64 0, .int .i64 0, .int .i64 0, .int .i64 0] 105)) (.cells #[.int .i64 0, .int .i64 0, .int .i64 0, .int .i64 0, .int .i64 0, .int .i64 0] 105); rw [show (w.alloc (.cells #[.int .i64 0, .int .i64 0, .int .i64 0, .int .i64 0, .int .i64 0, .int .i64 0] 105)).heap.size = w.heap.size + 1 from by simp] at h; exact h), fun m hm => by omega⟩
  go_loopw [5, 6, 7, 8] (fun _ _ _ i wr => ∃ j : Nat, j ≤ 6 ∧ i = .int .i64 j ∧ ∃ x, Hid (Nm w y wr j x)) (fun _ _ _ i _ => 6 - (intOf i).toNat)
  case atStart => exact ⟨0, by omega, rfl, _, T0⟩
  case round =>
    clear T0
    obtain ⟨j, hj, rfl, x, T⟩ := hrel
    by_cases hlt : j < 6
    · have hc := cell_later T.out.below (HY.out.2 j hlt).2
      have hs := (HY.out.2 j hlt).1
      have hlb := HY.out.1.below T.out.below
      obtain ⟨m0, m1, m2, m3, m4, m5, mf⟩ := cells6 T.out.nums
      obtain ⟨z0, z1, z2, z3, z4, z5, zf⟩ := cells6 T.out.res
      have hjI : (0 : Int) ≤ (j : Int) := by omega
      have hjL : (j : Int) < 6 := by omega
      clear m0 m1 m2 m3 m4 m5 mf z0 z1 z2 z3 z4 z5 zf
      have HL : Hid (Lb wr) := hlb
      clear hlb
      go_wp2_with fail
      refine (atoi_any _ hs _ HL.out).mono ?_
      rintro r4 w4 ⟨h4, hb4⟩
      have T4 : Hid (Nm w y w4 j x) := T.out.next hb4
      clear hb4 hc HL T
      rcases h4 with ⟨v, hv, rfl⟩ | ⟨v, N, hv, rfl⟩
      · have HV : Hid (Lib.atoiAll (y j).data.toList = .ok v) := hv
        clear hv hs
        obtain rfl | rfl | rfl | rfl | rfl | rfl : j = 0 ∨ j = 1 ∨ j = 2 ∨ j = 3 ∨ j = 4 ∨ j = 5 := by omega
        all_goals
          obtain ⟨m0, m1, m2, m3, m4, m5, mf⟩ := cells6 T4.out.nums
          go_wp2
          go_roundw
          case rel => exact ⟨_, by omega, by first | rfl | go_num, _, T4.out.put (by omega) HV.out (by rfl)⟩
          case measure => simp [intOf]
      · have HV : Hid (∀ u, Lib.atoiAll (y j).data.toList ≠ .ok u) := hv
        clear hv hs
        obtain ⟨m0, m1, m2, m3, m4, m5, mf⟩ := cells6 T4.out.nums
        obtain ⟨z0, z1, z2, z3, z4, z5, zf⟩ := cells6 T4.out.res
        go_wp2
        exact bodyPost_ret (v := .tuple #[.agg #[_, _, _, _, _, _], .bool false]) (by simp [results, Tryz.results87, go_sem, z0, z1, z2, z3, z4, z5]; exact ⟨rfl, rfl, rfl, rfl, rfl, rfl⟩) rfl ⟨⟨_, _, _, _, _, _, false, rfl, (fun h => by cases h), fun _ => ⟨j, hlt, HV.out⟩⟩, ((((((T4.out.below.setCell (Nat.le_refl _) _).setCell (Nat.le_refl _) _).setCell (Nat.le_refl _) _).setCell (Nat.le_refl _) _).setCell (Nat.le_refl _) _).setCell (Nat.le_refl _) _)⟩
    · obtain rfl : j = 6 := by omega
      obtain ⟨m0, m1, m2, m3, m4, m5, mf⟩ := cells6 T.out.nums
      obtain ⟨z0, z1, z2, z3, z4, z5, zf⟩ := cells6 T.out.res
      go_wp2
      exact bodyPost_ret (v := .tuple #[.agg #[_, _, _, _, _, _], .bool true]) (by simp [results, Tryz.results87, go_sem, z0, z1, z2, z3, z4, z5]) rfl ⟨⟨_, _, _, _, _, _, true, rfl, (fun _ => ⟨T.out.read 0 (by omega), T.out.read 1 (by omega), T.out.read 2 (by omega), T.out.read 3 (by omega), T.out.read 4 (by omega), T.out.read 5 (by omega)⟩), (fun h => by cases h)⟩, ((((((T.out.below.setCell (Nat.le_refl _) _).setCell (Nat.le_refl _) _).setCell (Nat.le_refl _) _).setCell (Nat.le_refl _) _).setCell (Nat.le_refl _) _).setCell (Nat.le_refl _) _)⟩

end Go.Proofs.YtopikapamfmalaaGreatDoor
