/-
  The program's readNums: of a line the four numbers of a word without seals, or none; nothing that was in memory is turned.
-/
import Derived.Test.YtopikapamfmalaaGreatDoorReadNums
import Derived.Test.YtopikapamfmalaaGreatDoorMsgRow
import Derived.Test.YtopikapamfmalaaGreatDoorDrawMsg
import Derived.Lib.SplitLaws
namespace Go.Proofs.YtopikapamfmalaaGreatDoor
open Go.RowKit
attribute [local go_sem ↓] Go.wp_at_zero Go.wp_at_succ

/-- A line's pieces between blanks. -/
def wordsB (s : ByteArray) : List ByteArray := Lib.splitB ⟨#[32]⟩ 0 (Lib.countB s ⟨#[32]⟩) s
/-- They are the four numbers. -/
def Nums (s : ByteArray) (m n k f : Int) : Prop := ∃ q0 q1 q2 q3, wordsB s = [q0, q1, q2, q3] ∧ Lib.atoiAll q0.data.toList = .ok m ∧ Lib.atoiAll q1.data.toList = .ok n ∧ Lib.atoiAll q2.data.toList = .ok k ∧ Lib.atoiAll q3.data.toList = .ok f

/-- What the package's own errors are. -/
structure Er (p1 p2 p3 : Option Addr) (w : World) : Prop where
  opn : w.cell? ⟨2, 0, none⟩ = some (.iface 179 (.pointer p1))
  num : w.cell? ⟨3, 0, none⟩ = some (.iface 179 (.pointer p2))
  sea : w.cell? ⟨4, 0, none⟩ = some (.iface 179 (.pointer p3))
theorem Er.below {p1 p2 p3 : Option Addr} {w w' : World} (h : Er p1 p2 p3 w) (hb : Below w.heap.size w w') : Er p1 p2 p3 w' :=
  ⟨cell_later hb h.opn, cell_later hb h.num, cell_later hb h.sea⟩

theorem splitW_any (s : ByteArray) (hs : s.size ≤ 2000000) (w : World) (h : Lb w) :
    Calls Tryz.prog 68 #[.string s, .string ⟨#[32]⟩] w fun e w' => e = .returned (.slice (some ⟨w.heap.size, 0, none⟩) (wordsB s).length (wordsB s).length) ∧ Below w.heap.size w w' ∧ w'.heap.size = w.heap.size + 1 ∧
      ∀ (j : Nat) x, (wordsB s)[j]? = some x → w'.cell? ⟨w.heap.size, j, none⟩ = some (.string x) := by
  obtain ⟨m, hm⟩ := h.mx
  have L := Tryz.laysM146
  refine (Any.strings_Split { L with } L.i9 s ⟨#[32]⟩ m w (by omega) hm (by decide)).mono ?_
  rintro e w' ⟨rfl, rfl⟩
  have hl : (wordsB s).length = Lib.countB s ⟨#[32]⟩ + 1 := Lib.splitB_all ⟨#[32]⟩ (by decide) 0 _ s rfl
  refine ⟨by rw [hl], (Below.refl _ _).alloc (Nat.le_refl _) _, by simp, fun j x hj => ?_⟩
  have e2 := heap_alloc_new w (.cells ((wordsB s).map Value.string).toArray (Tryz.laysM146_ren.t 9))
  have e3 : (w.alloc (.cells ((Lib.splitB ⟨#[32]⟩ 0 (Lib.countB s ⟨#[32]⟩) s).map Value.string).toArray (Tryz.laysM146_ren.t 9))) = (w.alloc (.cells ((wordsB s).map Value.string).toArray (Tryz.laysM146_ren.t 9))) := rfl
  rw [e3]
  simp only [World.cell?, e2]
  simp [hj]

theorem words_size {s x : ByteArray} (h : x ∈ wordsB s) : x.size ≤ s.size := splitB_size ⟨#[32]⟩ _ s x h

/-- On the way: so many numbers are read. -/
structure Nq (W : World) (Bn : Nat) (y : Nat → ByteArray) (w : World) (j : Nat) (x : Nat → Int) : Prop where
  below : Below W.heap.size W w
  res : w.heap[W.heap.size]? = some (.cells #[.int .i64 0, .int .i64 0, .int .i64 0, .int .i64 0, .slice none 0 0] 24 (0, 0))
  nums : w.heap[Bn]? = some (.cells #[.int .i64 (x 0), .int .i64 (x 1), .int .i64 (x 2), .int .i64 (x 3)] 66 (0, 0))
  words : ∀ j, j < 4 → w.cell? ⟨W.heap.size + 1, j, none⟩ = some (.string (y j))
  read : ∀ m, m < j → Lib.atoiAll (y m).data.toList = .ok (x m)
  lo : W.heap.size + 1 < Bn
theorem Nq.next {W : World} {Bn : Nat} {y : Nat → ByteArray} {w w' : World} {j : Nat} {x : Nat → Int} (h : Nq W Bn y w j x) (hb : Below w.heap.size w w') : Nq W Bn y w' j x :=
  ⟨h.below.trans (hb.mono h.below.size), (hb.block _ (Array.getElem?_eq_some_iff.1 h.res).1).trans h.res, (hb.block _ (Array.getElem?_eq_some_iff.1 h.nums).1).trans h.nums, fun j hj => cell_later hb (h.words j hj), h.read, h.lo⟩
theorem cells4 {w : World} {B t : Nat} {a0 a1 a2 a3 : Value} (h : w.heap[B]? = some (.cells #[a0, a1, a2, a3] t (0, 0))) :
    w.cell? ⟨B, 0, none⟩ = some a0 ∧ w.cell? ⟨B, 1, none⟩ = some a1 ∧ w.cell? ⟨B, 2, none⟩ = some a2 ∧ w.cell? ⟨B, 3, none⟩ = some a3 ∧ (∀ i, w.frozen? ⟨B, i, none⟩ = false) ∧ B < w.heap.size := by
  refine ⟨?_, ?_, ?_, ?_, fun i => ?_, (Array.getElem?_eq_some_iff.1 h).1⟩
  all_goals simp [World.cell?, World.frozen?, h]
theorem Nq.put {W : World} {Bn : Nat} {y : Nat → ByteArray} {w : World} {j : Nat} {x : Nat → Int} (h : Nq W Bn y w j x) {v : Int} (hj : j < 4) (hv : Lib.atoiAll (y j).data.toList = .ok v) {o : Nat} (ho : o = j) :
    Nq W Bn y (w.setCell ⟨Bn, o, none⟩ (.int .i64 v)) (j + 1) (fun m => if m = j then v else x m) := by
  subst ho
  have hlo := h.lo
  refine ⟨h.below.setCell (p := ⟨Bn, o, none⟩) (by simp; omega) _, (heap_put_else (by omega)).trans h.res, ?_, fun j hj => ?_, fun m hm => ?_, hlo⟩
  · rw [heap_put h.nums]
    obtain rfl | rfl | rfl | rfl : o = 0 ∨ o = 1 ∨ o = 2 ∨ o = 3 := by omega
    all_goals simp
  · rw [elsewhere (Or.inl (by omega))]; exact h.words j hj
  · by_cases e : m = o
    · subst e; simpa using hv
    · simp only [e, if_false]; exact h.read m (by omega)

set_option maxHeartbeats 2000000 in
set_option maxRecDepth 100000 in
/-- The program's readNums. -/
theorem readNums_any (s : ByteArray) (hs : s.size ≤ 2000000) (p1 p2 p3 : Option Addr) (w : World) (hl : Lb w) (he : Er p1 p2 p3 w) :
    Calls Tryz.prog 48 #[.string s] w fun r w' => ((∃ m n k f, Nums s m n k f ∧ r = .returned (.tuple #[.agg #[.int .i64 m, .int .i64 n, .int .i64 k, .int .i64 f, .slice none 0 0], .nilIface])) ∨ ((∀ m n k f, ¬ Nums s m n k f) ∧ r = .returned (.tuple #[.agg #[.int .i64 0, .int .i64 0, .int .i64 0, .int .i64 0, .slice none 0 0], .iface 179 (.pointer p2)]))) ∧ Below w.heap.size w w' := by
  have HE : Hid (Er p1 p2 p3 w ∧ Lb w) := ⟨he, hl⟩
  clear he hl
  go_enter Tryz.func48, Tryz.ntmps48
  go_wp2_with fail
  refine (splitW_any s hs _ (HE.out.2.below ((Below.refl _ _).alloc (Nat.le_refl _) _))).mono ?_
  rintro r1 w1 ⟨rfl, hb1, hz1, hc1⟩
  have hz : w1.heap.size = w.heap.size + 2 := by simpa using hz1
  have B1 : Below w.heap.size w w1 := ((Below.refl _ _).alloc (Nat.le_refl _) _).trans (hb1.mono (by simp))
  have R1 : w1.heap[w.heap.size]? = some (.cells #[.int .i64 0, .int .i64 0, .int .i64 0, .int .i64 0, .slice none 0 0] 24 (0, 0)) := (hb1.block _ (by simp)).trans (heap_alloc_new w _)
  have E1 : Er p1 p2 p3 w1 := HE.out.1.below B1
  have HB1 : Hid (Below w.heap.size w w1 ∧ w1.heap[w.heap.size]? = some (.cells #[.int .i64 0, .int .i64 0, .int .i64 0, .int .i64 0, .slice none 0 0] 24 (0, 0)) ∧ Er p1 p2 p3 w1 ∧ ∀ (j : Nat) x, (wordsB s)[j]? = some x → w1.cell? ⟨w.heap.size + 1, j, none⟩ = some (.string x)) := ⟨B1, R1, E1, by simpa using hc1⟩
  clear hb1 hz1 hc1 B1 R1 E1
  by_cases h4 : (wordsB s).length = 4
  · obtain ⟨q0, q1, q2, q3, hq⟩ : ∃ q0 q1 q2 q3, wordsB s = [q0, q1, q2, q3] := by
      match hw : wordsB s, h4 with
      | [q0, q1, q2, q3], _ => exact ⟨q0, q1, q2, q3, rfl⟩
    obtain ⟨y, hy⟩ : ∃ y : Nat → ByteArray, y = fun j => [q0, q1, q2, q3].getD j ⟨#[]⟩ := ⟨_, rfl⟩
    have HY : Hid ((∀ j, j < 4 → (y j).size ≤ 2000000) ∧ wordsB s = [y 0, y 1, y 2, y 3]) := by
      refine ⟨fun j hj => ?_, by rw [hy, hq]; rfl⟩
      have : y j ∈ wordsB s := by
        rw [hq, hy]
        obtain rfl | rfl | rfl | rfl : j = 0 ∨ j = 1 ∨ j = 2 ∨ j = 3 := by omega
        all_goals simp
      have := words_size this; omega
    have T0 : Hid (Nq w (w.heap.size + 2) y (w1.alloc (.cells #[.int .i64 0, .int .i64 0, .int .i64 0, .int .i64 0] 66)) 0 (fun _ => 0)) := by
      have hbA : Below w1.heap.size w1 (w1.alloc (.cells #[.int .i64 0, .int .i64 0, .int .i64 0, .int .i64 0] 66)) := (Below.refl _ _).alloc (Nat.le_refl _) _
      refine ⟨HB1.out.1.trans (hbA.mono (by omega)), (hbA.block _ (by omega)).trans HB1.out.2.1, ?_, fun j hj => cell_later hbA ?_, fun m hm => by omega, by omega⟩
      · rw [← hz]; exact heap_alloc_new _ _
      · apply HB1.out.2.2.2
        rw [hq, hy]
        obtain rfl | rfl | rfl | rfl : j = 0 ∨ j = 1 ∨ j = 2 ∨ j = 3 := by omega
        all_goals rfl
    rw [h4]
    clear hq hy h4 HB1
    go_wp2_with fail
    clear hz
    go_loopw [6, 7, 8, 18] (fun _ _ _ i wr => ∃ j : Nat, j ≤ 4 ∧ i = .int .i64 j ∧ ∃ x, Hid (Nq w (w.heap.size + 2) y wr j x)) (fun _ _ _ i _ => 4 - (intOf i).toNat)
    case atStart => exact ⟨0, by omega, rfl, _, T0⟩
    case round =>
      clear T0
      obtain ⟨j, hj, rfl, x, T⟩ := hrel
      by_cases hlt : j < 4
      · have hc := T.out.words j hlt
        have hsj := HY.out.1 j hlt
        have HL : Hid (Lb wr ∧ Er p1 p2 p3 wr) := ⟨HE.out.2.below T.out.below, HE.out.1.below T.out.below⟩
        go_wp2_with fail
        refine (atoi_any _ hsj _ HL.out.1).mono ?_
        rintro r4 w4 ⟨h4, hb4⟩
        have T4 : Hid (Nq w (w.heap.size + 2) y w4 j x) := T.out.next hb4
        have E4 : Hid (Er p1 p2 p3 w4) := HL.out.2.below hb4
        clear hb4 hc HL T
        rcases h4 with ⟨v, hv, rfl⟩ | ⟨v, N, hv, rfl⟩
        · have HV : Hid (Lib.atoiAll (y j).data.toList = .ok v) := hv
          clear hv hsj
          obtain ⟨m0, m1, m2, m3, mf, ml⟩ := cells4 T4.out.nums
          obtain rfl | rfl | rfl | rfl : j = 0 ∨ j = 1 ∨ j = 2 ∨ j = 3 := by omega
          all_goals
            go_wp2
            go_roundw
            case rel => exact ⟨_, by omega, by first | rfl | go_num, _, T4.out.put (by omega) HV.out (by rfl)⟩
            case measure => simp [intOf]
        · have HN : Hid (∀ m n k f, ¬ Nums s m n k f) := by
            rintro m n k f ⟨q0, q1, q2, q3, hq, ha, hb, hc, hd⟩
            rw [HY.out.2] at hq
            simp only [List.cons.injEq, and_true] at hq
            obtain ⟨e0, e1, e2, e3⟩ := hq
            have : ∃ u, Lib.atoiAll (y j).data.toList = .ok u := by
              obtain rfl | rfl | rfl | rfl : j = 0 ∨ j = 1 ∨ j = 2 ∨ j = 3 := by omega
              · exact ⟨m, by rw [e0]; exact ha⟩
              · exact ⟨n, by rw [e1]; exact hb⟩
              · exact ⟨k, by rw [e2]; exact hc⟩
              · exact ⟨f, by rw [e3]; exact hd⟩
            obtain ⟨u, hu⟩ := this
            exact hv u hu
          clear hv hsj
          obtain ⟨m0, m1, m2, m3, mf, ml⟩ := cells4 T4.out.nums
          obtain ⟨z0, z1, z2, z3, z4, zf, zl⟩ := cells5 T4.out.res
          have hlo := T4.out.lo
          have hgn := E4.out.num
          have hgg : 3 < w.heap.size := block_lt_of_cell HE.out.1.num
          obtain rfl | rfl | rfl | rfl : j = 0 ∨ j = 1 ∨ j = 2 ∨ j = 3 := by omega
          all_goals
            go_wp2_with fail
            refine wp_region_held_drew (S := fun w' => w'.cell? ⟨3, 0, none⟩ = some (.iface 179 (.pointer p2))) (by kernel_rfl) (by go_simp) (fun hS => ?_)
            refine take1 0 32 (.agg #[.int .i64 0, .int .i64 0, .int .i64 0, .int .i64 0, .slice none 0 0]) rfl rfl (by kernel_rfl) (by kernel_rfl) (by kernel_rfl) (by rfl) (fun _ _ _ h => h) hS (fun w' hS' => ?_) ?_
            · go_simp
            simp only [Act.put, List.setIfInBounds_toArray, List.set_cons_zero, List.set_cons_succ]
            refine take1 1 33 (.iface 179 (.pointer p2)) rfl rfl (by kernel_rfl) (by kernel_rfl) (by kernel_rfl) (by rfl) (fun _ _ _ h => h) hS (fun w' hS' => ?_) ?_
            · go_simp
            simp only [Act.put, List.setIfInBounds_toArray, List.set_cons_zero, List.set_cons_succ]
            refine wpAnyH_ready (rs := [2]) (by kernel_rfl) (by simp) ?_
            refine AllReadyH.cons rfl (fun K hK => ?_) AllReadyH.nil
            go_simp
            refine hK.out _ _ (by go_simp) (fun hS2 => ?_)
            clear hK K hS
            refine take1 3 3 (.iface 179 (.pointer p2)) rfl rfl (by kernel_rfl) (by kernel_rfl) (by kernel_rfl) (by rfl) (fun _ _ _ h => h) hS2 (fun w' hS' => ?_) ?_
            · go_simp
            simp only [Act.put, List.setIfInBounds_toArray, List.set_cons_zero, List.set_cons_succ]
            clear hS2
            refine wpAnyH_done (by kernel_rfl) ?_ _
            go_wp2_with fail
            refine bodyPost_ret (v := .tuple #[.agg #[.int .i64 0, .int .i64 0, .int .i64 0, .int .i64 0, .slice none 0 0], .iface 179 (.pointer p2)]) (by simp [results, Tryz.results48, go_sem, *]) rfl ⟨Or.inr ⟨?_, rfl⟩, ?_⟩
            · exact HN.out
            · exact ((((((T4.out.below.setCell (p := ⟨w.heap.size + 2, _, none⟩) (by simp) _).setCell (p := ⟨w.heap.size, 0, none⟩) (Nat.le_refl _) _).setCell (p := ⟨w.heap.size, 1, none⟩) (Nat.le_refl _) _).setCell (p := ⟨w.heap.size, 2, none⟩) (Nat.le_refl _) _).setCell (p := ⟨w.heap.size, 3, none⟩) (Nat.le_refl _) _).setCell (p := ⟨w.heap.size, 4, none⟩) (Nat.le_refl _) _).drew
      · obtain rfl : j = 4 := by omega
        obtain ⟨m0, m1, m2, m3, mf, ml⟩ := cells4 T.out.nums
        obtain ⟨z0, z1, z2, z3, z4, zf, zl⟩ := cells5 T.out.res
        go_wp2_with fail
        refine bodyPost_ret (v := .tuple #[.agg #[.int .i64 (x 0), .int .i64 (x 1), .int .i64 (x 2), .int .i64 (x 3), .slice none 0 0], .nilIface]) (by simp [results, Tryz.results48, go_sem, *]) rfl ⟨Or.inl ⟨_, _, _, _, ⟨_, _, _, _, HY.out.2, T.out.read 0 (by omega), T.out.read 1 (by omega), T.out.read 2 (by omega), T.out.read 3 (by omega)⟩, rfl⟩, ?_⟩
        exact ((((T.out.below.setCell (p := ⟨_, _, none⟩) (Nat.le_refl _) _).setCell (p := ⟨_, _, none⟩) (Nat.le_refl _) _).setCell (p := ⟨_, _, none⟩) (Nat.le_refl _) _).setCell (p := ⟨_, _, none⟩) (Nat.le_refl _) _).setCell (p := ⟨_, _, none⟩) (Nat.le_refl _) _
  · have hgn : w1.cell? ⟨3, 0, none⟩ = some (.iface 179 (.pointer p2)) := HB1.out.2.2.1.num
    have hgg : 3 < w.heap.size := block_lt_of_cell HE.out.1.num
    have hlb : (((wordsB s).length : Int) == 4) = false := by rw [beq_eq_false_iff_ne]; omega
    have hln : ¬ (((wordsB s).length : Int) = 4) := by omega
    obtain ⟨z0, z1, z2, z3, z4, zf, zl⟩ := cells5 HB1.out.2.1
    go_wp2_with fail
    refine wp_region_held_drew (S := fun w' => w'.cell? ⟨3, 0, none⟩ = some (.iface 179 (.pointer p2))) (by kernel_rfl) (by go_simp) (fun hS => ?_)
    refine take1 0 14 (.agg #[.int .i64 0, .int .i64 0, .int .i64 0, .int .i64 0, .slice none 0 0]) rfl rfl (by kernel_rfl) (by kernel_rfl) (by kernel_rfl) (by rfl) (fun _ _ _ h => h) hS (fun w' hS' => ?_) ?_
    · go_simp
    simp only [Act.put, List.setIfInBounds_toArray, List.set_cons_zero, List.set_cons_succ]
    refine take1 1 15 (.iface 179 (.pointer p2)) rfl rfl (by kernel_rfl) (by kernel_rfl) (by kernel_rfl) (by rfl) (fun _ _ _ h => h) hS (fun w' hS' => ?_) ?_
    · go_simp
    simp only [Act.put, List.setIfInBounds_toArray, List.set_cons_zero, List.set_cons_succ]
    refine wpAnyH_ready (rs := [2]) (by kernel_rfl) (by simp) ?_
    refine AllReadyH.cons rfl (fun K hK => ?_) AllReadyH.nil
    go_simp
    refine hK.out _ _ (by go_simp) (fun hS2 => ?_)
    clear hK K hS
    refine take1 3 3 (.iface 179 (.pointer p2)) rfl rfl (by kernel_rfl) (by kernel_rfl) (by kernel_rfl) (by rfl) (fun _ _ _ h => h) hS2 (fun w' hS' => ?_) ?_
    · go_simp
    simp only [Act.put, List.setIfInBounds_toArray, List.set_cons_zero, List.set_cons_succ]
    clear hS2
    refine wpAnyH_done (by kernel_rfl) ?_ _
    go_wp2_with fail
    refine bodyPost_ret (v := .tuple #[.agg #[.int .i64 0, .int .i64 0, .int .i64 0, .int .i64 0, .slice none 0 0], .iface 179 (.pointer p2)]) (by simp [results, Tryz.results48, go_sem, *]) rfl ⟨Or.inr ⟨?_, rfl⟩, ?_⟩
    · rintro m n k f ⟨q0, q1, q2, q3, hq, _⟩
      exact h4 (by rw [hq]; rfl)
    · exact (((((HB1.out.1.setCell (p := ⟨w.heap.size, 0, none⟩) (Nat.le_refl _) _).setCell (p := ⟨w.heap.size, 1, none⟩) (Nat.le_refl _) _).setCell (p := ⟨w.heap.size, 2, none⟩) (Nat.le_refl _) _).setCell (p := ⟨w.heap.size, 3, none⟩) (Nat.le_refl _) _).setCell (p := ⟨w.heap.size, 4, none⟩) (Nat.le_refl _) _).drew

end Go.Proofs.YtopikapamfmalaaGreatDoor
