/-
  The ring: seals from a place on, those past the end at the beginning; one more behind all, the first taken out.
-/
import Derived.Test.YtghajmfjekfdpaaDoorKdcMJ
import Derived.Test.YtghajmfjekfdpaaDoorPut7
import Derived.Test.YtghajmfjekfdpaaDoorSOwn
namespace Go.Proofs.YtghajmfjekfdpaaDoor
open Go.RowKit
attribute [local go_sem ↓] Go.wp_at_zero Go.wp_at_succ

/-- The ring at a block: from a place on, these seals. -/
structure Ring (w : World) (R f : Nat) (xs : List Sl) : Prop where
  blk : ∃ cur, w.heap[R]? = some (.cells cur 125 (0, 0)) ∧ cur.size = 142
  hf : f < 20
  len : xs.length ≤ 20
  first : w.cell? ⟨R, 140, none⟩ = some (.int .i64 f)
  count : w.cell? ⟨R, 141, none⟩ = some (.int .i64 xs.length)
  seals : ∀ (i : Nat) s, xs[i]? = some s → SealAt w R ((f + i) % 20 * 7) s
theorem Ring.lt {w : World} {R f : Nat} {xs : List Sl} (h : Ring w R f xs) : R < w.heap.size := by
  obtain ⟨cur, hc, _⟩ := h.blk
  exact (Array.getElem?_eq_some_iff.1 hc).1
theorem Ring.cell {w : World} {R f : Nat} {xs : List Sl} (h : Ring w R f xs) {o : Nat} (ho : o < 142) : (∃ v, w.cell? ⟨R, o, none⟩ = some v) ∧ w.frozen? ⟨R, o, none⟩ = false := by
  obtain ⟨cur, hc, hn⟩ := h.blk
  have ho' : o < cur.size := by omega
  exact ⟨⟨cur[o], by simp [World.cell?, hc, ho']⟩, by simp [World.frozen?, hc]⟩
theorem Ring.same {w w' : World} {R f : Nat} {xs : List Sl} (h : Ring w R f xs) (e : w'.heap[R]? = w.heap[R]?) : Ring w' R f xs := by
  have hc : ∀ o, w'.cell? ⟨R, o, none⟩ = w.cell? ⟨R, o, none⟩ := fun o => World.cell?_of_block (a := ⟨R, o, none⟩) e
  refine ⟨by rw [e]; exact h.blk, h.hf, h.len, (hc _).trans h.first, (hc _).trans h.count, fun i s hs => ?_⟩
  have d := h.seals i s hs
  exact ⟨(hc _).trans d.c0, (hc _).trans d.c1, (hc _).trans d.c2, (hc _).trans d.c3, (hc _).trans d.c4, (hc _).trans d.c5, (hc _).trans d.c6⟩
theorem Ring.later {w w' : World} {R f : Nat} {xs : List Sl} (h : Ring w R f xs) (hb : Below w.heap.size w w') : Ring w' R f xs := h.same (hb.block _ h.lt)

theorem cells7r {w : World} {B t : Nat} {a0 a1 a2 a3 a4 a5 a6 : Value} (h : w.heap[B]? = some (.cells #[a0, a1, a2, a3, a4, a5, a6] t (0, 0))) :
    w.cell? ⟨B, 0, none⟩ = some a0 ∧ w.cell? ⟨B, 1, none⟩ = some a1 ∧ w.cell? ⟨B, 2, none⟩ = some a2 ∧ w.cell? ⟨B, 3, none⟩ = some a3 ∧ w.cell? ⟨B, 4, none⟩ = some a4 ∧ w.cell? ⟨B, 5, none⟩ = some a5 ∧ w.cell? ⟨B, 6, none⟩ = some a6 ∧ (∀ i, w.frozen? ⟨B, i, none⟩ = false) := by
  refine ⟨?_, ?_, ?_, ?_, ?_, ?_, ?_, fun i => ?_⟩
  all_goals simp [World.cell?, World.frozen?, h]
theorem set_grown {W w : World} {b o : Nat} {v : Value} (g : W.grownBy w (some b)) : W.grownBy (w.setCell ⟨b, o, none⟩ v) (some b) :=
  ⟨g.os, g.tape, g.output, by simpa using g.size, fun k hk hne => by
    rw [← g.block k hk hne]
    have : ¬ b = k := fun e => hne (by rw [e])
    simp [World.setCell, Array.getElem?_modify, this]⟩
theorem put7_grown {W w : World} {b o : Nat} {s : Sl} (g : W.grownBy w (some b)) : W.grownBy (put7 w b o s) (some b) :=
  set_grown (set_grown (set_grown (set_grown (set_grown (set_grown (set_grown g))))))
theorem put7_aside {W w : World} {b o : Nat} {s : Sl} {r : Option Nat} (g : W.grownBy w r) (hb : W.heap.size ≤ b) : W.grownBy (put7 w b o s) r :=
  have hh : Below b w (put7 w b o s) := put7_below (Below.refl _ _) (Nat.le_refl _)
  ⟨hh.os.trans g.os, hh.tape.trans g.tape, hh.output.trans g.output, Nat.le_trans g.size hh.size, fun k hk hne => (put7_heap (show b ≠ k by omega)).trans (g.block k hk hne)⟩
theorem Ring.free {w : World} {R f : Nat} {xs : List Sl} (h : Ring w R f xs) {i : Nat} (hi : i < xs.length) (hl : xs.length < 20) : (f + i) % 20 ≠ (f + xs.length) % 20 := by
  have := h.hf
  omega
theorem Ring.put {w : World} {R f J : Nat} {xs : List Sl} (h : Ring w R f xs) (hl : xs.length < 20) (hJ : J = (f + xs.length) % 20) (s : Sl) : Ring (put7 w R (J * 7) s) R f xs ∧ SealAt (put7 w R (J * 7) s) R (J * 7) s := by
  have hJ20 : J < 20 := by omega
  refine ⟨⟨put7_row h.blk, h.hf, h.len, (put7_else (by omega)).trans h.first, (put7_else (by omega)).trans h.count, fun i u hu => ?_⟩, put7_at fun q hq => (h.cell (by omega)).1⟩
  have hi := (List.getElem?_eq_some_iff.1 hu).1
  have hne := h.free hi hl
  have d := h.seals i u hu
  have hlt : (f + i) % 20 < 20 := Nat.mod_lt _ (by decide)
  generalize (f + i) % 20 = I at d hne hlt ⊢
  exact ⟨(put7_else (by omega)).trans d.c0, (put7_else (by omega)).trans d.c1, (put7_else (by omega)).trans d.c2, (put7_else (by omega)).trans d.c3, (put7_else (by omega)).trans d.c4, (put7_else (by omega)).trans d.c5, (put7_else (by omega)).trans d.c6⟩
theorem SealAt.side {w : World} {b o b' o' : Nat} {v : Value} {s : Sl} (d : SealAt w b o s) (h : b' ≠ b ∨ o' < o ∨ o + 6 < o') : SealAt (w.setCell ⟨b', o', none⟩ v) b o s :=
  ⟨(cell_else (by omega)).trans d.c0, (cell_else (by omega)).trans d.c1, (cell_else (by omega)).trans d.c2, (cell_else (by omega)).trans d.c3, (cell_else (by omega)).trans d.c4, (cell_else (by omega)).trans d.c5, (cell_else (by omega)).trans d.c6⟩
theorem Ring.more {w : World} {R f J : Nat} {xs : List Sl} {s : Sl} (h : Ring w R f xs) (hl : xs.length < 20) (hJ : J = (f + xs.length) % 20) (hs : SealAt w R (J * 7) s) : Ring (w.setCell ⟨R, 141, none⟩ (.int .i64 ((xs.length : Int) + 1))) R f (xs ++ [s]) := by
  refine ⟨row_set h.blk, h.hf, by simp; omega, (cell_else (by omega)).trans h.first, ?_, fun i u hu => ?_⟩
  · rw [cell_same ⟨_, h.count⟩]; simp
  · by_cases e : i < xs.length
    · rw [List.getElem?_append_left e] at hu
      exact (h.seals i u hu).side (by omega)
    · rw [List.getElem?_append_right (by omega)] at hu
      have e2 : i = xs.length := by
        have := (List.getElem?_eq_some_iff.1 hu).1
        simp at this; omega
      subst e2
      simp at hu
      subst hu
      rw [← hJ]
      exact hs.side (by omega)

set_option maxHeartbeats 2000000 in
set_option maxRecDepth 100000 in
theorem push_any (R f : Nat) (xs : List Sl) (s : Sl) (w : World) (h : Ring w R f xs) (hl : xs.length < 20) :
    Calls Tryd.prog 93 #[.pointer (some ⟨R, 0, none⟩), .agg #[.int .i64 s.k, .int .i64 s.t, .int .i64 s.a, .int .i64 s.b, .int .i64 s.c, .int .i64 s.d, .int .i64 s.e]] w fun r w' => r = .returned (.tuple #[]) ∧ Ring w' R f (xs ++ [s]) ∧ w.grownBy w' (some R) := by
  go_enter Tryd.func93, Tryd.ntmps93
  obtain ⟨J, hJ⟩ : ∃ J, J = (f + xs.length) % 20 := ⟨_, rfl⟩
  have hJ20 : J < 20 := by omega
  have HJ : Hid (J = (f + xs.length) % 20) := hJ
  have hf := h.hf
  clear hJ
  obtain ⟨WD, hWD⟩ : ∃ WD, WD = (w.alloc (.cells #[.int .i64 s.k, .int .i64 s.t, .int .i64 s.a, .int .i64 s.b, .int .i64 s.c, .int .i64 s.d, .int .i64 s.e] 64)).drew := ⟨_, rfl⟩
  have HS : WD.cell? ⟨R, 140, none⟩ = some (.int .i64 f) ∧ WD.cell? ⟨R, 141, none⟩ = some (.int .i64 xs.length) ∧ SealAt WD w.heap.size 0 s ∧ Ring WD R f xs ∧ w.grownBy WD (some R) := by
    subst hWD
    have hb : Below w.heap.size w (w.alloc (.cells #[.int .i64 s.k, .int .i64 s.t, .int .i64 s.a, .int .i64 s.b, .int .i64 s.c, .int .i64 s.d, .int .i64 s.e] 64)).drew := (Below.alloc_ _ _).drew
    have hr := h.later hb
    exact ⟨hr.first, hr.count, ⟨by go_simp, by go_simp, by go_simp, by go_simp, by go_simp, by go_simp, by go_simp⟩, hr, hb.os, hb.tape, hb.output, hb.size, fun k hk _ => hb.block k hk⟩
  have hlt := h.lt
  clear h
  go_wp2_with fail
  refine wp_region_held_drew (S := fun w' => w'.cell? ⟨R, 140, none⟩ = some (.int .i64 f) ∧ w'.cell? ⟨R, 141, none⟩ = some (.int .i64 xs.length) ∧ SealAt w' w.heap.size 0 s ∧ Ring w' R f xs ∧ w.grownBy w' (some R)) (by kernel_rfl) (by rw [← hWD]; exact HS) (fun hS => ?_)
  rw [← hWD] at hS ⊢
  clear hWD
  refine take1 0 4 (Value.pointer (some ⟨R, 0, none⟩)) rfl rfl (by kernel_rfl) (by kernel_rfl) (by kernel_rfl) (by rfl) (fun _ _ _ h => h) hS (fun w' hS' => ?_) ?_
  · (go_simp) <;> (intro hx9; omega)
  simp only [Act.put, List.setIfInBounds_toArray, List.set_cons_zero, List.set_cons_succ]
  refine take1 1 5 (Value.pointer (some ⟨R, 0, none⟩)) rfl rfl (by kernel_rfl) (by kernel_rfl) (by kernel_rfl) (by rfl) (fun _ _ _ h => h) hS (fun w' hS' => ?_) ?_
  · (go_simp) <;> (intro hx9; omega)
  simp only [Act.put, List.setIfInBounds_toArray, List.set_cons_zero, List.set_cons_succ]
  refine take1 2 6 (Value.pointer (some ⟨R, 0, none⟩)) rfl rfl (by kernel_rfl) (by kernel_rfl) (by kernel_rfl) (by rfl) (fun _ _ _ h => h) hS (fun w' hS' => ?_) ?_
  · (go_simp) <;> (intro hx9; omega)
  simp only [Act.put, List.setIfInBounds_toArray, List.set_cons_zero, List.set_cons_succ]
  refine take1 3 7 (Value.pointer (some ⟨R, 140, none⟩)) rfl rfl (by kernel_rfl) (by kernel_rfl) (by kernel_rfl) (by rfl) (fun _ _ _ h => h) hS (fun w' hS' => ?_) ?_
  · (go_simp) <;> (intro hx9; omega)
  simp only [Act.put, List.setIfInBounds_toArray, List.set_cons_zero, List.set_cons_succ]
  refine take1 4 8 (.int .i64 (f : Int)) rfl rfl (by kernel_rfl) (by kernel_rfl) (by kernel_rfl) (by rfl) (fun _ _ _ h => h) hS (fun w' hS' => ?_) ?_
  · obtain ⟨e0, e1, _⟩ := hS'; (go_simp) <;> (intro hx9; omega)
  simp only [Act.put, List.setIfInBounds_toArray, List.set_cons_zero, List.set_cons_succ]
  refine take1 5 9 (Value.pointer (some ⟨R, 0, none⟩)) rfl rfl (by kernel_rfl) (by kernel_rfl) (by kernel_rfl) (by rfl) (fun _ _ _ h => h) hS (fun w' hS' => ?_) ?_
  · (go_simp) <;> (intro hx9; omega)
  simp only [Act.put, List.setIfInBounds_toArray, List.set_cons_zero, List.set_cons_succ]
  refine take1 6 10 (Value.pointer (some ⟨R, 0, none⟩)) rfl rfl (by kernel_rfl) (by kernel_rfl) (by kernel_rfl) (by rfl) (fun _ _ _ h => h) hS (fun w' hS' => ?_) ?_
  · (go_simp) <;> (intro hx9; omega)
  simp only [Act.put, List.setIfInBounds_toArray, List.set_cons_zero, List.set_cons_succ]
  refine take1 7 11 (Value.pointer (some ⟨R, 141, none⟩)) rfl rfl (by kernel_rfl) (by kernel_rfl) (by kernel_rfl) (by rfl) (fun _ _ _ h => h) hS (fun w' hS' => ?_) ?_
  · (go_simp) <;> (intro hx9; omega)
  simp only [Act.put, List.setIfInBounds_toArray, List.set_cons_zero, List.set_cons_succ]
  refine take1 8 12 (.int .i64 (xs.length : Int)) rfl rfl (by kernel_rfl) (by kernel_rfl) (by kernel_rfl) (by rfl) (fun _ _ _ h => h) hS (fun w' hS' => ?_) ?_
  · obtain ⟨e0, e1, _⟩ := hS'; (go_simp) <;> (intro hx9; omega)
  simp only [Act.put, List.setIfInBounds_toArray, List.set_cons_zero, List.set_cons_succ]
  refine take1 9 13 (.int .i64 ((f : Int) + xs.length)) rfl rfl (by kernel_rfl) (by kernel_rfl) (by kernel_rfl) (by rfl) (fun _ _ _ h => h) hS (fun w' hS' => ?_) ?_
  · have hw9 : IntKind.i64.wrap ((f : Int) + (xs.length : Int)) = (f : Int) + xs.length := wrapM (by omega) (by omega)
    (go_simp) <;> (intro hx9; omega)
  simp only [Act.put, List.setIfInBounds_toArray, List.set_cons_zero, List.set_cons_succ]
  refine take1 10 14 (.int .i64 (J : Int)) rfl rfl (by kernel_rfl) (by kernel_rfl) (by kernel_rfl) (by rfl) (fun _ _ _ h => h) hS (fun w' hS' => ?_) ?_
  · have hw9 : ((f : Int) + xs.length).tmod 20 = (J : Int) := by rw [HJ.out, Int.tmod_eq_emod_of_nonneg (by omega)]; omega
    (go_simp) <;> (intro hx9; omega)
  simp only [Act.put, List.setIfInBounds_toArray, List.set_cons_zero, List.set_cons_succ]
  refine take1 11 15 (Value.agg #[.int .i64 s.k, .int .i64 s.t, .int .i64 s.a, .int .i64 s.b, .int .i64 s.c, .int .i64 s.d, .int .i64 s.e]) rfl rfl (by kernel_rfl) (by kernel_rfl) (by kernel_rfl) (by rfl) (fun _ _ _ h => h) hS (fun w' hS' => ?_) ?_
  · obtain ⟨_, _, ⟨c0, c1, c2, c3, c4, c5, c6⟩, _⟩ := hS'
    simp only [Nat.zero_add] at c1 c2 c3 c4 c5 c6
    (go_simp) <;> (intro hx9; omega)
  simp only [Act.put, List.setIfInBounds_toArray, List.set_cons_zero, List.set_cons_succ]
  refine take1 12 16 (Value.pointer (some ⟨R, 0, none⟩)) rfl rfl (by kernel_rfl) (by kernel_rfl) (by kernel_rfl) (by rfl) (fun _ _ _ h => h) hS (fun w' hS' => ?_) ?_
  · (go_simp) <;> (intro hx9; omega)
  simp only [Act.put, List.setIfInBounds_toArray, List.set_cons_zero, List.set_cons_succ]
  refine take1 13 17 (Value.pointer (some ⟨R, 0, none⟩)) rfl rfl (by kernel_rfl) (by kernel_rfl) (by kernel_rfl) (by rfl) (fun _ _ _ h => h) hS (fun w' hS' => ?_) ?_
  · (go_simp) <;> (intro hx9; omega)
  simp only [Act.put, List.setIfInBounds_toArray, List.set_cons_zero, List.set_cons_succ]
  refine take1 14 18 (Value.pointer (some ⟨R, J * 7, none⟩)) rfl rfl (by kernel_rfl) (by kernel_rfl) (by kernel_rfl) (by rfl) (fun _ _ _ h => h) hS (fun w' hS' => ?_) ?_
  · (go_simp) <;> (intro hx9; omega)
  simp only [Act.put, List.setIfInBounds_toArray, List.set_cons_zero, List.set_cons_succ]

  refine wpAnyH_ready (rs := [15]) (by kernel_rfl) (by simp) ?_
  refine AllReadyH.cons rfl (fun K hK => ?_) AllReadyH.nil
  obtain ⟨⟨v0, d0⟩, f0⟩ := hS.2.2.2.1.cell (o := J * 7) (by omega)
  obtain ⟨⟨v1, d1⟩, f1⟩ := hS.2.2.2.1.cell (o := J * 7 + 1) (by omega)
  obtain ⟨⟨v2, d2⟩, f2⟩ := hS.2.2.2.1.cell (o := J * 7 + 2) (by omega)
  obtain ⟨⟨v3, d3⟩, f3⟩ := hS.2.2.2.1.cell (o := J * 7 + 3) (by omega)
  obtain ⟨⟨v4, d4⟩, f4⟩ := hS.2.2.2.1.cell (o := J * 7 + 4) (by omega)
  obtain ⟨⟨v5, d5⟩, f5⟩ := hS.2.2.2.1.cell (o := J * 7 + 5) (by omega)
  obtain ⟨⟨v6, d6⟩, f6⟩ := hS.2.2.2.1.cell (o := J * 7 + 6) (by omega)
  have HG : Hid (SealAt WD w.heap.size 0 s ∧ Ring WD R f xs ∧ w.grownBy WD (some R)) := hS.2.2
  clear hS HS
  go_simp
  have HP : Ring (put7 WD R (J * 7) s) R f xs ∧ SealAt (put7 WD R (J * 7) s) R (J * 7) s := HG.out.2.1.put hl HJ.out s
  have d := HG.out.1
  have HE : SealAt (put7 WD R (J * 7) s) w.heap.size 0 s := ⟨(put7_else (by omega)).trans d.c0, (put7_else (by omega)).trans d.c1, (put7_else (by omega)).trans d.c2, (put7_else (by omega)).trans d.c3, (put7_else (by omega)).trans d.c4, (put7_else (by omega)).trans d.c5, (put7_else (by omega)).trans d.c6⟩
  have HB : w.grownBy (put7 WD R (J * 7) s) (some R) := put7_grown HG.out.2.2
  clear d HG d0 d1 d2 d3 d4 d5 d6 f0 f1 f2 f3 f4 f5 f6
  change K _ (put7 WD R (J * 7) s)
  generalize put7 WD R (J * 7) s = WP at HP HE HB ⊢
  have S2 : WP.cell? ⟨R, 140, none⟩ = some (.int .i64 f) ∧ WP.cell? ⟨R, 141, none⟩ = some (.int .i64 xs.length) ∧ SealAt WP w.heap.size 0 s ∧ Ring WP R f xs ∧ w.grownBy WP (some R) := ⟨HP.1.first, HP.1.count, HE, HP.1, HB⟩
  refine hK.out _ _ S2 (fun hS => ?_)
  refine wpAnyH_done (by kernel_rfl) ?_ _
  clear hK K hS S2 HE
  have q0 := HP.1.count
  have qf := (HP.1.cell (o := 141) (by omega)).2
  have HQ : Hid (Ring WP R f xs ∧ SealAt WP R (J * 7) s ∧ w.grownBy WP (some R)) := ⟨HP.1, HP.2, HB⟩
  clear HP HB
  go_wp2_with fail
  exact bodyPost_end (v := .tuple #[]) (by simp [results, Tryd.results93, go_sem]) rfl ⟨rfl, HQ.out.1.more hl HJ.out HQ.out.2.1, set_grown HQ.out.2.2⟩

theorem Ring.less {w : World} {R f J : Nat} {xs : List Sl} {s : Sl} (h : Ring w R f (s :: xs)) (hJ : J = (f + 1) % 20) : Ring ((w.setCell ⟨R, 140, none⟩ (.int .i64 J)).setCell ⟨R, 141, none⟩ (.int .i64 xs.length)) R J xs := by
  have hl := h.len
  simp only [List.length_cons] at hl
  refine ⟨row_set (row_set h.blk), by omega, by omega, ?_, ?_, fun i u hu => ?_⟩
  · rw [cell_else (by omega), cell_same ⟨_, h.first⟩]
  · rw [cell_same ⟨_, (cell_else (by omega)).trans h.count⟩]
  · have d := h.seals (i + 1) u (by simpa using hu)
    rw [show (f + (i + 1)) % 20 = (J + i) % 20 by omega] at d
    have : (J + i) % 20 < 20 := Nat.mod_lt _ (by decide)
    exact (d.side (by omega)).side (by omega)

set_option maxHeartbeats 2000000 in
set_option maxRecDepth 100000 in
theorem pop_any (R f : Nat) (xs : List Sl) (s : Sl) (w : World) (h : Ring w R f (s :: xs)) :
    Calls Tryd.prog 94 #[.pointer (some ⟨R, 0, none⟩)] w fun r w' => r = .returned (.agg #[.int .i64 s.k, .int .i64 s.t, .int .i64 s.a, .int .i64 s.b, .int .i64 s.c, .int .i64 s.d, .int .i64 s.e]) ∧ Ring w' R ((f + 1) % 20) xs ∧ w.grownBy w' (some R) := by
  go_enter Tryd.func94, Tryd.ntmps94
  have hf := h.hf
  obtain ⟨J, hJ⟩ : ∃ J, J = (f + 1) % 20 := ⟨_, rfl⟩
  rw [← hJ]
  have hJ20 : J < 20 := by omega
  have HJ : Hid (J = (f + 1) % 20) := hJ
  clear hJ
  have hlt := h.lt
  obtain ⟨WD, hWD⟩ : ∃ WD, WD = (w.alloc (.cells #[.int .i64 0, .int .i64 0, .int .i64 0, .int .i64 0, .int .i64 0, .int .i64 0, .int .i64 0] 64)).drew := ⟨_, rfl⟩
  have HS : WD.cell? ⟨R, 140, none⟩ = some (.int .i64 f) ∧ WD.cell? ⟨R, 141, none⟩ = some (.int .i64 (s :: xs).length) ∧ SealAt WD R (f * 7) s ∧ Ring WD R f (s :: xs) ∧ w.grownBy WD (some R) ∧ WD.heap[w.heap.size]? = some (.cells #[.int .i64 0, .int .i64 0, .int .i64 0, .int .i64 0, .int .i64 0, .int .i64 0, .int .i64 0] 64 (0, 0)) := by
    subst hWD
    have hb : Below w.heap.size w (w.alloc (.cells #[.int .i64 0, .int .i64 0, .int .i64 0, .int .i64 0, .int .i64 0, .int .i64 0, .int .i64 0] 64)).drew := (Below.alloc_ _ _).drew
    have hr := h.later hb
    have hd := hr.seals 0 s rfl
    rw [Nat.add_zero, Nat.mod_eq_of_lt hf] at hd
    exact ⟨hr.first, hr.count, hd, hr, ⟨hb.os, hb.tape, hb.output, hb.size, fun k hk _ => hb.block k hk⟩, heap_alloc_new _ _⟩
  have hsz : w.heap.size < WD.heap.size := by rw [hWD]; simp
  clear h
  go_wp2_with fail
  refine wp_region_held_drew (S := fun w' => w'.cell? ⟨R, 140, none⟩ = some (.int .i64 f) ∧ w'.cell? ⟨R, 141, none⟩ = some (.int .i64 (s :: xs).length) ∧ SealAt w' R (f * 7) s ∧ Ring w' R f (s :: xs) ∧ w.grownBy w' (some R) ∧ w'.heap[w.heap.size]? = some (.cells #[.int .i64 0, .int .i64 0, .int .i64 0, .int .i64 0, .int .i64 0, .int .i64 0, .int .i64 0] 64 (0, 0))) (by kernel_rfl) (by rw [← hWD]; exact HS) (fun hS => ?_)
  rw [← hWD] at hS ⊢
  clear hWD
  refine take1 0 4 (Value.pointer (some ⟨R, 0, none⟩)) rfl rfl (by kernel_rfl) (by kernel_rfl) (by kernel_rfl) (by rfl) (fun _ _ _ h => h) hS (fun w' hS' => ?_) ?_
  · (go_simp) <;> (intro hx9; omega)
  simp only [Act.put, List.setIfInBounds_toArray, List.set_cons_zero, List.set_cons_succ]
  refine take1 1 5 (Value.pointer (some ⟨R, 0, none⟩)) rfl rfl (by kernel_rfl) (by kernel_rfl) (by kernel_rfl) (by rfl) (fun _ _ _ h => h) hS (fun w' hS' => ?_) ?_
  · (go_simp) <;> (intro hx9; omega)
  simp only [Act.put, List.setIfInBounds_toArray, List.set_cons_zero, List.set_cons_succ]
  refine take1 2 6 (Value.pointer (some ⟨R, 0, none⟩)) rfl rfl (by kernel_rfl) (by kernel_rfl) (by kernel_rfl) (by rfl) (fun _ _ _ h => h) hS (fun w' hS' => ?_) ?_
  · (go_simp) <;> (intro hx9; omega)
  simp only [Act.put, List.setIfInBounds_toArray, List.set_cons_zero, List.set_cons_succ]
  refine take1 3 7 (Value.pointer (some ⟨R, 140, none⟩)) rfl rfl (by kernel_rfl) (by kernel_rfl) (by kernel_rfl) (by rfl) (fun _ _ _ h => h) hS (fun w' hS' => ?_) ?_
  · (go_simp) <;> (intro hx9; omega)
  simp only [Act.put, List.setIfInBounds_toArray, List.set_cons_zero, List.set_cons_succ]
  refine take1 4 8 (.int .i64 (f : Int)) rfl rfl (by kernel_rfl) (by kernel_rfl) (by kernel_rfl) (by rfl) (fun _ _ _ h => h) hS (fun w' hS' => ?_) ?_
  · obtain ⟨e0, e1, _⟩ := hS'; (go_simp) <;> (intro hx9; omega)
  simp only [Act.put, List.setIfInBounds_toArray, List.set_cons_zero, List.set_cons_succ]
  refine take1 5 9 (Value.pointer (some ⟨R, 0, none⟩)) rfl rfl (by kernel_rfl) (by kernel_rfl) (by kernel_rfl) (by rfl) (fun _ _ _ h => h) hS (fun w' hS' => ?_) ?_
  · (go_simp) <;> (intro hx9; omega)
  simp only [Act.put, List.setIfInBounds_toArray, List.set_cons_zero, List.set_cons_succ]
  refine take1 6 10 (Value.pointer (some ⟨R, 0, none⟩)) rfl rfl (by kernel_rfl) (by kernel_rfl) (by kernel_rfl) (by rfl) (fun _ _ _ h => h) hS (fun w' hS' => ?_) ?_
  · (go_simp) <;> (intro hx9; omega)
  simp only [Act.put, List.setIfInBounds_toArray, List.set_cons_zero, List.set_cons_succ]
  refine take1 7 11 (Value.pointer (some ⟨R, f * 7, none⟩)) rfl rfl (by kernel_rfl) (by kernel_rfl) (by kernel_rfl) (by rfl) (fun _ _ _ h => h) hS (fun w' hS' => ?_) ?_
  · (go_simp) <;> (intro hx9; omega)
  simp only [Act.put, List.setIfInBounds_toArray, List.set_cons_zero, List.set_cons_succ]
  refine take1 8 12 (Value.agg #[.int .i64 s.k, .int .i64 s.t, .int .i64 s.a, .int .i64 s.b, .int .i64 s.c, .int .i64 s.d, .int .i64 s.e]) rfl rfl (by kernel_rfl) (by kernel_rfl) (by kernel_rfl) (by rfl) (fun _ _ _ h => h) hS (fun w' hS' => ?_) ?_
  · obtain ⟨_, _, ⟨c0, c1, c2, c3, c4, c5, c6⟩, _⟩ := hS'
    (go_simp) <;> (intro hx9; omega)
  simp only [Act.put, List.setIfInBounds_toArray, List.set_cons_zero, List.set_cons_succ]
  refine wpAnyH_ready (rs := [9]) (by kernel_rfl) (by simp) ?_
  refine AllReadyH.cons rfl (fun K hK => ?_) AllReadyH.nil
  have HG : Hid (Ring WD R f (s :: xs) ∧ w.grownBy WD (some R) ∧ WD.heap[w.heap.size]? = some (.cells #[.int .i64 0, .int .i64 0, .int .i64 0, .int .i64 0, .int .i64 0, .int .i64 0, .int .i64 0] 64 (0, 0))) := hS.2.2.2
  clear hS HS
  go_simp
  have hRW : R ≠ WD.heap.size := by have := HG.out.1.lt; omega
  have HA : Ring (WD.alloc (.cells #[.int .i64 0, .int .i64 0, .int .i64 0, .int .i64 0, .int .i64 0, .int .i64 0, .int .i64 0] 64)) R f (s :: xs) ∧ w.grownBy (WD.alloc (.cells #[.int .i64 0, .int .i64 0, .int .i64 0, .int .i64 0, .int .i64 0, .int .i64 0, .int .i64 0] 64)) (some R) ∧ (WD.alloc (.cells #[.int .i64 0, .int .i64 0, .int .i64 0, .int .i64 0, .int .i64 0, .int .i64 0, .int .i64 0] 64)).heap[w.heap.size]? = some (.cells #[.int .i64 0, .int .i64 0, .int .i64 0, .int .i64 0, .int .i64 0, .int .i64 0, .int .i64 0] 64 (0, 0)) ∧ (WD.alloc (.cells #[.int .i64 0, .int .i64 0, .int .i64 0, .int .i64 0, .int .i64 0, .int .i64 0, .int .i64 0] 64)).heap[WD.heap.size]? = some (.cells #[.int .i64 0, .int .i64 0, .int .i64 0, .int .i64 0, .int .i64 0, .int .i64 0, .int .i64 0] 64 (0, 0)) :=
    ⟨HG.out.1.later (Below.alloc_ _ _), HG.out.2.1.trans (World.grownBy_alloc _ _ _), (Below.heap_alloc _ _ _ hsz).trans HG.out.2.2, heap_alloc_new _ _⟩
  generalize WD.alloc (.cells #[.int .i64 0, .int .i64 0, .int .i64 0, .int .i64 0, .int .i64 0, .int .i64 0, .int .i64 0] 64) = WA at HA ⊢
  have S2 : WA.cell? ⟨R, 140, none⟩ = some (.int .i64 f) ∧ WA.cell? ⟨R, 141, none⟩ = some (.int .i64 (s :: xs).length) ∧ SealAt WA R (f * 7) s ∧ Ring WA R f (s :: xs) ∧ w.grownBy WA (some R) ∧ WA.heap[w.heap.size]? = some (.cells #[.int .i64 0, .int .i64 0, .int .i64 0, .int .i64 0, .int .i64 0, .int .i64 0, .int .i64 0] 64 (0, 0)) := by
    have hd := HA.1.seals 0 s rfl
    rw [Nat.add_zero, Nat.mod_eq_of_lt hf] at hd
    exact ⟨HA.1.first, HA.1.count, hd, HA.1, HA.2.1, HA.2.2.1⟩
  refine hK.out _ _ S2 (fun hS => ?_)
  clear hK K hS S2 HG
  refine wpAnyH_ready (rs := [10]) (by kernel_rfl) (by simp) ?_
  refine AllReadyH.cons rfl (fun K hK => ?_) AllReadyH.nil
  obtain ⟨B, hB⟩ : ∃ B, B = WD.heap.size := ⟨_, rfl⟩
  rw [← hB] at HA hRW hsz ⊢
  clear hB
  obtain ⟨d0, d1, d2, d3, d4, d5, d6, df⟩ := cells7r HA.2.2.2
  have fz : ∀ o, WA.frozen? ⟨B, o, none⟩ = false := fun o => by simp [World.frozen?, HA.2.2.2]
  have f0 := fz 0
  have f1 := fz 1
  have f2 := fz 2
  have f3 := fz 3
  have f4 := fz 4
  have f5 := fz 5
  have f6 := fz 6
  have HG : Hid (Ring WA R f (s :: xs) ∧ w.grownBy WA (some R) ∧ WA.heap[w.heap.size]? = some (.cells #[.int .i64 0, .int .i64 0, .int .i64 0, .int .i64 0, .int .i64 0, .int .i64 0, .int .i64 0] 64 (0, 0)) ∧ WA.heap[B]? = some (.cells #[.int .i64 0, .int .i64 0, .int .i64 0, .int .i64 0, .int .i64 0, .int .i64 0, .int .i64 0] 64 (0, 0))) := HA
  clear HA fz
  go_simp
  have HP : Ring (put7 WA B 0 s) R f (s :: xs) ∧ w.grownBy (put7 WA B 0 s) (some R) ∧ (put7 WA B 0 s).heap[w.heap.size]? = some (.cells #[.int .i64 0, .int .i64 0, .int .i64 0, .int .i64 0, .int .i64 0, .int .i64 0, .int .i64 0] 64 (0, 0)) ∧ SealAt (put7 WA B 0 s) B 0 s :=
    ⟨HG.out.1.same (put7_heap (Ne.symm hRW)), put7_aside HG.out.2.1 (by omega), (put7_heap (by omega)).trans HG.out.2.2.1, put7_at fun q hq => by
      obtain rfl | rfl | rfl | rfl | rfl | rfl | rfl : q = 0 ∨ q = 1 ∨ q = 2 ∨ q = 3 ∨ q = 4 ∨ q = 5 ∨ q = 6 := by omega
      all_goals first | exact ⟨_, d0⟩ | exact ⟨_, d1⟩ | exact ⟨_, d2⟩ | exact ⟨_, d3⟩ | exact ⟨_, d4⟩ | exact ⟨_, d5⟩ | exact ⟨_, d6⟩⟩
  change K _ (put7 WA B 0 s)
  clear d0 d1 d2 d3 d4 d5 d6 df f0 f1 f2 f3 f4 f5 f6 HG
  generalize put7 WA B 0 s = WP at HP ⊢
  have S2 : WP.cell? ⟨R, 140, none⟩ = some (.int .i64 f) ∧ WP.cell? ⟨R, 141, none⟩ = some (.int .i64 (s :: xs).length) ∧ SealAt WP R (f * 7) s ∧ Ring WP R f (s :: xs) ∧ w.grownBy WP (some R) ∧ WP.heap[w.heap.size]? = some (.cells #[.int .i64 0, .int .i64 0, .int .i64 0, .int .i64 0, .int .i64 0, .int .i64 0, .int .i64 0] 64 (0, 0)) := by
    have hd := HP.1.seals 0 s rfl
    rw [Nat.add_zero, Nat.mod_eq_of_lt hf] at hd
    exact ⟨HP.1.first, HP.1.count, hd, HP.1, HP.2.1, HP.2.2.1⟩
  refine hK.out _ _ S2 (fun hS => ?_)
  clear hK K hS S2
  refine wpAnyH_done (by kernel_rfl) ?_ _
  have q0 := HP.1.first
  have q1 := HP.1.count
  have g0 := (HP.1.cell (o := 140) (by omega)).2
  have g1 := (HP.1.cell (o := 141) (by omega)).2
  obtain ⟨c0, c1, c2, c3, c4, c5, c6⟩ := id HP.2.2.2
  obtain ⟨z0, z1, z2, z3, z4, z5, z6, zf⟩ := cells7r HP.2.2.1
  have hx := HP.1.len
  simp only [List.length_cons] at hx q1
  simp only [Nat.zero_add] at c1 c2 c3 c4 c5 c6
  have HQ : Hid (Ring WP R f (s :: xs) ∧ w.grownBy WP (some R)) := ⟨HP.1, HP.2.1⟩
  have hw1 : IntKind.i64.wrap ((f : Int) + 1) = (f : Int) + 1 := wrapM (by omega) (by omega)
  have hw2 : ((f : Int) + 1).tmod 20 = (J : Int) := by rw [HJ.out, Int.tmod_eq_emod_of_nonneg (by omega)]; omega
  have hw3 : IntKind.i64.wrap (((xs.length + 1 : Nat) : Int) - 1) = (xs.length : Int) := by rw [wrapM (by omega) (by omega)]; simp
  clear HP
  go_wp2_with fail
  have HW : Ring ((WP.setCell ⟨R, 140, none⟩ (.int .i64 J)).setCell ⟨R, 141, none⟩ (.int .i64 xs.length)) R J xs := HQ.out.1.less HJ.out
  have HV : w.grownBy ((WP.setCell ⟨R, 140, none⟩ (.int .i64 J)).setCell ⟨R, 141, none⟩ (.int .i64 xs.length)) (some R) := set_grown (set_grown HQ.out.2)
  have HC : ∀ q, q < 7 → ∃ u, ((WP.setCell ⟨R, 140, none⟩ (.int .i64 J)).setCell ⟨R, 141, none⟩ (.int .i64 xs.length)).cell? ⟨w.heap.size, 0 + q, none⟩ = some u := by
    intro q hq
    rw [cell_else (by omega), cell_else (by omega)]
    obtain rfl | rfl | rfl | rfl | rfl | rfl | rfl : q = 0 ∨ q = 1 ∨ q = 2 ∨ q = 3 ∨ q = 4 ∨ q = 5 ∨ q = 6 := by omega
    all_goals first | exact ⟨_, z0⟩ | exact ⟨_, z1⟩ | exact ⟨_, z2⟩ | exact ⟨_, z3⟩ | exact ⟨_, z4⟩ | exact ⟨_, z5⟩ | exact ⟨_, z6⟩
  change bodyPost _ _ _ _ _ (put7 ((WP.setCell ⟨R, 140, none⟩ (.int .i64 J)).setCell ⟨R, 141, none⟩ (.int .i64 xs.length)) w.heap.size 0 s)
  clear c0 c1 c2 c3 c4 c5 c6 z0 z1 z2 z3 z4 z5 z6 zf q0 q1 g0 g1 HQ
  generalize (WP.setCell ⟨R, 140, none⟩ (.int .i64 J)).setCell ⟨R, 141, none⟩ (.int .i64 xs.length) = WQ at HW HV HC ⊢
  have hp := put7_at (s := s) HC
  have hr : Ring (put7 WQ w.heap.size 0 s) R J xs := HW.same (put7_heap (by omega))
  have hg : w.grownBy (put7 WQ w.heap.size 0 s) (some R) := put7_aside HV (Nat.le_refl _)
  generalize put7 WQ w.heap.size 0 s = WZ at hp hr hg ⊢
  obtain ⟨c0, c1, c2, c3, c4, c5, c6⟩ := hp
  simp only [Nat.zero_add] at c1 c2 c3 c4 c5 c6
  exact bodyPost_ret (v := .agg #[.int .i64 s.k, .int .i64 s.t, .int .i64 s.a, .int .i64 s.b, .int .i64 s.c, .int .i64 s.d, .int .i64 s.e]) (by simp [results, Tryd.results94, go_sem, c0, c1, c2, c3, c4, c5, c6]) rfl ⟨rfl, hr, hg⟩

end Go.Proofs.YtghajmfjekfdpaaDoor
