/-
  A seal that is drawn: seven numbers, whatever they are; the reader stays one, and all that was there but the reader itself is as it was.
-/
import Derived.Test.YtopikapamfmalaaGreatDoorDrawRd
namespace Go.Proofs.YtopikapamfmalaaGreatDoor
open Go.RowKit

/-- On the way of a drawing: the reader, one block of one's own that stays, and what was there. -/
structure Sd (W0 : World) (br : Nat) (sv : Value) (L : Nat) (B : Nat) (o : Obj) (w : World) (p : Int) : Prop where
  rd : Rd w br sv L p
  res : w.heap[B]? = some o
  grew : Grew br W0 w
  apart : B ≠ br

theorem Sd.only {W0 : World} {br : Nat} {sv : Value} {L : Nat} {B : Nat} {o : Obj} {w w' : World} {p q : Int} (S : Sd W0 br sv L B o w p) (R : Rd w' br sv L q) (h : Only br w w') : Sd W0 br sv L B o w' q :=
  ⟨R, (h.block B S.apart).trans S.res, S.grew.trans h.grew, S.apart⟩
theorem Sd.at {W0 : World} {br : Nat} {sv : Value} {L : Nat} {B : Nat} {o : Obj} {w : World} {p q : Int} (S : Sd W0 br sv L B o w p) (h : p = q) : Sd W0 br sv L B o w q := h ▸ S
theorem pick_sd (n : Int) (hn : 1 ≤ n) {W0 : World} {br : Nat} {sv : Value} {L : Nat} {B : Nat} {o : Obj} {w : World} {p : Int} (S : Sd W0 br sv L B o w p) (hp : 0 ≤ p) (hp2 : p ≤ 1000000) :
    Calls Tryz.prog 26 #[.pointer (some ⟨br, 0, none⟩), .int .i64 n] w fun e w' => (∃ v : Int, 0 ≤ v ∧ v < n ∧ e = .returned (.int .i64 v)) ∧ Sd W0 br sv L B o w' (p + 1) :=
  (pick_any n hn br sv L p w S.rd hp hp2).mono fun _ _ ⟨hv, R, h⟩ => ⟨hv, S.only R h⟩
theorem key_sd {W0 : World} {br : Nat} {sv : Value} {L : Nat} {B : Nat} {o : Obj} {w : World} {p : Int} (S : Sd W0 br sv L B o w p) (hp : 0 ≤ p) (hp2 : p ≤ 1000000) :
    Calls Tryz.prog 74 #[.pointer (some ⟨br, 0, none⟩)] w fun e w' => (∃ v : Int, e = .returned (.int .i64 v)) ∧ Sd W0 br sv L B o w' (p + 1) :=
  (l71Key_any br sv L p w S.rd hp hp2).mono fun _ _ ⟨hv, R, h⟩ => ⟨hv, S.only R h⟩

/-- Seven cells in a block of their own. -/
theorem cells7 {w : World} {B t : Nat} {a0 a1 a2 a3 a4 a5 a6 : Value} (h : w.heap[B]? = some (.cells #[a0, a1, a2, a3, a4, a5, a6] t (0, 0))) :
    w.cell? ⟨B, 0, none⟩ = some a0 ∧ w.cell? ⟨B, 1, none⟩ = some a1 ∧ w.cell? ⟨B, 2, none⟩ = some a2 ∧ w.cell? ⟨B, 3, none⟩ = some a3 ∧ w.cell? ⟨B, 4, none⟩ = some a4 ∧ w.cell? ⟨B, 5, none⟩ = some a5 ∧ w.cell? ⟨B, 6, none⟩ = some a6 ∧ (∀ i, w.frozen? ⟨B, i, none⟩ = false) := by
  refine ⟨?_, ?_, ?_, ?_, ?_, ?_, ?_, fun i => ?_⟩
  all_goals simp [World.cell?, World.frozen?, h]

/-- Seven stores into a block of one's own. -/
theorem Sd.end7 {W0 : World} {br : Nat} {sv : Value} {L : Nat} {B : Nat} {o : Obj} {w : World} {p : Int} (S : Sd W0 br sv L B o w p) (hB : W0.heap.size ≤ B) (hbr : br < W0.heap.size) (v0 v1 v2 v3 v4 v5 v6 : Value) :
    Rd (((((((w.setCell ⟨B, 0, none⟩ v0).setCell ⟨B, 1, none⟩ v1).setCell ⟨B, 2, none⟩ v2).setCell ⟨B, 3, none⟩ v3).setCell ⟨B, 4, none⟩ v4).setCell ⟨B, 5, none⟩ v5).setCell ⟨B, 6, none⟩ v6) br sv L p ∧
    Grew br W0 (((((((w.setCell ⟨B, 0, none⟩ v0).setCell ⟨B, 1, none⟩ v1).setCell ⟨B, 2, none⟩ v2).setCell ⟨B, 3, none⟩ v3).setCell ⟨B, 4, none⟩ v4).setCell ⟨B, 5, none⟩ v5).setCell ⟨B, 6, none⟩ v6) := by
  have hb : br < B := by omega
  exact ⟨((((((S.rd.store hb v0).store hb v1).store hb v2).store hb v3).store hb v4).store hb v5).store hb v6, ((((((S.grew.store hB v0).store hB v1).store hB v2).store hB v3).store hB v4).store hB v5).store hB v6⟩

set_option maxHeartbeats 1000000 in
set_option maxRecDepth 100000 in
/-- A seal is drawn that is to be ok. -/
theorem l71Fine_any (br : Nat) (sv : Value) (L : Nat) (p : Int) (w : World) (R : Rd w br sv L p) (hp : 0 ≤ p) (hp2 : p ≤ 999900) :
    Calls Tryz.prog 55 #[.pointer (some ⟨br, 0, none⟩)] w fun r w' => (∃ k t a b c d e : Int, r = .returned (.agg #[.int .i64 k, .int .i64 t, .int .i64 a, .int .i64 b, .int .i64 c, .int .i64 d, .int .i64 e])) ∧ ∃ q, 0 ≤ q ∧ q ≤ p + 10 ∧ Rd w' br sv L q ∧ Grew br w w' := by
  have hbr := R.lt
  have H0 : Hid (Sd w br sv L w.heap.size (.cells #[.int .i64 0, .int .i64 0, .int .i64 0, .int .i64 0, .int .i64 0, .int .i64 0, .int .i64 0] 39 (0, 0)) (w.alloc (.cells #[.int .i64 0, .int .i64 0, .int .i64 0, .int .i64 0, .int .i64 0, .int .i64 0, .int .i64 0] 39)) (p + 0)) := ⟨by simpa using R.alloc _, heap_alloc_new w _, (Grew.refl br w).alloc _, by omega⟩
  clear R
  go_enter Tryz.func55, Tryz.ntmps55
  go_wp2_with fail
  refine (pick_sd _ (by omega) H0.out (by omega) (by omega)).mono ?_
  rintro e0 w1 ⟨⟨x0, l0, u0, rfl⟩, S1⟩
  have H1 : Hid (Sd w br sv L w.heap.size (.cells #[.int .i64 0, .int .i64 0, .int .i64 0, .int .i64 0, .int .i64 0, .int .i64 0, .int .i64 0] 39 (0, 0)) w1 (p + 1)) := S1.at (by omega)
  clear S1
  go_wp2_with fail
  refine (pick_sd _ (by omega) H1.out (by omega) (by omega)).mono ?_
  rintro e1 w2 ⟨⟨x1, l1, u1, rfl⟩, S2⟩
  have H2 : Hid (Sd w br sv L w.heap.size (.cells #[.int .i64 0, .int .i64 0, .int .i64 0, .int .i64 0, .int .i64 0, .int .i64 0, .int .i64 0] 39 (0, 0)) w2 (p + 2)) := S2.at (by omega)
  clear S2
  by_cases y0 : x1 = 0
  · subst y0
    go_wp2_with fail
    refine (pick_sd _ (by omega) H2.out (by omega) (by omega)).mono ?_
    rintro e2 w3 ⟨⟨x2, l2, u2, rfl⟩, S3⟩
    have H3 : Hid (Sd w br sv L w.heap.size (.cells #[.int .i64 0, .int .i64 0, .int .i64 0, .int .i64 0, .int .i64 0, .int .i64 0, .int .i64 0] 39 (0, 0)) w3 (p + 3)) := S3.at (by omega)
    clear S3
    go_wp2_with fail
    refine (pick_sd _ (by omega) H3.out (by omega) (by omega)).mono ?_
    rintro e3 w4 ⟨⟨x3, l3, u3, rfl⟩, S4⟩
    have H4 : Hid (Sd w br sv L w.heap.size (.cells #[.int .i64 0, .int .i64 0, .int .i64 0, .int .i64 0, .int .i64 0, .int .i64 0, .int .i64 0] 39 (0, 0)) w4 (p + 4)) := S4.at (by omega)
    clear S4
    go_wp2_with fail
    refine (key_sd H4.out (by omega) (by omega)).mono ?_
    rintro e4 w5 ⟨⟨x4, rfl⟩, S5⟩
    have H5 : Hid (Sd w br sv L w.heap.size (.cells #[.int .i64 0, .int .i64 0, .int .i64 0, .int .i64 0, .int .i64 0, .int .i64 0, .int .i64 0] 39 (0, 0)) w5 (p + 5)) := S5.at (by omega)
    clear S5
    go_wp2_with fail
    refine (pick_sd _ (by omega) H5.out (by omega) (by omega)).mono ?_
    rintro e5 w6 ⟨⟨x5, l5, u5, rfl⟩, S6⟩
    have H6 : Hid (Sd w br sv L w.heap.size (.cells #[.int .i64 0, .int .i64 0, .int .i64 0, .int .i64 0, .int .i64 0, .int .i64 0, .int .i64 0] 39 (0, 0)) w6 (p + 6)) := S6.at (by omega)
    clear S6
    obtain ⟨z0, z1, z2, z3, z4, z5, z6, zf⟩ := cells7 H6.out.res
    go_wp2
    refine bodyPost_ret (v := .agg #[_, _, _, _, _, _, _]) (by simp [results, Tryz.results55, go_sem, z0, z1, z2, z3, z4, z5, z6]; exact ⟨rfl, rfl, rfl, rfl, rfl, rfl, rfl⟩) rfl ⟨⟨_, _, _, _, _, _, _, rfl⟩, ?_⟩
    exact ⟨p + 6, by omega, by omega, H6.out.end7 (Nat.le_refl _) hbr _ _ _ _ _ _ _⟩
  have n0 : (x1 == 0) = false := by simpa using y0
  by_cases y1 : x1 = 1
  · subst y1
    go_wp2_with fail
    refine (pick_sd _ (by omega) H2.out (by omega) (by omega)).mono ?_
    rintro e2 w3 ⟨⟨x2, l2, u2, rfl⟩, S3⟩
    have H3 : Hid (Sd w br sv L w.heap.size (.cells #[.int .i64 0, .int .i64 0, .int .i64 0, .int .i64 0, .int .i64 0, .int .i64 0, .int .i64 0] 39 (0, 0)) w3 (p + 3)) := S3.at (by omega)
    clear S3
    go_wp2_with fail
    refine (pick_sd _ (by omega) H3.out (by omega) (by omega)).mono ?_
    rintro e3 w4 ⟨⟨x3, l3, u3, rfl⟩, S4⟩
    have H4 : Hid (Sd w br sv L w.heap.size (.cells #[.int .i64 0, .int .i64 0, .int .i64 0, .int .i64 0, .int .i64 0, .int .i64 0, .int .i64 0] 39 (0, 0)) w4 (p + 4)) := S4.at (by omega)
    clear S4
    by_cases y2 : x3 = 0
    · subst y2
      go_wp2_with fail
      refine (key_sd H4.out (by omega) (by omega)).mono ?_
      rintro e4 w5 ⟨⟨x4, rfl⟩, S5⟩
      have H5 : Hid (Sd w br sv L w.heap.size (.cells #[.int .i64 0, .int .i64 0, .int .i64 0, .int .i64 0, .int .i64 0, .int .i64 0, .int .i64 0] 39 (0, 0)) w5 (p + 5)) := S5.at (by omega)
      clear S5
      go_wp2_with fail
      refine (pick_sd _ (by omega) H5.out (by omega) (by omega)).mono ?_
      rintro e5 w6 ⟨⟨x5, l5, u5, rfl⟩, S6⟩
      have H6 : Hid (Sd w br sv L w.heap.size (.cells #[.int .i64 0, .int .i64 0, .int .i64 0, .int .i64 0, .int .i64 0, .int .i64 0, .int .i64 0] 39 (0, 0)) w6 (p + 6)) := S6.at (by omega)
      clear S6
      go_wp2_with fail
      refine (key_sd H6.out (by omega) (by omega)).mono ?_
      rintro e6 w7 ⟨⟨x6, rfl⟩, S7⟩
      have H7 : Hid (Sd w br sv L w.heap.size (.cells #[.int .i64 0, .int .i64 0, .int .i64 0, .int .i64 0, .int .i64 0, .int .i64 0, .int .i64 0] 39 (0, 0)) w7 (p + 7)) := S7.at (by omega)
      clear S7
      go_wp2_with fail
      refine (pick_sd _ (by omega) H7.out (by omega) (by omega)).mono ?_
      rintro e7 w8 ⟨⟨x7, l7, u7, rfl⟩, S8⟩
      have H8 : Hid (Sd w br sv L w.heap.size (.cells #[.int .i64 0, .int .i64 0, .int .i64 0, .int .i64 0, .int .i64 0, .int .i64 0, .int .i64 0] 39 (0, 0)) w8 (p + 8)) := S8.at (by omega)
      clear S8
      go_wp2_with fail
      refine (pick_sd _ (by omega) H8.out (by omega) (by omega)).mono ?_
      rintro e8 w9 ⟨⟨x8, l8, u8, rfl⟩, S9⟩
      have H9 : Hid (Sd w br sv L w.heap.size (.cells #[.int .i64 0, .int .i64 0, .int .i64 0, .int .i64 0, .int .i64 0, .int .i64 0, .int .i64 0] 39 (0, 0)) w9 (p + 9)) := S9.at (by omega)
      clear S9
      obtain ⟨z0, z1, z2, z3, z4, z5, z6, zf⟩ := cells7 H9.out.res
      go_wp2
      refine bodyPost_ret (v := .agg #[_, _, _, _, _, _, _]) (by simp [results, Tryz.results55, go_sem, z0, z1, z2, z3, z4, z5, z6]; exact ⟨rfl, rfl, rfl, rfl, rfl, rfl, rfl⟩) rfl ⟨⟨_, _, _, _, _, _, _, rfl⟩, ?_⟩
      exact ⟨p + 9, by omega, by omega, H9.out.end7 (Nat.le_refl _) hbr _ _ _ _ _ _ _⟩
    have n2 : (x3 == 0) = false := by simpa using y2
    go_wp2_with fail
    refine (pick_sd _ (by omega) H4.out (by omega) (by omega)).mono ?_
    rintro e4 w5 ⟨⟨x4, l4, u4, rfl⟩, S5⟩
    have H5 : Hid (Sd w br sv L w.heap.size (.cells #[.int .i64 0, .int .i64 0, .int .i64 0, .int .i64 0, .int .i64 0, .int .i64 0, .int .i64 0] 39 (0, 0)) w5 (p + 5)) := S5.at (by omega)
    clear S5
    go_wp2_with fail
    refine (key_sd H5.out (by omega) (by omega)).mono ?_
    rintro e5 w6 ⟨⟨x5, rfl⟩, S6⟩
    have H6 : Hid (Sd w br sv L w.heap.size (.cells #[.int .i64 0, .int .i64 0, .int .i64 0, .int .i64 0, .int .i64 0, .int .i64 0, .int .i64 0] 39 (0, 0)) w6 (p + 6)) := S6.at (by omega)
    clear S6
    go_wp2_with fail
    refine (pick_sd _ (by omega) H6.out (by omega) (by omega)).mono ?_
    rintro e6 w7 ⟨⟨x6, l6, u6, rfl⟩, S7⟩
    have H7 : Hid (Sd w br sv L w.heap.size (.cells #[.int .i64 0, .int .i64 0, .int .i64 0, .int .i64 0, .int .i64 0, .int .i64 0, .int .i64 0] 39 (0, 0)) w7 (p + 7)) := S7.at (by omega)
    clear S7
    go_wp2_with fail
    refine (pick_sd _ (by omega) H7.out (by omega) (by omega)).mono ?_
    rintro e7 w8 ⟨⟨x7, l7, u7, rfl⟩, S8⟩
    have H8 : Hid (Sd w br sv L w.heap.size (.cells #[.int .i64 0, .int .i64 0, .int .i64 0, .int .i64 0, .int .i64 0, .int .i64 0, .int .i64 0] 39 (0, 0)) w8 (p + 8)) := S8.at (by omega)
    clear S8
    obtain ⟨z0, z1, z2, z3, z4, z5, z6, zf⟩ := cells7 H8.out.res
    go_wp2
    refine bodyPost_ret (v := .agg #[_, _, _, _, _, _, _]) (by simp [results, Tryz.results55, go_sem, z0, z1, z2, z3, z4, z5, z6]; exact ⟨rfl, rfl, rfl, rfl, rfl, rfl, rfl⟩) rfl ⟨⟨_, _, _, _, _, _, _, rfl⟩, ?_⟩
    exact ⟨p + 8, by omega, by omega, H8.out.end7 (Nat.le_refl _) hbr _ _ _ _ _ _ _⟩
  have n1 : (x1 == 1) = false := by simpa using y1
  by_cases y2 : x1 = 2
  · subst y2
    go_wp2_with fail
    refine (key_sd H2.out (by omega) (by omega)).mono ?_
    rintro e2 w3 ⟨⟨x2, rfl⟩, S3⟩
    have H3 : Hid (Sd w br sv L w.heap.size (.cells #[.int .i64 0, .int .i64 0, .int .i64 0, .int .i64 0, .int .i64 0, .int .i64 0, .int .i64 0] 39 (0, 0)) w3 (p + 3)) := S3.at (by omega)
    clear S3
    go_wp2_with fail
    refine (pick_sd _ (by omega) H3.out (by omega) (by omega)).mono ?_
    rintro e3 w4 ⟨⟨x3, l3, u3, rfl⟩, S4⟩
    have H4 : Hid (Sd w br sv L w.heap.size (.cells #[.int .i64 0, .int .i64 0, .int .i64 0, .int .i64 0, .int .i64 0, .int .i64 0, .int .i64 0] 39 (0, 0)) w4 (p + 4)) := S4.at (by omega)
    clear S4
    go_wp2_with fail
    refine (pick_sd _ (by omega) H4.out (by omega) (by omega)).mono ?_
    rintro e4 w5 ⟨⟨x4, l4, u4, rfl⟩, S5⟩
    have H5 : Hid (Sd w br sv L w.heap.size (.cells #[.int .i64 0, .int .i64 0, .int .i64 0, .int .i64 0, .int .i64 0, .int .i64 0, .int .i64 0] 39 (0, 0)) w5 (p + 5)) := S5.at (by omega)
    clear S5
    obtain ⟨z0, z1, z2, z3, z4, z5, z6, zf⟩ := cells7 H5.out.res
    go_wp2
    refine bodyPost_ret (v := .agg #[_, _, _, _, _, _, _]) (by simp [results, Tryz.results55, go_sem, z0, z1, z2, z3, z4, z5, z6]; exact ⟨rfl, rfl, rfl, rfl, rfl, rfl, rfl⟩) rfl ⟨⟨_, _, _, _, _, _, _, rfl⟩, ?_⟩
    exact ⟨p + 5, by omega, by omega, H5.out.end7 (Nat.le_refl _) hbr _ _ _ _ _ _ _⟩
  have n2 : (x1 == 2) = false := by simpa using y2
  go_wp2_with fail
  refine (key_sd H2.out (by omega) (by omega)).mono ?_
  rintro e2 w3 ⟨⟨x2, rfl⟩, S3⟩
  have H3 : Hid (Sd w br sv L w.heap.size (.cells #[.int .i64 0, .int .i64 0, .int .i64 0, .int .i64 0, .int .i64 0, .int .i64 0, .int .i64 0] 39 (0, 0)) w3 (p + 3)) := S3.at (by omega)
  clear S3
  go_wp2_with fail
  refine (pick_sd _ (by omega) H3.out (by omega) (by omega)).mono ?_
  rintro e3 w4 ⟨⟨x3, l3, u3, rfl⟩, S4⟩
  have H4 : Hid (Sd w br sv L w.heap.size (.cells #[.int .i64 0, .int .i64 0, .int .i64 0, .int .i64 0, .int .i64 0, .int .i64 0, .int .i64 0] 39 (0, 0)) w4 (p + 4)) := S4.at (by omega)
  clear S4
  obtain ⟨z0, z1, z2, z3, z4, z5, z6, zf⟩ := cells7 H4.out.res
  go_wp2
  refine bodyPost_ret (v := .agg #[_, _, _, _, _, _, _]) (by simp [results, Tryz.results55, go_sem, z0, z1, z2, z3, z4, z5, z6]; exact ⟨rfl, rfl, rfl, rfl, rfl, rfl, rfl⟩) rfl ⟨⟨_, _, _, _, _, _, _, rfl⟩, ?_⟩
  exact ⟨p + 4, by omega, by omega, H4.out.end7 (Nat.le_refl _) hbr _ _ _ _ _ _ _⟩

end Go.Proofs.YtopikapamfmalaaGreatDoor
