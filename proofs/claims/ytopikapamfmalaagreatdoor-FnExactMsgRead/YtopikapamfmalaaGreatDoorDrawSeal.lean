/-
  A seal that is drawn from a list of bytes, whatever it is: seven numbers; nothing that was in memory is turned.
-/
import Derived.Test.YtopikapamfmalaaGreatDoorDrawFine
namespace Go.Proofs.YtopikapamfmalaaGreatDoor
open Go.RowKit

/-- Six cells in a block of their own, one of them by its place. -/
theorem cell6 {w : World} {B t : Nat} {a0 a1 a2 a3 a4 a5 : Int} (h : w.heap[B]? = some (.cells #[.int .i64 a0, .int .i64 a1, .int .i64 a2, .int .i64 a3, .int .i64 a4, .int .i64 a5] t (0, 0))) (x : Int) (h0 : 0 ≤ x) (h1 : x < 6) :
    ∃ n : Int, w.cell? ⟨B, x.toNat, none⟩ = some (.int .i64 n) := by
  obtain rfl | rfl | rfl | rfl | rfl | rfl : x = 0 ∨ x = 1 ∨ x = 2 ∨ x = 3 ∨ x = 4 ∨ x = 5 := by omega
  · exact ⟨a0, by simp [World.cell?, h]⟩
  · exact ⟨a1, by simp [World.cell?, h]⟩
  · exact ⟨a2, by simp [World.cell?, h]⟩
  · exact ⟨a3, by simp [World.cell?, h]⟩
  · exact ⟨a4, by simp [World.cell?, h]⟩
  · exact ⟨a5, by simp [World.cell?, h]⟩

/-- A store into another block of one's own. -/
theorem Sd.side {W0 : World} {br : Nat} {sv : Value} {L : Nat} {B : Nat} {o : Obj} {w : World} {p : Int} (S : Sd W0 br sv L B o w p) {a : Addr} (ha : W0.heap.size ≤ a.block) (hbr : br < W0.heap.size) (hne : B ≠ a.block) (u : Value) : Sd W0 br sv L B o (w.setCell a u) p :=
  ⟨S.rd.store (by omega) u, (Below.heap_setCell w a u B hne).trans S.res, S.grew.store ha u, S.apart⟩

set_option maxHeartbeats 1000000 in
set_option maxRecDepth 100000 in
/-- A seal is drawn, seldom spoilt. -/
theorem l71Seal_any (br : Nat) (sv : Value) (L : Nat) (p : Int) (w : World) (R : Rd w br sv L p) (hp : 0 ≤ p) (hp2 : p ≤ 999800) :
    Calls Tryz.prog 56 #[.pointer (some ⟨br, 0, none⟩)] w fun r w' => (∃ k t a b c d e : Int, r = .returned (.agg #[.int .i64 k, .int .i64 t, .int .i64 a, .int .i64 b, .int .i64 c, .int .i64 d, .int .i64 e])) ∧ ∃ q, 0 ≤ q ∧ q ≤ p + 20 ∧ Rd w' br sv L q ∧ Grew br w w' := by
  have hbr := R.lt
  have HR : Hid (Rd w br sv L p) := R
  clear R
  go_enter Tryz.func56, Tryz.ntmps56
  go_wp2_with fail
  refine (l71Fine_any br sv L p _ (HR.out.alloc _) hp (by omega)).mono ?_
  rintro e1 w1 ⟨⟨k, t, a, b, c, d, e, rfl⟩, q, q0, q1, R1, G1⟩
  have hB0 : w1.heap[w.heap.size]? = some (.cells #[.int .i64 0, .int .i64 0, .int .i64 0, .int .i64 0, .int .i64 0, .int .i64 0, .int .i64 0] 39 (0, 0)) := (G1.block w.heap.size (by simp) (by omega)).trans (heap_alloc_new w _)
  have hz1 : w.heap.size < w1.heap.size := by have := G1.size; simp at this; omega
  have GG1 : Grew br w w1 := ((Grew.refl br w).alloc _).trans G1
  have H1 : Hid (Rd w1 br sv L q ∧ Grew br w w1 ∧ w1.heap[w.heap.size]? = some (.cells #[.int .i64 0, .int .i64 0, .int .i64 0, .int .i64 0, .int .i64 0, .int .i64 0, .int .i64 0] 39 (0, 0))) := ⟨R1, GG1, hB0⟩
  clear R1 G1 GG1 hB0 HR
  go_wp2_with fail
  refine (pick_any _ (by omega) br sv L q _ (H1.out.1.alloc _) q0 (by omega)).mono ?_
  rintro e2 w2 ⟨⟨x2, l2, u2, rfl⟩, R2, O2⟩
  have hs2 : w2.heap.size = w1.heap.size + 1 := by have := O2.size; simpa using this
  have b0 : w2.heap[w.heap.size]? = some (.cells #[.int .i64 0, .int .i64 0, .int .i64 0, .int .i64 0, .int .i64 0, .int .i64 0, .int .i64 0] 39 (0, 0)) := (O2.block _ (by omega)).trans ((Below.heap_alloc w1 _ _ hz1).trans H1.out.2.2)
  have b1 : w2.heap[w1.heap.size]? = some (.cells #[.int .i64 k, .int .i64 t, .int .i64 a, .int .i64 b, .int .i64 c, .int .i64 d, .int .i64 e] 39 (0, 0)) := (O2.block _ (by omega)).trans (heap_alloc_new w1 _)
  have G2 : Grew br w w2 := (H1.out.2.1.alloc _).trans O2.grew
  have H2 : Hid (Rd w2 br sv L (q + 1) ∧ Grew br w w2 ∧ w2.heap[w.heap.size]? = some (.cells #[.int .i64 0, .int .i64 0, .int .i64 0, .int .i64 0, .int .i64 0, .int .i64 0, .int .i64 0] 39 (0, 0)) ∧ w2.heap[w1.heap.size]? = some (.cells #[.int .i64 k, .int .i64 t, .int .i64 a, .int .i64 b, .int .i64 c, .int .i64 d, .int .i64 e] 39 (0, 0))) := ⟨R2, G2, b0, b1⟩
  clear R2 O2 b0 b1 G2 H1 hs2
  by_cases y : 0 < x2
  · obtain ⟨z0, z1, z2, z3, z4, z5, z6, zf⟩ := cells7 H2.out.2.2.1
    obtain ⟨m0, m1, m2, m3, m4, m5, m6, mf⟩ := cells7 H2.out.2.2.2
    go_wp2
    exact bodyPost_ret (v := .agg #[.int .i64 k, .int .i64 t, .int .i64 a, .int .i64 b, .int .i64 c, .int .i64 d, .int .i64 e]) (by simp [results, Tryz.results56, go_sem, z0, z1, z2, z3, z4, z5, z6]) rfl ⟨⟨_, _, _, _, _, _, _, rfl⟩, q + 1, by omega, by omega, (Sd.mk H2.out.1 H2.out.2.2.1 H2.out.2.1 (by omega)).end7 (Nat.le_refl _) hbr _ _ _ _ _ _ _⟩
  · have y' : decide (0 < x2) = false := by simpa using y
    go_wp2_with fail
    refine (pick_any _ (by omega) br sv L (q + 1) _ (H2.out.1.alloc _) (by omega) (by omega)).mono ?_
    rintro e3 w3 ⟨⟨x3, l3, u3, rfl⟩, R3, O3⟩
    have hz2 : w1.heap.size < w2.heap.size := (Array.getElem?_eq_some_iff.1 H2.out.2.2.2).1
    have b0 : w3.heap[w.heap.size]? = some (.cells #[.int .i64 0, .int .i64 0, .int .i64 0, .int .i64 0, .int .i64 0, .int .i64 0, .int .i64 0] 39 (0, 0)) := (O3.block _ (by omega)).trans ((Below.heap_alloc w2 _ _ (by omega)).trans H2.out.2.2.1)
    have b1 : w3.heap[w1.heap.size]? = some (.cells #[.int .i64 k, .int .i64 t, .int .i64 a, .int .i64 b, .int .i64 c, .int .i64 d, .int .i64 e] 39 (0, 0)) := (O3.block _ (by omega)).trans ((Below.heap_alloc w2 _ _ hz2).trans H2.out.2.2.2)
    have b2 : w3.heap[w2.heap.size]? = some (.cells #[.int .i64 (-1), .int .i64 0, .int .i64 3, .int .i64 7, .int .i64 61, .int .i64 101] 3 (0, 0)) := (O3.block _ (by omega)).trans (heap_alloc_new w2 _)
    have G3 : Grew br w w3 := (H2.out.2.1.alloc _).trans O3.grew
    have H3 : Hid (Rd w3 br sv L (q + 1 + 1) ∧ Grew br w w3 ∧ w3.heap[w.heap.size]? = some (.cells #[.int .i64 0, .int .i64 0, .int .i64 0, .int .i64 0, .int .i64 0, .int .i64 0, .int .i64 0] 39 (0, 0)) ∧ w3.heap[w1.heap.size]? = some (.cells #[.int .i64 k, .int .i64 t, .int .i64 a, .int .i64 b, .int .i64 c, .int .i64 d, .int .i64 e] 39 (0, 0))) := ⟨R3, G3, b0, b1⟩
    obtain ⟨n, hn⟩ := cell6 b2 x3 l3 u3
    clear R3 O3 b0 b1 b2 G3 H2
    go_wp2_with fail
    refine (pick_any _ (by omega) br sv L (q + 1 + 1) _ H3.out.1 (by omega) (by omega)).mono ?_
    rintro e4 w4 ⟨⟨x4, l4, u4, rfl⟩, R4, O4⟩
    have b0 : w4.heap[w.heap.size]? = some (.cells #[.int .i64 0, .int .i64 0, .int .i64 0, .int .i64 0, .int .i64 0, .int .i64 0, .int .i64 0] 39 (0, 0)) := (O4.block _ (by omega)).trans H3.out.2.2.1
    have b1 : w4.heap[w1.heap.size]? = some (.cells #[.int .i64 k, .int .i64 t, .int .i64 a, .int .i64 b, .int .i64 c, .int .i64 d, .int .i64 e] 39 (0, 0)) := (O4.block _ (by omega)).trans H3.out.2.2.2
    have G4 : Grew br w w4 := H3.out.2.1.trans O4.grew
    have H4 : Hid (Rd w4 br sv L (q + 1 + 1 + 1) ∧ Grew br w w4 ∧ w4.heap[w.heap.size]? = some (.cells #[.int .i64 0, .int .i64 0, .int .i64 0, .int .i64 0, .int .i64 0, .int .i64 0, .int .i64 0] 39 (0, 0)) ∧ w4.heap[w1.heap.size]? = some (.cells #[.int .i64 k, .int .i64 t, .int .i64 a, .int .i64 b, .int .i64 c, .int .i64 d, .int .i64 e] 39 (0, 0))) := ⟨R4, G4, b0, b1⟩
    clear R4 O4 G4 H3 hn b0 b1
    by_cases y1 : x4 = 1
    · subst y1
      go_wp2_with fail
      refine (pick_any _ (by omega) br sv L (q + 1 + 1 + 1) _ H4.out.1 (by omega) (by omega)).mono ?_
      rintro e5 w5 ⟨⟨x5, l5, u5, rfl⟩, R5, O5⟩
      have b0 : w5.heap[w.heap.size]? = some (.cells #[.int .i64 0, .int .i64 0, .int .i64 0, .int .i64 0, .int .i64 0, .int .i64 0, .int .i64 0] 39 (0, 0)) := (O5.block _ (by omega)).trans H4.out.2.2.1
      have b1 : w5.heap[w1.heap.size]? = some (.cells #[.int .i64 k, .int .i64 t, .int .i64 a, .int .i64 b, .int .i64 c, .int .i64 d, .int .i64 e] 39 (0, 0)) := (O5.block _ (by omega)).trans H4.out.2.2.2
      have G5 : Grew br w w5 := H4.out.2.1.trans O5.grew
      have H5 : Hid (Rd w5 br sv L (q + 1 + 1 + 1 + 1) ∧ Grew br w w5 ∧ w5.heap[w.heap.size]? = some (.cells #[.int .i64 0, .int .i64 0, .int .i64 0, .int .i64 0, .int .i64 0, .int .i64 0, .int .i64 0] 39 (0, 0)) ∧ w5.heap[w1.heap.size]? = some (.cells #[.int .i64 k, .int .i64 t, .int .i64 a, .int .i64 b, .int .i64 c, .int .i64 d, .int .i64 e] 39 (0, 0))) := ⟨R5, G5, b0, b1⟩
      clear R5 O5 G5 H4
      obtain ⟨z0, z1, z2, z3, z4, z5, z6, zf⟩ := cells7 b0
      obtain ⟨m0, m1, m2, m3, m4, m5, m6, mf⟩ := cells7 b1
      clear b0 b1
      have hne : w1.heap.size ≠ w.heap.size := by omega
      have hne' : w.heap.size ≠ w1.heap.size := by omega
      go_wp2
      exact bodyPost_ret (v := .agg #[_, _, _, _, _, _, _]) (by simp [results, Tryz.results56, go_sem, z0, z1, z2, z3, z4, z5, z6]; exact ⟨rfl, rfl, rfl, rfl, rfl, rfl, rfl⟩) rfl ⟨⟨_, _, _, _, _, _, _, rfl⟩, q + 1 + 1 + 1 + 1, by omega, by omega, ((Sd.mk H5.out.1 H5.out.2.2.1 H5.out.2.1 (by omega)).side (Nat.le_of_lt hz1) hbr hne' _).end7 (Nat.le_refl _) hbr _ _ _ _ _ _ _⟩
    · have y1' : (x4 == 1) = false := by simpa using y1
      obtain ⟨z0, z1, z2, z3, z4, z5, z6, zf⟩ := cells7 H4.out.2.2.1
      obtain ⟨m0, m1, m2, m3, m4, m5, m6, mf⟩ := cells7 H4.out.2.2.2
      have hne : w1.heap.size ≠ w.heap.size := by omega
      have hne' : w.heap.size ≠ w1.heap.size := by omega
      go_wp2
      all_goals exact bodyPost_ret (v := .agg #[_, _, _, _, _, _, _]) (by simp [results, Tryz.results56, go_sem, z0, z1, z2, z3, z4, z5, z6]; exact ⟨rfl, rfl, rfl, rfl, rfl, rfl, rfl⟩) rfl ⟨⟨_, _, _, _, _, _, _, rfl⟩, q + 1 + 1 + 1, by omega, by omega, ((Sd.mk H4.out.1 H4.out.2.2.1 H4.out.2.1 (by omega)).side (Nat.le_of_lt hz1) hbr hne' _).end7 (Nat.le_refl _) hbr _ _ _ _ _ _ _⟩

/-- A list of bytes that was handed over. -/
def Code (w : World) (a : Option Addr) (len cap : Nat) : Prop :=
  len = 0 ∨ (len ≤ cap ∧ ∃ cb off, a = some ⟨cb, off, none⟩ ∧ cb < w.heap.size ∧ ∀ i, i < len → ∃ u : Int, 0 ≤ u ∧ u ≤ 255 ∧ w.cell? ⟨cb, off + i, none⟩ = some (.int .u8 u))
theorem Code.below {w w' : World} {a : Option Addr} {len cap : Nat} (h : Code w a len cap) (hb : Below w.heap.size w w') : Code w' a len cap := by
  rcases h with h | ⟨h1, cb, off, h2, h3, h4⟩
  · exact Or.inl h
  · exact Or.inr ⟨h1, cb, off, h2, Nat.lt_of_lt_of_le h3 hb.size, fun i hi => let ⟨u, x, y, hu⟩ := h4 i hi; ⟨u, x, y, (hb.cell (p := ⟨cb, off + i, none⟩) h3).trans hu⟩⟩

set_option maxHeartbeats 400000 in
theorem l6Open_short (a : Option Addr) (len cap : Nat) (w : World) (h : (len : Int) ≤ 2000) :
    Calls Tryz.prog 24 #[.slice a len cap] w fun e w' => e = .returned (.pointer (some ⟨w.heap.size, 0, none⟩)) ∧ w' = w.alloc (.cells #[.slice a len cap, .int .i64 0] 95) := by
  go_enter Tryz.func24, Tryz.ntmps24
  go_wp2
  go_ret
  exact ⟨rfl, rfl⟩
set_option maxHeartbeats 400000 in
theorem l6Open_long (cb off len cap : Nat) (w : World) (h : 2000 < (len : Int)) (hc : (len : Int) ≤ (cap : Int)) :
    Calls Tryz.prog 24 #[.slice (some ⟨cb, off, none⟩) len cap] w fun e w' => e = .returned (.pointer (some ⟨w.heap.size, 0, none⟩)) ∧ w' = w.alloc (.cells #[.slice (some ⟨cb, off, none⟩) 2000 cap, .int .i64 0] 95) := by
  have h2 : (2000 : Int) ≤ (cap : Int) := by omega
  go_enter Tryz.func24, Tryz.ntmps24
  go_wp2
  go_ret
  exact ⟨rfl, rfl⟩

/-- A reader is laid over a list of bytes. -/
theorem l6Open_any (a : Option Addr) (len cap : Nat) (w : World) (h : Code w a len cap) :
    Calls Tryz.prog 24 #[.slice a len cap] w fun e w' => e = .returned (.pointer (some ⟨w.heap.size, 0, none⟩)) ∧ (∃ sv L, Rd w' w.heap.size sv L 0) ∧ Below w.heap.size w w' := by
  have two : ∀ (v0 : Value), (w.alloc (.cells #[v0, .int .i64 0] 95)).cell? ⟨w.heap.size, 0, none⟩ = some v0 ∧ (w.alloc (.cells #[v0, .int .i64 0] 95)).cell? ⟨w.heap.size, 1, none⟩ = some (.int .i64 0) ∧ (w.alloc (.cells #[v0, .int .i64 0] 95)).frozen? ⟨w.heap.size, 1, none⟩ = false := by
    intro v0
    exact ⟨by go_simp, by go_simp, by go_simp⟩
  have hbl : ∀ o, Below w.heap.size w (w.alloc o) := fun o => (Below.refl _ _).alloc (Nat.le_refl _) o
  by_cases hl : len ≤ 2000
  · refine (l6Open_short a len cap w (by omega)).mono ?_
    rintro e w' ⟨rfl, rfl⟩
    obtain ⟨t0, t1, t2⟩ := two (.slice a len cap)
    refine ⟨rfl, ⟨_, len, t0, t1, t2, ?_⟩, hbl _⟩
    rcases h with h | ⟨h1, cb, off, rfl, h3, h4⟩
    · subst h; exact Or.inl ⟨rfl, _, _, rfl⟩
    · by_cases h0 : len = 0
      · subst h0; exact Or.inl ⟨rfl, _, _, rfl⟩
      · exact Or.inr ⟨by omega, hl, cb, off, cap, rfl, h3, fun i hi => let ⟨u, x, y, hu⟩ := h4 i hi; ⟨u, x, y, ((hbl _).cell (p := ⟨cb, off + i, none⟩) h3).trans hu⟩⟩
  · rcases h with h | ⟨h1, cb, off, rfl, h3, h4⟩
    · omega
    · refine (l6Open_long cb off len cap w (by omega) (by omega)).mono ?_
      rintro e w' ⟨rfl, rfl⟩
      obtain ⟨t0, t1, t2⟩ := two (.slice (some ⟨cb, off, none⟩) 2000 cap)
      exact ⟨rfl, ⟨_, 2000, t0, t1, t2, Or.inr ⟨by omega, Nat.le_refl _, cb, off, cap, rfl, h3, fun i hi => let ⟨u, x, y, hu⟩ := h4 i (by omega); ⟨u, x, y, ((hbl _).cell (p := ⟨cb, off + i, none⟩) h3).trans hu⟩⟩⟩, hbl _⟩

end Go.Proofs.YtopikapamfmalaaGreatDoor
