/-
  A reader, whatever is drawn from it: the number is in its range, the reader stays one, and all that was there but the reader itself is as it was.
-/
import Derived.Test.YtopikapamfmalaaGreatDoorDrawPick
namespace Go.Proofs.YtopikapamfmalaaGreatDoor
open Go.RowKit

/-- What was there is as it was, but for one block; there may be more. -/
structure Grew (b : Nat) (w w' : World) : Prop where
  os : w'.os = w.os
  tape : w'.tape = w.tape
  output : w'.output = w.output
  size : w.heap.size ≤ w'.heap.size
  block : ∀ k, k < w.heap.size → k ≠ b → w'.heap[k]? = w.heap[k]?

theorem Grew.refl (b : Nat) (w : World) : Grew b w w := ⟨rfl, rfl, rfl, Nat.le_refl _, fun _ _ _ => rfl⟩
theorem Grew.trans {b : Nat} {u v w : World} (h : Grew b u v) (k : Grew b v w) : Grew b u w :=
  ⟨k.os.trans h.os, k.tape.trans h.tape, k.output.trans h.output, Nat.le_trans h.size k.size, fun i hi hb => (k.block i (Nat.lt_of_lt_of_le hi h.size) hb).trans (h.block i hi hb)⟩
theorem Only.grew {b : Nat} {w w' : World} (h : Only b w w') : Grew b w w' := ⟨h.os, h.tape, h.output, Nat.le_of_eq h.size.symm, fun k _ hk => h.block k hk⟩
theorem Below.grew {w w' : World} (b : Nat) (h : Below w.heap.size w w') : Grew b w w' := ⟨h.os, h.tape, h.output, h.size, fun k hk _ => h.block k hk⟩
theorem Grew.below {b : Nat} {w w' : World} (h : Grew b w w') {B : Nat} (hB : B ≤ b) (hw : B ≤ w.heap.size) : Below B w w' :=
  ⟨h.os, h.tape, h.output, h.size, fun k hk => h.block k (by omega) (by omega)⟩
theorem Grew.alloc {b : Nat} {w w' : World} (h : Grew b w w') (o : Obj) : Grew b w (w'.alloc o) := h.trans (Below.grew b ((Below.refl _ _).alloc (Nat.le_refl _) o))
/-- A store into a block that is new. -/
theorem Grew.store {b : Nat} {w w' : World} (h : Grew b w w') {p : Addr} (hp : w.heap.size ≤ p.block) (u : Value) : Grew b w (w'.setCell p u) :=
  ⟨h.os, h.tape, h.output, by simpa using h.size, fun k hk hb => (Below.heap_setCell w' p u k (by omega)).trans (h.block k hk hb)⟩

theorem Rd.lt {w : World} {br : Nat} {sv : Value} {L : Nat} {p : Int} (R : Rd w br sv L p) : br < w.heap.size := block_lt_of_cell R.place
/-- A reader is one while its block, and what was ahead of it, stays. -/
theorem Rd.stay {w w' : World} {br : Nat} {sv : Value} {L : Nat} {p : Int} (R : Rd w br sv L p) (h : ∀ k, k ≤ br → w'.heap[k]? = w.heap[k]?) : Rd w' br sv L p := by
  have hc : ∀ b o, b ≤ br → w'.cell? ⟨b, o, none⟩ = w.cell? ⟨b, o, none⟩ := fun b o hb => World.cell?_of_block (w := w) (h b hb)
  refine ⟨(hc _ _ (Nat.le_refl _)).trans R.list, (hc _ _ (Nat.le_refl _)).trans R.place, (World.frozen?_of_block (w := w) (h br (Nat.le_refl _))).trans R.free, ?_⟩
  rcases R.form with h0 | ⟨h1, h2, cb, off, c, h3, h4, h5⟩
  · exact Or.inl h0
  · exact Or.inr ⟨h1, h2, cb, off, c, h3, h4, fun i hi => let ⟨u, a, b, hu⟩ := h5 i hi; ⟨u, a, b, (hc _ _ (Nat.le_of_lt h4)).trans hu⟩⟩
theorem Rd.alloc {w : World} {br : Nat} {sv : Value} {L : Nat} {p : Int} (R : Rd w br sv L p) (o : Obj) : Rd (w.alloc o) br sv L p :=
  R.stay fun k hk => Below.heap_alloc w o k (by have := R.lt; omega)
theorem Rd.store {w : World} {br : Nat} {sv : Value} {L : Nat} {p : Int} (R : Rd w br sv L p) {a : Addr} (ha : br < a.block) (u : Value) : Rd (w.setCell a u) br sv L p :=
  R.stay fun k hk => Below.heap_setCell w a u k (by omega)
theorem Rd.below {w w' : World} {br : Nat} {sv : Value} {L : Nat} {p : Int} (R : Rd w br sv L p) (h : Below w.heap.size w w') : Rd w' br sv L p :=
  R.stay fun k hk => h.block k (by have := R.lt; omega)

theorem drewN_heap (w : World) (k : Nat) : (w.drewN k).heap = w.heap := rfl
/-- The place is moved on. -/
theorem Rd.next {w w' : World} {br : Nat} {sv : Value} {L : Nat} {p : Int} (R : Rd w br sv L p) (k : Nat) (hw : w' = (w.setCell ⟨br, 1, none⟩ (.int .i64 (p + 1))).drewN k) : Rd w' br sv L (p + 1) ∧ Only br w w' := by
  subst hw
  have hc : ∀ b o, (b ≠ br ∨ o ≠ 1) → ((w.setCell ⟨br, 1, none⟩ (.int .i64 (p + 1))).drewN k).cell? ⟨b, o, none⟩ = w.cell? ⟨b, o, none⟩ := fun b o h => elsewhere (w := w) (by omega)
  refine ⟨⟨(hc _ _ (Or.inr (by decide))).trans R.list, World.cell?_setCell_same _ _ _ R.place, ?_, ?_⟩, ⟨rfl, rfl, rfl, ?_, fun j hj => Below.heap_setCell w ⟨br, 1, none⟩ _ j hj⟩⟩
  · exact (World.frozen?_setCell _ _ _ _).trans R.free
  · rcases R.form with h0 | ⟨h1, h2, cb, off, c, h3, h4, h5⟩
    · exact Or.inl h0
    · exact Or.inr ⟨h1, h2, cb, off, c, h3, h4, fun i hi => let ⟨u, a, b, hu⟩ := h5 i hi; ⟨u, a, b, (hc _ _ (Or.inl (by omega))).trans hu⟩⟩
  · show (w.setCell ⟨br, 1, none⟩ (.int .i64 (p + 1))).heap.size = w.heap.size
    simp

/-- A number is drawn: in its range; the reader goes on; all else is as it was. -/
theorem pick_any (n : Int) (hn : 1 ≤ n) (br : Nat) (sv : Value) (L : Nat) (p : Int) (w : World) (R : Rd w br sv L p) (hp : 0 ≤ p) (hp2 : p ≤ 1000000) :
    Calls Tryz.prog 26 #[.pointer (some ⟨br, 0, none⟩), .int .i64 n] w fun e w' => (∃ v : Int, 0 ≤ v ∧ v < n ∧ e = .returned (.int .i64 v)) ∧ Rd w' br sv L (p + 1) ∧ Only br w w' := by
  rcases R.form with ⟨rfl, a, c, rfl⟩ | ⟨h1, h2, cb, off, c, rfl, h4, h5⟩
  · refine (pick_none n br a c p w hn hp hp2 R.list R.place R.free).mono ?_
    rintro e w' ⟨rfl, hw⟩
    exact ⟨⟨0, by omega, by omega, rfl⟩, R.next 0 hw⟩
  · by_cases hL : p < L
    · obtain ⟨u, a, b, hu⟩ := h5 p.toNat (by omega)
      refine (pick_in n br cb off L c p u w hn hp hL h2 R.list R.place R.free (by omega) hu a b).mono ?_
      rintro e w' ⟨rfl, hw⟩
      exact ⟨⟨u % n, Int.emod_nonneg _ (by omega), Int.emod_lt_of_pos _ (by omega), rfl⟩, R.next 0 hw⟩
    · have hLi : (0 : Int) < (L : Int) := by omega
      have m1 : p.tmod L = ((p % L).toNat : Int) := by
        rw [Int.tmod_eq_emod_of_nonneg hp]
        have := Int.emod_nonneg p (Int.ne_of_gt hLi); omega
      have m2 : (p * 7 + 3).tmod L = (((p * 7 + 3) % L).toNat : Int) := by
        rw [Int.tmod_eq_emod_of_nonneg (by omega)]
        have := Int.emod_nonneg (p * 7 + 3) (Int.ne_of_gt hLi); omega
      have l1 := Int.emod_lt_of_pos p hLi
      have l2 := Int.emod_lt_of_pos (p * 7 + 3) hLi
      have g1 := Int.emod_nonneg p (Int.ne_of_gt hLi)
      have g2 := Int.emod_nonneg (p * 7 + 3) (Int.ne_of_gt hLi)
      obtain ⟨u1, a1, b1, hu1⟩ := h5 (p % L).toNat (by omega)
      obtain ⟨u2, a2, b2, hu2⟩ := h5 ((p * 7 + 3) % L).toNat (by omega)
      have q0 : 0 ≤ p.tdiv L := Int.tdiv_nonneg hp (by omega)
      have q1 : p.tdiv L ≤ 1000000 := Int.le_trans (Int.tdiv_le_self _ hp) hp2
      refine (pick_far n br cb off L c _ _ p u1 u2 _ w hn hp hp2 (by omega) h1 R.list R.place R.free (by omega) (by omega) (by omega) m1 m2 rfl q0 q1 hu1 a1 b1 hu2 a2 b2).mono ?_
      rintro e w' ⟨hv, k, hw⟩
      exact ⟨hv, R.next k hw⟩

set_option maxHeartbeats 400000 in
/-- A key is drawn. -/
theorem l71Key_any (br : Nat) (sv : Value) (L : Nat) (p : Int) (w : World) (R : Rd w br sv L p) (hp : 0 ≤ p) (hp2 : p ≤ 1000000) :
    Calls Tryz.prog 74 #[.pointer (some ⟨br, 0, none⟩)] w fun e w' => (∃ v : Int, e = .returned (.int .i64 v)) ∧ Rd w' br sv L (p + 1) ∧ Only br w w' := by
  go_enter Tryz.func74, Tryz.ntmps74
  go_wp2_with fail
  refine (pick_any _ (by omega) _ _ _ _ _ R hp hp2).mono ?_
  rintro e w1 ⟨⟨v, v0, v1, rfl⟩, R1, O1⟩
  have HR : Hid (Rd w1 br sv L (p + 1) ∧ Only br w w1) := ⟨R1, O1⟩
  clear R1 O1
  go_wp2
  go_ret
  exact ⟨⟨_, rfl⟩, HR.out⟩

end Go.Proofs.YtopikapamfmalaaGreatDoor
