/-
  A seal that is drawn: seven numbers, whatever they are; the reader stays one, and all that was there but the reader itself is as it was.
-/
import Derived.Test.YtaokgbdddgoonaaDrawRd
namespace Go.Proofs.Ytaokgbdddgoonaa
open Go.RowKit

/-- On the way of a drawing: the reader, one block of one's own that stays, and what was there. -/
structure Sd (W0 : World) (br : Nat) (sv : Value) (L : Nat) (B : Nat) (o : Obj) (w : World) (p : Int) : Prop where
  rd : Rd w br sv L p
  res : w.heap[B]? = some o
  grew : Grew br W0 w
  apart : B ≠ br

theorem Sd.only {W0 : World} {br : Nat} {sv : Value} {L : Nat} {B : Nat} {o : Obj} {w w' : World} {p q : Int} (S : Sd W0 br sv L B o w p) (R : Rd w' br sv L q) (h : Only br w w') : Sd W0 br sv L B o w' q :=
  ⟨R, (h.block B S.apart).trans S.res, S.grew.trans h.grew, S.apart⟩
theorem Sd.at {W0 : World} {br : Nat} {sv : Value} {L : Nat} {B : Nat} {o : Obj} {w : World} {p q : Int} (S : Sd W0 br sv L B o w p) (h : p = q) : Sd W0 br sv L B o w q := h ▸ S
theorem pick_sd (n : Int) (hn : 1 ≤ n) {W0 : World} {br : Nat} {sv : Value} {L : Nat} {B : Nat} {o : Obj} {w : World} {p : Int} (S : Sd W0 br sv L B o w p) (hp : 0 ≤ p) (hp2 : p ≤ 1000) :
    Calls Try.prog 18 #[.pointer (some ⟨br, 0, none⟩), .int .i64 n] w fun e w' => (∃ v : Int, 0 ≤ v ∧ v < n ∧ e = .returned (.int .i64 v)) ∧ Sd W0 br sv L B o w' (p + 1) :=
  (pick_any n hn br sv L p w S.rd hp hp2).mono fun _ _ ⟨hv, R, h⟩ => ⟨hv, S.only R h⟩
/-- Seven cells in a block of their own. -/
theorem cells7 {w : World} {B t : Nat} {a0 a1 a2 a3 a4 a5 a6 : Value} (h : w.heap[B]? = some (.cells #[a0, a1, a2, a3, a4, a5, a6] t (0, 0))) :
    w.cell? ⟨B, 0, none⟩ = some a0 ∧ w.cell? ⟨B, 1, none⟩ = some a1 ∧ w.cell? ⟨B, 2, none⟩ = some a2 ∧ w.cell? ⟨B, 3, none⟩ = some a3 ∧ w.cell? ⟨B, 4, none⟩ = some a4 ∧ w.cell? ⟨B, 5, none⟩ = some a5 ∧ w.cell? ⟨B, 6, none⟩ = some a6 ∧ (∀ i, w.frozen? ⟨B, i, none⟩ = false) := by
  refine ⟨?_, ?_, ?_, ?_, ?_, ?_, ?_, fun i => ?_⟩
  all_goals simp [World.cell?, World.frozen?, h]

/-- Seven stores into a block of one's own. -/
theorem Sd.end7 {W0 : World} {br : Nat} {sv : Value} {L : Nat} {B : Nat} {o : Obj} {w : World} {p : Int} (S : Sd W0 br sv L B o w p) (hB : W0.heap.size ≤ B) (hbr : br < W0.heap.size) (v0 v1 v2 v3 v4 v5 v6 : Value) :
    Rd (((((((w.setCell ⟨B, 0, none⟩ v0).setCell ⟨B, 1, none⟩ v1).setCell ⟨B, 2, none⟩ v2).setCell ⟨B, 3, none⟩ v3).setCell ⟨B, 4, none⟩ v4).setCell ⟨B, 5, none⟩ v5).setCell ⟨B, 6, none⟩ v6) br sv L p ∧
    Grew br W0 (((((((w.setCell ⟨B, 0, none⟩ v0).setCell ⟨B, 1, none⟩ v1).setCell ⟨B, 2, none⟩ v2).setCell ⟨B, 3, none⟩ v3).setCell ⟨B, 4, none⟩ v4).setCell ⟨B, 5, none⟩ v5).setCell ⟨B, 6, none⟩ v6) := by
  have hb : br < B := by omega
  exact ⟨((((((S.rd.store hb v0).store hb v1).store hb v2).store hb v3).store hb v4).store hb v5).store hb v6, ((((((S.grew.store hB v0).store hB v1).store hB v2).store hB v3).store hB v4).store hB v5).store hB v6⟩

end Go.Proofs.Ytaokgbdddgoonaa
