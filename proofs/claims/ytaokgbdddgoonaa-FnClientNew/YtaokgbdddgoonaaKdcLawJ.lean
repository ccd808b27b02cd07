/-
  The laws' own ways with one who gives tickets: a copy, whether two are the same, how long, marks.
-/
import Derived.Test.YtaokgbdddgoonaaKdcMath
import Derived.Test.YtaokgbdddgoonaaSealMarks
import Derived.Test.YtaokgbdddgoonaaKEq
import Derived.Test.YtaokgbdddgoonaaKSzS
import Derived.Test.YtaokgbdddgoonaaKRow
import Derived.Test.YtaokgbdddgoonaaSealOkd
import Derived.Test.YtaokgbdddgoonaaKTo
namespace Go.Proofs.Ytaokgbdddgoonaa
open Go.RowKit

end Go.Proofs.Ytaokgbdddgoonaa

namespace Go.Proofs.Ytaokgbdddgoonaa
open Go.RowKit

/-- A word's five cells lie at a block's begin. -/
structure MsgAt (w : World) (b : Nat) (m n k f : Int) (v : Value) : Prop where
  c0 : w.cell? ⟨b, 0, none⟩ = some (.int .i64 m)
  c1 : w.cell? ⟨b, 1, none⟩ = some (.int .i64 n)
  c2 : w.cell? ⟨b, 2, none⟩ = some (.int .i64 k)
  c3 : w.cell? ⟨b, 3, none⟩ = some (.int .i64 f)
  c4 : w.cell? ⟨b, 4, none⟩ = some v
theorem MsgAt.later {w w' : World} {b : Nat} {m n k f : Int} {v : Value} (h : MsgAt w b m n k f v) {B : Nat} (hb : Below B w w') (hl : b < B) : MsgAt w' b m n k f v :=
  ⟨(hb.cell (p := ⟨b, 0, none⟩) hl).trans h.c0, (hb.cell (p := ⟨b, 1, none⟩) hl).trans h.c1, (hb.cell (p := ⟨b, 2, none⟩) hl).trans h.c2, (hb.cell (p := ⟨b, 3, none⟩) hl).trans h.c3, (hb.cell (p := ⟨b, 4, none⟩) hl).trans h.c4⟩

end Go.Proofs.Ytaokgbdddgoonaa

namespace Go.Proofs.Ytaokgbdddgoonaa
open Go.RowKit
attribute [local go_sem ↓] Go.wp_at_zero Go.wp_at_succ

end Go.Proofs.Ytaokgbdddgoonaa

namespace Go.Proofs.Ytaokgbdddgoonaa
open Go.RowKit
attribute [local go_sem ↓] Go.wp_at_zero Go.wp_at_succ

end Go.Proofs.Ytaokgbdddgoonaa

namespace Go.Proofs.Ytaokgbdddgoonaa
open Go.RowKit
attribute [local go_sem ↓] Go.wp_at_zero Go.wp_at_succ

end Go.Proofs.Ytaokgbdddgoonaa

namespace Go.Proofs.Ytaokgbdddgoonaa
open Go.RowKit

end Go.Proofs.Ytaokgbdddgoonaa

namespace Go.Proofs.Ytaokgbdddgoonaa
open Go.RowKit

/-- So many seals, all ok. -/
def slB (xs : List Sl) (many : Int) : Bool := xs.all Sl.ok && decide ((xs.length : Int) = many)
theorem slB_not {xs : List Sl} {q : Int} (h : ((xs.length : Int) == q) = false) : slB xs q = false := by
  have h' : ¬ (xs.length : Int) = q := by simpa using h
  simp only [slB, decide_eq_false h', Bool.and_false]
theorem slB_len {xs : List Sl} {q : Int} (h : ((xs.length : Int) == q) = true) : slB xs q = xs.all Sl.ok := by
  have h' : (xs.length : Int) = q := by simpa using h
  simp only [slB, decide_eq_true h', Bool.and_true]
/-- A word is in form: its kind, user, service, number, seals. -/
def msgB (m n k f : Int) (xs : List Sl) : Bool :=
  if m = 1 then inB n 1 3 && (k == 0) && inB f 1 60 && slB xs 0
  else if m = 2 then inB n 1 3 && (k == 0) && (f == 0) && slB xs 2
  else if m = 3 then (n == 0) && inB k 4 5 && inB f 1 60 && slB xs 2
  else if m = 4 then inB n 1 3 && (k == 0) && (f == 0) && slB xs 2
  else if m = 5 then (n == 0) && inB k 4 5 && (f == 0) && slB xs 2
  else if m = 6 then inB n 1 3 && (k == 0) && (f == 0) && slB xs 1
  else false

set_option maxHeartbeats 400000 in
theorem l1Serv_any (n : Int) (w : World) :
    Calls Try.prog 19 #[.int .i64 n] w fun e w' => e = .returned (.bool (inB n 4 5)) ∧ w' = w := by
  go_enter Try.func19, Try.ntmps19
  go_wp2_with (go_at_call 35; refine (l6In_any _ _ _ _).mono ?_; rintro e w' ⟨rfl, rfl⟩)
  go_ret
  exact ⟨rfl, rfl⟩

/-- The table of forms, cell by cell. -/
def formCells : List Value := [.bool false, .bool false, .bool false, .int .i64 0, .bool true, .bool false, .bool true, .int .i64 0, .bool true, .bool false, .bool false, .int .i64 2, .bool false, .bool true, .bool true, .int .i64 2,
  .bool true, .bool false, .bool false, .int .i64 2, .bool false, .bool true, .bool false, .int .i64 2, .bool true, .bool false, .bool false, .int .i64 1]
/-- A number is such a one, if there is to be one, and else it is 0; which ones, by the function that is handed over. -/
def just (b : Bool) (g : Nat) (n : Int) : Bool := if b then (if g = 27 then inB n 1 3 else if g = 20 then inB n 4 5 else inB n 1 60) else n == 0
end Go.Proofs.Ytaokgbdddgoonaa

namespace Go.Proofs.Ytaokgbdddgoonaa
open Go.RowKit
attribute [local go_sem ↓] Go.wp_at_zero Go.wp_at_succ

/-- A word of the program's lies in a block of its own. -/
def KMb (w : World) (b : Nat) (m c s f : Int) (v : Value) : Prop := w.heap[b]? = some (.cells #[.int .i64 m, .int .i64 c, .int .i64 s, .int .i64 f, v] 41 (0, 0))
theorem KMb.lt {w : World} {b : Nat} {m c s f : Int} {v : Value} (h : KMb w b m c s f v) : b < w.heap.size := (Array.getElem?_eq_some_iff.1 h).1
theorem KMb.later {w w' : World} {b : Nat} {m c s f : Int} {v : Value} (h : KMb w b m c s f v) (hb : Below w.heap.size w w') : KMb w' b m c s f v := (hb.block _ h.lt).trans h
theorem KMb.base {w w' : World} {b B : Nat} {m c s f : Int} {v : Value} (h : KMb w b m c s f v) (hb : Below B w w') (hB : b < B) : KMb w' b m c s f v := (hb.block _ hB).trans h
theorem KMb.new (w : World) (m c s f : Int) (v : Value) : KMb (w.alloc (.cells #[.int .i64 m, .int .i64 c, .int .i64 s, .int .i64 f, v] 41)) w.heap.size m c s f v := heap_alloc_new _ _
theorem KMb.cells {w : World} {b : Nat} {m c s f : Int} {v : Value} (h : KMb w b m c s f v) : w.cell? ⟨b, 0, none⟩ = some (.int .i64 m) ∧ w.cell? ⟨b, 1, none⟩ = some (.int .i64 c) ∧ w.cell? ⟨b, 2, none⟩ = some (.int .i64 s) ∧ w.cell? ⟨b, 3, none⟩ = some (.int .i64 f) ∧ w.cell? ⟨b, 4, none⟩ = some v := by
  unfold KMb at h
  refine ⟨?_, ?_, ?_, ?_, ?_⟩ <;> simp [World.cell?, h]
theorem KMb.fro {w : World} {b : Nat} {m c s f : Int} {v : Value} (h : KMb w b m c s f v) : ∀ i, w.frozen? ⟨b, i, none⟩ = false := by
  intro i
  unfold KMb at h
  simp [World.frozen?, h]
theorem KMb.grown {w w' : World} {b : Nat} {m c s f : Int} {v : Value} {r : Option Nat} (h : KMb w b m c s f v) (hb : w.grownBy w' r) (hB : some b ≠ r) : KMb w' b m c s f v := (hb.block _ h.lt hB).trans h
theorem KMb.put {w : World} {b : Nat} {m c s f : Int} {v : Value} (h : KMb w b m c s f v) (m' c' s' f' : Int) (v' : Value) : KMb (((((w.setCell ⟨b, 0, none⟩ (.int .i64 m')).setCell ⟨b, 1, none⟩ (.int .i64 c')).setCell ⟨b, 2, none⟩ (.int .i64 s')).setCell ⟨b, 3, none⟩ (.int .i64 f')).setCell ⟨b, 4, none⟩ v') b m' c' s' f' v' := by
  unfold KMb at h ⊢
  simp [World.setCell, Array.getElem?_modify, h]
theorem setCell_grown {w w' : World} {r : Option Nat} (b o : Nat) (u : Value) (h : w.grownBy w' r) (hr : r = some b) : w.grownBy (w'.setCell ⟨b, o, none⟩ u) r :=
  ⟨h.os, h.tape, h.output, by simpa using h.size, fun k hk hn => (Below.heap_setCell _ _ _ _ (fun e => hn (by rw [hr, e]))).trans (h.block k hk hn)⟩
theorem put2_grown (w : World) (b : Nat) (u0 u1 : Value) : w.grownBy ((w.setCell ⟨b, 0, none⟩ u0).setCell ⟨b, 1, none⟩ u1) (some b) :=
  setCell_grown b 1 u1 (setCell_grown b 0 u0 (World.grownBy.refl _ _) rfl) rfl
theorem put5_grown (w : World) (b : Nat) (u0 u1 u2 u3 u4 : Value) : w.grownBy (((((w.setCell ⟨b, 0, none⟩ u0).setCell ⟨b, 1, none⟩ u1).setCell ⟨b, 2, none⟩ u2).setCell ⟨b, 3, none⟩ u3).setCell ⟨b, 4, none⟩ u4) (some b) :=
  setCell_grown b 4 u4 (setCell_grown b 3 u3 (setCell_grown b 2 u2 (setCell_grown b 1 u1 (setCell_grown b 0 u0 (World.grownBy.refl _ _) rfl) rfl) rfl) rfl) rfl
theorem SRow.blk {w : World} {a : Option Addr} {xs : List Sl} (h : SRow w a xs) : xs = [] ∨ ∃ b off, a = some ⟨b, off, none⟩ ∧ b < w.heap.size := by
  rcases h with h | ⟨b, off, ha, hl, _⟩
  · exact Or.inl h
  · exact Or.inr ⟨b, off, ha, hl⟩
/-- A row stays where its block is not the one turned. -/
theorem SRow.gr {w w' : World} {a : Option Addr} {xs : List Sl} {r : Option Nat} (h : SRow w a xs) (hg : w.grownBy w' r) (hne : ∀ b off, a = some ⟨b, off, none⟩ → some b ≠ r) : SRow w' a xs := by
  rcases h with h | ⟨b, off, rfl, hl, h⟩
  · exact Or.inl h
  · have e : ∀ o, w'.cell? ⟨b, o, none⟩ = w.cell? ⟨b, o, none⟩ := fun o => World.cell?_of_block (hg.block b hl (hne b off rfl))
    refine Or.inr ⟨b, off, rfl, Nat.lt_of_lt_of_le hl hg.size, fun i s hs => ?_⟩
    obtain ⟨c0, c1, c2, c3, c4, c5, c6⟩ := h i s hs
    exact ⟨(e _).trans c0, (e _).trans c1, (e _).trans c2, (e _).trans c3, (e _).trans c4, (e _).trans c5, (e _).trans c6⟩

/-- Marks stay where another block is turned. -/
theorem Mk7.grown {w w' : World} {v : Value} {n : Nat} {k0 : Int} {r : Option Nat} (h : Mk7 w v n k0) (hg : w.grownBy w' r) (hne : ∀ k, v.ownBlock = some k → some k ≠ r) : Mk7 w' v n k0 := by
  obtain ⟨a, cap, rfl, h | ⟨g, rfl, hl, h⟩⟩ := h
  · exact ⟨a, cap, rfl, Or.inl h⟩
  · exact ⟨_, cap, rfl, Or.inr ⟨g, rfl, Nat.lt_of_lt_of_le hl hg.size, fun i hi => (World.cell?_of_block (hg.block g hl (hne g rfl))).trans (h i hi)⟩⟩

theorem OwnS.offM {w : World} {base p : Nat} {v u : Value} {m c s f : Int} {zs : List Sl} (h : OwnS w base v zs) (hk : KMb w p m c s f u) : ∀ k, v.ownBlock = some k → k ≠ p := by
  intro k e
  obtain ⟨cur, hc⟩ := own_type h e
  exact type_ne hc hk (by decide)
theorem OwnS.gr {w w' : World} {base : Nat} {v : Value} {zs : List Sl} {p : Nat} (h : OwnS w base v zs) (hg : w.grownBy w' (some p)) (hne : ∀ k, v.ownBlock = some k → k ≠ p) : OwnS w' base v zs :=
  own_keep h fun g e => hg.block g (World.ownsRow.lt h g e).2 (fun e2 => hne g e (by injection e2))
end Go.Proofs.Ytaokgbdddgoonaa
