/-
  A service that falls, by the specification.
-/
import Derived.Test.YtghajmfjekfdpaaDoorSvCopyS
import Derived.Test.YtghajmfjekfdpaaDoorSvOk
namespace Go.Proofs.YtghajmfjekfdpaaDoor
open Go.RowKit
attribute [local go_sem ↓] Go.wp_at_zero Go.wp_at_succ

/-- What a service is behind something. -/
structure SvA where
  i : Int
  s : Int
  X : List Sl
  C : List Ca
/-- This is answered, in memory of the call's own. -/
def SvRet (B : Nat) (w w' : World) (A : SvA) (r : Ending) : Prop := ∃ (b00 : Option Addr) (e00 : Nat) (b01 : Option Addr) (e01 : Nat), r = .returned (.agg #[.int .i64 A.i, .int .i64 A.s, .slice b00 A.X.length e00, .slice b01 A.C.length e01]) ∧ OwnS w' B (.slice b00 A.X.length e00) A.X ∧ OwnN celC 90 w' B (.slice b01 A.C.length e01) A.C ∧ Below B w w'
def noSv : SvA := ⟨0, 0, [], []⟩
/-- A service behind a fall. -/
def fallA (i s : Int) (xs : List Sl) (ts : List Ca) (now : Int) : SvA := if servB i s xs ts = true ∧ inB now 0 100 = true then ⟨i, max s now, [], ts⟩ else noSv
theorem OwnN.lessC {X : Type} {C : Cel X} {T : TypeId} {w : World} {B B' : Nat} {v : Value} {zs : List X} (h : OwnN C T w B v zs) (hb : B' ≤ B) : OwnN C T w B' v zs :=
  ⟨h.1, h.2.imp id fun ⟨g, cap, cur, e, h2, r⟩ => ⟨g, cap, cur, e, Nat.le_trans hb h2, r⟩⟩
theorem noSv_ret {w w' : World} {r : Ending} {i s : Int} {xs : List Sl} {ts : List Ca} {now : Int} (hA : fallA i s xs ts now = noSv) (hr : r = .returned (.agg #[.int .i64 0, .int .i64 0, .slice none 0 0, .slice none 0 0])) (hb : Below w.heap.size w w') : SvRet w.heap.size w w' (fallA i s xs ts now) r := by
  rw [hA]
  exact ⟨none, 0, none, 0, hr, World.ownsRow_nil _ _ _ _, OwnN.zero _ _ _ _, hb⟩

end Go.Proofs.YtghajmfjekfdpaaDoor
