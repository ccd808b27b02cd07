/-
  Rows of seals in memory, and whether all of them are ok: the specification's l2Seals answers as the plain mathematics says; nothing that was in memory is turned.
-/
import Derived.Test.YtgbhgfeadecbgaaKRow
import Derived.Test.YtgbhgfeadecbgaaSealOkd
namespace Go.Proofs.Ytgbhgfeadecbgaa
open Go.RowKit

/-- A word's five cells lie at a block's begin. -/
structure MsgAt (w : World) (b : Nat) (m n k f : Int) (v : Value) : Prop where
  c0 : w.cell? ⟨b, 0, none⟩ = some (.int .i64 m)
  c1 : w.cell? ⟨b, 1, none⟩ = some (.int .i64 n)
  c2 : w.cell? ⟨b, 2, none⟩ = some (.int .i64 k)
  c3 : w.cell? ⟨b, 3, none⟩ = some (.int .i64 f)
  c4 : w.cell? ⟨b, 4, none⟩ = some v
theorem MsgAt.later {w w' : World} {b : Nat} {m n k f : Int} {v : Value} (h : MsgAt w b m n k f v) {B : Nat} (hb : Below B w w') (hl : b < B) : MsgAt w' b m n k f v :=
  ⟨(hb.cell (p := ⟨b, 0, none⟩) hl).trans h.c0, (hb.cell (p := ⟨b, 1, none⟩) hl).trans h.c1, (hb.cell (p := ⟨b, 2, none⟩) hl).trans h.c2, (hb.cell (p := ⟨b, 3, none⟩) hl).trans h.c3, (hb.cell (p := ⟨b, 4, none⟩) hl).trans h.c4⟩

end Go.Proofs.Ytgbhgfeadecbgaa
