/-
  What the laws on CacheWith have in memory, once both have answered: what was drawn, and two rows that are the same.
-/
import Derived.Test.YtnaoopkahcadmaaDrawCache
import Derived.Test.YtnaoopkahcadmaaKdcWith
import Derived.Test.YtnaoopkahcadmaaKdcSpecW
import Derived.Test.YtnaoopkahcadmaaKdcMath2
import Derived.Test.YtnaoopkahcadmaaSealLb
import Derived.Test.YtnaoopkahcadmaaLbAmong
namespace Go.Proofs.Ytnaoopkahcadmaa
open Go.RowKit

structure Hd (w : World) (a1 : Option Addr) (c1 : Nat) (xs : List Sl) (ab : Nat) (s : Sl) (ax : Option Addr) (cx : Nat) (aw : Option Addr) (ys : List Sl) (w' : World) : Prop where
  cache : SRow w' a1 xs
  capc : xs.length ≤ c1
  len : xs.length ≤ 40
  x : SRow w' ax ys
  capx : ys.length ≤ cx
  want : SRow w' aw ys
  auth : SBlk w' ab s
  below : Below w.heap.size w w'
theorem one_row {w : World} {b : Nat} {s : Sl} (h : SBlk w b s) : SRow w (some ⟨b, 0, none⟩) [s] := by
  refine Or.inr ⟨b, 0, rfl, h.lt, fun i u hu => ?_⟩
  match i, hu with
  | 0, hu => simp at hu; subst hu; exact h.cells.1
theorem Hd.later {w w1 w2 : World} {a1 ax aw : Option Addr} {c1 cx ab : Nat} {xs ys : List Sl} {s : Sl} (h : Hd w a1 c1 xs ab s ax cx aw ys w1) (hb : Below w1.heap.size w1 w2) : Hd w a1 c1 xs ab s ax cx aw ys w2 :=
  ⟨h.cache.later hb, h.capc, h.len, h.x.later hb, h.capx, h.want.later hb, h.auth.later hb, h.below.trans (hb.mono h.below.size)⟩

end Go.Proofs.Ytnaoopkahcadmaa
