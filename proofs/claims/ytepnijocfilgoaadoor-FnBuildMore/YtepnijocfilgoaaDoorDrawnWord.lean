/-
  Keys, seals and a word that were drawn, the word in a variable of the call's own: it all stays while memory only grows.
-/
import Derived.Test.YtepnijocfilgoaaDoorKnowBuildI
import Derived.Test.YtepnijocfilgoaaDoorDrawKnowBuild
namespace Go.Proofs.YtepnijocfilgoaaDoor
open Go.RowKit

/-- What was drawn, and the word in a variable of the call's own. -/
structure Dw (W : World) (a1 : Option Addr) (ks : List Int) (a2 : Option Addr) (xs : List Sl) (a3 : Option Addr) (ys : List Sl) (bm : Nat) (m n k f : Int) (v : Value) (w : World) : Prop where
  dr : Drawn W a1 ks a2 xs w
  row : SRow w a3 ys
  mc : Mw w bm m n k f v
  lt : bm < w.heap.size
  fo : Forms w
theorem Dw.later {W w w' : World} {a1 a2 a3 : Option Addr} {ks : List Int} {xs ys : List Sl} {bm : Nat} {m n k f : Int} {v : Value} (h : Dw W a1 ks a2 xs a3 ys bm m n k f v w) (hb : Below w.heap.size w w') : Dw W a1 ks a2 xs a3 ys bm m n k f v w' := by
  obtain ⟨hc, _⟩ := bcell hb
  exact ⟨h.dr.later hb, h.row.later hb, ⟨(hc _ _ h.lt).trans h.mc.c0, (hc _ _ h.lt).trans h.mc.c1, (hc _ _ h.lt).trans h.mc.c2, (hc _ _ h.lt).trans h.mc.c3, (hc _ _ h.lt).trans h.mc.c4⟩, Nat.lt_of_lt_of_le h.lt hb.size, h.fo.later hb⟩
theorem Dw.of {W w : World} {a1 a2 a3 : Option Addr} {ks : List Int} {xs ys : List Sl} {m n k f : Int} {c3 : Nat} (d : Drawn W a1 ks a2 xs w) (r : SRow w a3 ys) (hf : Forms W) :
    Dw W a1 ks a2 xs a3 ys w.heap.size m n k f (.slice a3 ys.length c3) (w.alloc (.cells #[.int .i64 m, .int .i64 n, .int .i64 k, .int .i64 f, .slice a3 ys.length c3] 33)) :=
  ⟨d.later (Below.alloc_ _ _), r.later (Below.alloc_ _ _), ⟨by go_simp, by go_simp, by go_simp, by go_simp, by go_simp⟩, by simp, (hf.later d.below).later (Below.alloc_ _ _)⟩

end Go.Proofs.YtepnijocfilgoaaDoor
