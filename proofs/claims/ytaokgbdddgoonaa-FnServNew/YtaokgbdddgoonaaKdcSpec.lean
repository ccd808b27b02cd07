/-
  The specification's ways of what is remembered: nothing that was in memory is turned.
-/
import Derived.Test.YtaokgbdddgoonaaKdcMath
import Derived.Test.YtaokgbdddgoonaaAmong
import Derived.Test.YtaokgbdddgoonaaSOwn
import Derived.Test.YtaokgbdddgoonaaKSkip
namespace Go.Proofs.Ytaokgbdddgoonaa
open Go.RowKit
attribute [local go_sem ↓] Go.wp_at_zero Go.wp_at_succ

theorem SRow.tk {w : World} {a : Option Addr} {xs : List Sl} {j : Nat} (h : SRow w a xs) : SRow w a (xs.take j) := by
  rcases h with h | ⟨b, off, ha, hl, h⟩
  · exact Or.inl (by rw [h]; simp)
  · refine Or.inr ⟨b, off, ha, hl, fun i s hs => h i s ?_⟩
    rw [List.getElem?_take] at hs
    split at hs
    · exact hs
    · cases hs

end Go.Proofs.Ytaokgbdddgoonaa
