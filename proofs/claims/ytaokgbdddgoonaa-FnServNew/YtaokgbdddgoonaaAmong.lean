/-
  Whether a seal is among seals, as the specification looks; nothing that was in memory is turned.
-/
import Derived.Test.YtaokgbdddgoonaaSlEq
namespace Go.Proofs.Ytaokgbdddgoonaa
open Go.RowKit
attribute [local go_sem ↓] Go.wp_at_zero Go.wp_at_succ

end Go.Proofs.Ytaokgbdddgoonaa
