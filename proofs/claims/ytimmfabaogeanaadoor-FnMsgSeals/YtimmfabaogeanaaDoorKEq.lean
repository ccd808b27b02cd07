/-
  Two rows of the same seals, held against each other seal by seal, and how long a row is: nothing that was in memory is turned.
-/
import Derived.Test.YtimmfabaogeanaaDoorKTo
namespace Go.Proofs.YtimmfabaogeanaaDoor
open Go.RowKit
attribute [local go_sem ↓] Go.wp_at_zero Go.wp_at_succ

end Go.Proofs.YtimmfabaogeanaaDoor
