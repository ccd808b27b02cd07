/-
  The laws' own copies of rows of wants, calls and creds, and whether two rows are the same, and how long they are: nothing that was in memory is turned.
-/
import Derived.Test.YtimmfabaogeanaaDoorClRow
import Derived.Test.YtimmfabaogeanaaDoorSealTo
namespace Go.Proofs.YtimmfabaogeanaaDoor
open Go.RowKit
attribute [local go_sem ↓] Go.wp_at_zero Go.wp_at_succ

end Go.Proofs.YtimmfabaogeanaaDoor
