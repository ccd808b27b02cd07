/-
  The laws' own marks in rows of wants, calls and creds.
-/
import Derived.Test.YtimmfabaogeanaaDoorClRow
namespace Go.Proofs.YtimmfabaogeanaaDoor
open Go.RowKit
attribute [local go_sem ↓] Go.wp_at_zero Go.wp_at_succ

end Go.Proofs.YtimmfabaogeanaaDoor
