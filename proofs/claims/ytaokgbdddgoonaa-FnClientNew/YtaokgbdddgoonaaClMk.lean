/-
  The laws' own marks in rows of wants, calls and creds.
-/
import Derived.Test.YtaokgbdddgoonaaClRow
namespace Go.Proofs.Ytaokgbdddgoonaa
open Go.RowKit
attribute [local go_sem ↓] Go.wp_at_zero Go.wp_at_succ

end Go.Proofs.Ytaokgbdddgoonaa
