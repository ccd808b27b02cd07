/-
  Two words that are the same, held against each other field by field, and how long a word is: nothing that was in memory is turned.
-/
import Derived.Test.YtgbhgfeadecbgaaMsgTo
import Derived.Test.YtgbhgfeadecbgaaKEq
namespace Go.Proofs.Ytgbhgfeadecbgaa
open Go.RowKit
attribute [local go_sem ↓] Go.wp_at_zero Go.wp_at_succ

end Go.Proofs.Ytgbhgfeadecbgaa
