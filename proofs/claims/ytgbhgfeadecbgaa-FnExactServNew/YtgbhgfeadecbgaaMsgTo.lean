/-
  The laws' own copies of words: the same numbers, and a row of the same seals of its own; two words are held against each other field by field; nothing that was in memory is turned.
-/
import Derived.Test.YtgbhgfeadecbgaaMsgRow
import Derived.Test.YtgbhgfeadecbgaaKTo
namespace Go.Proofs.Ytgbhgfeadecbgaa
open Go.RowKit
attribute [local go_sem ↓] Go.wp_at_zero Go.wp_at_succ

end Go.Proofs.Ytgbhgfeadecbgaa
