/-
  The laws' own copies of words, with their rows of seals as such that may be written; marks in a word's row.
-/
import Derived.Test.YtgbhgfeadecbgaaMsgTo
import Derived.Test.YtgbhgfeadecbgaaSealMarks
namespace Go.Proofs.Ytgbhgfeadecbgaa
open Go.RowKit
attribute [local go_sem ↓] Go.wp_at_zero Go.wp_at_succ

end Go.Proofs.Ytgbhgfeadecbgaa
