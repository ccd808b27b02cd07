/-
  How long a word is, as the laws count.
-/
import Derived.Test.YtgbhgfeadecbgaaKSzS
namespace Go.Proofs.Ytgbhgfeadecbgaa
open Go.RowKit

end Go.Proofs.Ytgbhgfeadecbgaa
