/-
  The laws' own ways with one who gives tickets: a copy, whether two are the same, how long, marks.
-/
import Derived.Test.YtgbhgfeadecbgaaKdcMath
import Derived.Test.YtgbhgfeadecbgaaSealMarks
import Derived.Test.YtgbhgfeadecbgaaKEq
import Derived.Test.YtgbhgfeadecbgaaKSzS
namespace Go.Proofs.Ytgbhgfeadecbgaa
open Go.RowKit

end Go.Proofs.Ytgbhgfeadecbgaa
