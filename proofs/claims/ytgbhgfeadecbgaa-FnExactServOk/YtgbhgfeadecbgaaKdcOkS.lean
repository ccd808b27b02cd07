/-
  The specification's KdcOk: as the plain mathematics says; nothing that was in memory is turned.
-/
import Derived.Test.YtgbhgfeadecbgaaKdcSpec
namespace Go.Proofs.Ytgbhgfeadecbgaa
open Go.RowKit

end Go.Proofs.Ytgbhgfeadecbgaa
