/-
  The laws' own copy of a seal: the same numbers; nothing that was in memory is turned.
-/
import Derived.Test.YtaokgbdddgoonaaSealImpl
namespace Go.Proofs.Ytaokgbdddgoonaa
open Go.RowKit

end Go.Proofs.Ytaokgbdddgoonaa
