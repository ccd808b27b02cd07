/-
  The laws' own copy of a seal: the same numbers; nothing that was in memory is turned.
-/
import Derived.Test.YtimmfabaogeanaaDoorSealImpl
namespace Go.Proofs.YtimmfabaogeanaaDoor
open Go.RowKit

end Go.Proofs.YtimmfabaogeanaaDoor
