/-
  The laws' own count of what they are handed.
-/
import Derived.Test.YtimmfabaogeanaaDoorKRow
namespace Go.Proofs.YtimmfabaogeanaaDoor
open Go.RowKit

/-- What is left behind so many. -/
def leftI (q : Int) (len : Nat) : Int := if q - len < 0 then -1 else q - len
end Go.Proofs.YtimmfabaogeanaaDoor
