/-
  The law on ServOk, walked.
-/
import Derived.Test.YtgbhgfeadecbgaaExServOkLaw
import Derived.Test.YtgbhgfeadecbgaaSvOk
namespace Go.Proofs.Ytgbhgfeadecbgaa
open Go.RowKit

theorem lawServOk (i s : Int) (a1 a2 : Option Addr) (c1 c2 : Nat) (xs : List Sl) (ts : List Ca) (w : World) (h1 : SRow w a1 xs) (h2 : NRow celC w a2 ts) (hm1 : xs.length ≤ 9223372036854775807) (hm2 : ts.length ≤ 9223372036854775807) :
    Calls Try.prog 4 #[.agg #[.int .i64 i, .int .i64 s, .slice a1 xs.length c1, .slice a2 ts.length c2]] w fun r w' => r = .returned (.bool true) ∧ Below w.heap.size w w' :=
  lawServOk_gen i s a1 a2 c1 c2 xs ts w h1 h2 hm1 hm2 (servB i s xs ts)
    (fun _ _ w1 r1 r2 x1 x2 => specServOk_any i s _ _ _ _ xs ts w1 r1 r2 (Nat.le_refl _) x1 x2)
    (fun _ _ w1 r1 r2 _ x2 => implServOk_any i s _ _ _ _ xs ts w1 r1 r2 (Nat.le_refl _) x2)

end Go.Proofs.Ytgbhgfeadecbgaa
