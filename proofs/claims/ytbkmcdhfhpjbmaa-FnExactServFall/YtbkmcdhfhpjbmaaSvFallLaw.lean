/-
  The law on ServFall, walked.
-/
import Derived.Test.YtbkmcdhfhpjbmaaExServFallLaw
import Derived.Test.YtbkmcdhfhpjbmaaSvFallS
import Derived.Test.YtbkmcdhfhpjbmaaSvFallI
import Derived.Test.YtbkmcdhfhpjbmaaSvMem
namespace Go.Proofs.Ytbkmcdhfhpjbmaa
open Go.RowKit

theorem fallA_len (i s : Int) (xs : List Sl) (ts : List Ca) (now : Int) : (fallA i s xs ts now).X.length = 0 ∧ (fallA i s xs ts now).C.length ≤ ts.length := by
  unfold fallA
  split
  · exact ⟨rfl, Nat.le_refl _⟩
  · exact ⟨rfl, Nat.zero_le _⟩
theorem lawServFall (i s : Int) (a1 a2 : Option Addr) (c1 c2 : Nat) (xs : List Sl) (ts : List Ca) (now : Int) (w : World) (h1 : SRow w a1 xs) (h2 : NRow celC w a2 ts) (hm1 : xs.length ≤ 9223372036854775807) (hm2 : ts.length ≤ 9223372036854775807) :
    Calls Try.prog 3 #[.agg #[.int .i64 i, .int .i64 s, .slice a1 xs.length c1, .slice a2 ts.length c2], .int .i64 now] w fun r w' => r = .returned (.bool true) ∧ Below w.heap.size w w' :=
  lawServFall_gen i s a1 a2 c1 c2 xs ts now w h1 h2 hm1 hm2 (fallA i s xs ts now).i (fallA i s xs ts now).s (fallA i s xs ts now).X (fallA i s xs ts now).C
    (fun _ hx => by have := fallA_len i s xs ts now; omega)
    (Hid.mk' fun _ _ w1 r1 r2 x1 x2 => specServFall_any i s _ _ _ _ xs ts now w1 r1 r2 (Nat.le_refl _) x1 x2)
    (Hid.mk' fun _ _ w1 r1 r2 x1 x2 => implServFall_gen i s _ _ _ _ xs ts now w1 r1 r2 (Nat.le_refl _) x2
      (fun _ w2 r3 => (memoryOf_any _ _ xs x1 w2 r3).mono fun r w' ⟨pv, e, _, b⟩ => ⟨pv, e, trivial, b⟩))

end Go.Proofs.Ytbkmcdhfhpjbmaa
