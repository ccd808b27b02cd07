/-
  The law on ClientAs.
-/
import Derived.Test.YthhdddcgkoaieaaExClientAsLaw
import Derived.Test.YthhdddcgkoaieaaClAsS
namespace Go.Proofs.Ythhdddcgkoaieaa
open Go.RowKit

theorem asA_len (i n : Int) (ws : List Wn) (cs : List Cd) (ss ms : List Ca) (h1 : ws.length ≤ 1048576) (h2 : cs.length ≤ 1048576) (h3 : ss.length ≤ 1048576) (h4 : ms.length ≤ 1048576) : (asA i n ws cs ss ms).W.length ≤ 2000000 ∧ (asA i n ws cs ss ms).C.length ≤ 2000000 ∧ (asA i n ws cs ss ms).S.length ≤ 2000000 ∧ (asA i n ws cs ss ms).M.length ≤ 2000000 ∧ (asA i n ws cs ss ms).Y.length ≤ 2000000 := by
  unfold asA keepA noA
  split
  · split
    · exact ⟨by simp; omega, by simp; omega, by simp; omega, by simp; omega, by simp⟩
    · exact ⟨by simp; omega, by simp; omega, by simp; omega, by simp; omega, by simp⟩
  · simp
theorem lawClientAs (i n : Int) (a1 a2 a3 a4 : Option Addr) (c1 c2 c3 c4 : Nat) (ws : List Wn) (cs : List Cd) (ss ms : List Ca) (w : World) (h : CRows w a1 a2 a3 a4 ws cs ss ms) (hm1 : ws.length ≤ 9223372036854775807) (hm2 : cs.length ≤ 9223372036854775807) (hm3 : ss.length ≤ 9223372036854775807) (hm4 : ms.length ≤ 9223372036854775807) :
    Calls Try.prog 3 #[.agg #[.int .i64 i, .int .i64 n, .slice a1 ws.length c1, .slice a2 cs.length c2, .slice a3 ss.length c3, .slice a4 ms.length c4]] w fun r w' => r = .returned (.bool true) ∧ Below w.heap.size w w' :=
  lawClientAs_gen i n a1 a2 a3 a4 c1 c2 c3 c4 ws cs ss ms w h hm1 hm2 hm3 hm4 _ _ _ _ _ _ _ _ _ _ _ _ (asA_len i n ws cs ss ms)
    (fun _ _ _ _ w1 r x1 x2 x3 x4 => specClientAs_any i n _ _ _ _ _ _ _ _ ws cs ss ms w1 r (Nat.le_refl _) x1 x2 x3 x4)
    (fun _ _ _ _ w1 r x1 x2 x3 x4 => implClientAs_any i n _ _ _ _ _ _ _ _ ws cs ss ms w1 r (Nat.le_refl _) x1 x2 x3 x4)

end Go.Proofs.Ythhdddcgkoaieaa
