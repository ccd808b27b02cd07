/-
  The laws on ClientTgs and ClientAp.
-/
import Derived.Test.YthkngdbhddedpaaExClientTgsLaw
import Derived.Test.YthkngdbhddedpaaExClientApLaw
import Derived.Test.YthkngdbhddedpaaClApI
import Derived.Test.YthkngdbhddedpaaClTgsO
namespace Go.Proofs.Ythkngdbhddedpaa
open Go.RowKit

theorem tgsA_len (i n : Int) (ws : List Wn) (cs : List Cd) (ss ms : List Ca) (serv now : Int) (h1 : ws.length ≤ 1048576) (h2 : cs.length ≤ 1048576) (h3 : ss.length ≤ 1048576) (h4 : ms.length ≤ 1048576) : (tgsA i n ws cs ss ms serv now).W.length ≤ 2000000 ∧ (tgsA i n ws cs ss ms serv now).C.length ≤ 2000000 ∧ (tgsA i n ws cs ss ms serv now).S.length ≤ 2000000 ∧ (tgsA i n ws cs ss ms serv now).M.length ≤ 2000000 ∧ (tgsA i n ws cs ss ms serv now).Y.length ≤ 2000000 := by
  unfold tgsA keepA noA
  split
  · split
    · exact ⟨by simp; omega, by simp; omega, by simp; omega, by simp; omega, by simp⟩
    · exact ⟨by simp; omega, by simp; omega, by simp; omega, by simp; omega, by simp⟩
  · simp
theorem lawClientTgs (i n : Int) (a1 a2 a3 a4 : Option Addr) (c1 c2 c3 c4 : Nat) (ws : List Wn) (cs : List Cd) (ss ms : List Ca) (serv now : Int) (w : World) (h : CRows w a1 a2 a3 a4 ws cs ss ms) (hm1 : ws.length ≤ 9223372036854775807) (hm2 : cs.length ≤ 9223372036854775807) (hm3 : ss.length ≤ 9223372036854775807) (hm4 : ms.length ≤ 9223372036854775807) :
    Calls Try.prog 3 #[.agg #[.int .i64 i, .int .i64 n, .slice a1 ws.length c1, .slice a2 cs.length c2, .slice a3 ss.length c3, .slice a4 ms.length c4], .int .i64 serv, .int .i64 now] w fun r w' => r = .returned (.bool true) ∧ Below w.heap.size w w' :=
  lawClientTgs_gen i n a1 a2 a3 a4 c1 c2 c3 c4 ws cs ss ms serv now w h hm1 hm2 hm3 hm4 _ _ _ _ _ _ _ _ _ _ _ _ (tgsA_len i n ws cs ss ms serv now)
    (fun _ _ _ _ w1 r x1 x2 x3 x4 => specClientTgs_any i n _ _ _ _ _ _ _ _ ws cs ss ms serv now w1 r (Nat.le_refl _) x1 x2 x3 x4)
    (fun _ _ _ _ w1 r x1 x2 x3 x4 => implClientTgs_any i n _ _ _ _ _ _ _ _ ws cs ss ms serv now w1 r (Nat.le_refl _) x1 x2 x3 x4)
theorem apA_len (i n : Int) (ws : List Wn) (cs : List Cd) (ss ms : List Ca) (serv now : Int) (h1 : ws.length ≤ 1048576) (h2 : cs.length ≤ 1048576) (h3 : ss.length ≤ 1048576) (h4 : ms.length ≤ 1048576) : (apA i n ws cs ss ms serv now).W.length ≤ 2000000 ∧ (apA i n ws cs ss ms serv now).C.length ≤ 2000000 ∧ (apA i n ws cs ss ms serv now).S.length ≤ 2000000 ∧ (apA i n ws cs ss ms serv now).M.length ≤ 2000000 ∧ (apA i n ws cs ss ms serv now).Y.length ≤ 2000000 := by
  unfold apA keepA noA
  split
  · split
    · exact ⟨by simp; omega, by simp; omega, by simp; omega, by simp; omega, by simp⟩
    · exact ⟨by simp; omega, by simp; omega, by simp; omega, by simp; omega, by simp⟩
  · simp
theorem lawClientAp (i n : Int) (a1 a2 a3 a4 : Option Addr) (c1 c2 c3 c4 : Nat) (ws : List Wn) (cs : List Cd) (ss ms : List Ca) (serv now : Int) (w : World) (h : CRows w a1 a2 a3 a4 ws cs ss ms) (hm1 : ws.length ≤ 9223372036854775807) (hm2 : cs.length ≤ 9223372036854775807) (hm3 : ss.length ≤ 9223372036854775807) (hm4 : ms.length ≤ 9223372036854775807) (hwf : (Lit.int .i64 serv).wf = true) :
    Calls Try.prog 4 #[.agg #[.int .i64 i, .int .i64 n, .slice a1 ws.length c1, .slice a2 cs.length c2, .slice a3 ss.length c3, .slice a4 ms.length c4], .int .i64 serv, .int .i64 now] w fun r w' => r = .returned (.bool true) ∧ Below w.heap.size w w' :=
  lawClientAp_gen i n a1 a2 a3 a4 c1 c2 c3 c4 ws cs ss ms serv now w h hm1 hm2 hm3 hm4 _ _ _ _ _ _ _ _ _ _ _ _ (apA_len i n ws cs ss ms serv now)
    (fun _ _ _ _ w1 r x1 x2 x3 x4 => specClientAp_any i n _ _ _ _ _ _ _ _ ws cs ss ms serv now w1 r (Nat.le_refl _) x1 x2 x3 x4)
    (fun _ _ _ _ w1 r x1 x2 x3 x4 => implClientAp_any i n _ _ _ _ _ _ _ _ ws cs ss ms serv now w1 r (Nat.le_refl _) x1 x2 x3 x4 hwf)
theorem okWide_wf {P : Program} {w : World} {r : Reach} {base : Nat} {t : TypeId} {k : IntKind} {n : Int} (ht : P.underlying t = some (.int k)) (h : Value.okWide P w r base t (.int k n)) : (Lit.int k n).wf = true := by
  simp only [Value.okWide, ht, Cell.okWide] at h
  simp only [Cell.ok, ht] at h
  simpa [Lit.wf, IntKind.has] using h

end Go.Proofs.Ythkngdbhddedpaa
