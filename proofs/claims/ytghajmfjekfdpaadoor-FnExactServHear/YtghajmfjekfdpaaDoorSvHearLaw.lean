/-
  The law on ServHear: it returns true at all that is handed over, however long; nothing that was in memory is turned.
-/
import Derived.Test.YtghajmfjekfdpaaDoorExServHearLaw
import Derived.Test.YtghajmfjekfdpaaDoorSvHearW
import Derived.Test.YtghajmfjekfdpaaDoorSvHearI
namespace Go.Proofs.YtghajmfjekfdpaaDoor
open Go.RowKit

theorem giveH_len (i s : Int) (xs : List Sl) (ts : List Ca) (t u : Sl) (now : Int) : (giveH i s xs ts t u now).X.length ≤ xs.length + 1 ∧ (giveH i s xs ts t u now).C.length ≤ ts.length + 1 ∧ (giveH i s xs ts t u now).Y.length ≤ 2 := by
  have h := withL_len now xs u
  unfold giveH
  split
  · split
    · exact ⟨h, by simp, by simp⟩
    · exact ⟨h, by simp [keepH], by simp [keepH]⟩
  · exact ⟨by simp [keepH], by simp [keepH], by simp [keepH]⟩
theorem askH_len (i s : Int) (xs : List Sl) (ts : List Ca) (m cl sv nc : Int) (ys : List Sl) (now : Int) : (askH i s xs ts m cl sv nc ys now).X.length ≤ xs.length + 1 ∧ (askH i s xs ts m cl sv nc ys now).C.length ≤ ts.length + 1 ∧ (askH i s xs ts m cl sv nc ys now).Y.length ≤ 2 := by
  unfold askH
  split
  · split
    · exact giveH_len ..
    · exact ⟨by simp [keepH], by simp [keepH], by simp [keepH]⟩
  · exact ⟨by simp [keepH], by simp [keepH], by simp [keepH]⟩
theorem hearA_len (i s : Int) (xs : List Sl) (ts : List Ca) (m cl sv nc : Int) (ys : List Sl) (now : Int) : (hearA i s xs ts m cl sv nc ys now).X.length ≤ xs.length + 1 ∧ (hearA i s xs ts m cl sv nc ys now).C.length ≤ ts.length + 1 ∧ (hearA i s xs ts m cl sv nc ys now).Y.length ≤ 2 := by
  unfold hearA
  split
  · exact askH_len ..
  · exact ⟨by simp [noH], by simp [noH], by simp [noH]⟩

set_option maxHeartbeats 1000000 in
theorem lawServHear_any (i s9 : Int) (a1 a2 : Option Addr) (c1 c2 : Nat) (xs : List Sl) (ts : List Ca) (m cl sv nc : Int) (b : Option Addr) (cb : Nat) (ys : List Sl) (now : Int) (w : World) (h1 : SRow w a1 xs) (h2 : NRow celC w a2 ts) (h3 : SRow w b ys) (hf : Forms w) (hm1 : xs.length ≤ 9223372036854775807) (hm2 : ts.length ≤ 9223372036854775807) (hm3 : ys.length ≤ 9223372036854775807) :
    Calls Tryd.prog 4 #[.agg #[.int .i64 i, .int .i64 s9, .slice a1 xs.length c1, .slice a2 ts.length c2], .agg #[.int .i64 m, .int .i64 cl, .int .i64 sv, .int .i64 nc, .slice b ys.length cb], .int .i64 now] w fun r w' => r = .returned (.bool true) ∧ Below w.heap.size w w' := by
  have l1 := hearA_len i s9 xs ts m cl sv nc ys now
  obtain ⟨A, hA⟩ : ∃ A, A = hearA i s9 xs ts m cl sv nc ys now := ⟨_, rfl⟩
  rw [← hA] at l1
  refine lawServHear_gen i s9 m cl sv nc a1 a2 b c1 c2 cb xs ts ys now w h1 h2 h3 hf hm1 hm2 hm3 A.i A.s A.X A.C A.m A.c A.v A.f A.Y A.T (fun x1 x2 x3 => ⟨by omega, by omega, by omega⟩) ?_ ?_
  · refine Hid.mk' ?_
    intro g1 g2 g3 w1 r1 r2 r3 _ x1 x2 x3
    refine (specServHear_any i s9 _ _ xs.length ts.length xs ts m cl sv nc _ ys.length ys now w1 r1 r2 r3 (Nat.le_refl _) x1 x2 x3).mono ?_
    intro r w' hr
    rw [← hA] at hr
    obtain ⟨⟨b1, e1, b2, e2, b3, e3, B2, rfl, o1, o2, o3, hB, hlo⟩, b9⟩ := hr
    exact ⟨b1, e1, b2, e2, b3, e3, B2, rfl, o1, o2, o3, hB, hlo, b9⟩
  · refine Hid.mk' ?_
    intro g1 g2 g3 w1 r1 r2 r3 f1 x1 x2 x3
    refine (implServHear_any i s9 _ _ xs.length ts.length xs ts m cl sv nc _ ys.length ys now w1 r1 r2 r3 (Nat.le_refl _) x1 x2 x3 f1).mono ?_
    intro r w' hr
    rw [← hA] at hr
    obtain ⟨⟨b1, e1, b2, e2, b3, e3, B2, rfl, o1, o2, o3, hB, hlo⟩, b9⟩ := hr
    exact ⟨b1, e1, b2, e2, b3, e3, B2, rfl, o1, o2, o3, hB, hlo, b9⟩

end Go.Proofs.YtghajmfjekfdpaaDoor
