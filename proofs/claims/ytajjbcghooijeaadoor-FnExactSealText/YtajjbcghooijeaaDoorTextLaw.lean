/-
  The law on SealText, walked: it returns true at every seal, and nothing that was in memory is turned, where the library's table of tens is as its text lays it.
-/
import Derived.Test.YtajjbcghooijeaaDoorTextAny
import Derived.Test.YtajjbcghooijeaaDoorSealImpl
namespace Go.Proofs.YtajjbcghooijeaaDoor
open Go.RowKit

set_option maxHeartbeats 400000 in
theorem lawText_any (k t a b c d e : Int) (w : World) (htab : Lib.TabIs Tryd.prog w "internal/strconv.uint64pow10" .u64 Lib.pow10Tab) :
    Calls Tryd.prog 5 #[.agg #[.int .i64 k, .int .i64 t, .int .i64 a, .int .i64 b, .int .i64 c, .int .i64 d, .int .i64 e]] w fun r w' => r = .returned (.bool true) ∧ Below w.heap.size w w' := by
  have HT : Hid (Lib.TabIs Tryd.prog w "internal/strconv.uint64pow10" .u64 Lib.pow10Tab) := htab
  clear htab
  go_enter Tryd.func5, Tryd.ntmps5
  go_wp2_with fail
  refine (toSeal_any _ _ _ _ _ _ _ _).mono ?_
  rintro r1 w1 ⟨rfl, hb1⟩
  obtain ⟨hc1, hf1⟩ := bcell hb1
  have hz1 : w.heap.size < w1.heap.size := by have := hb1.size; simp at this; omega
  have hB1 : Below w.heap.size w w1 := ((Below.refl _ _).alloc (Nat.le_refl _) _).trans (hb1.mono (by simp))
  go_wp2_with fail
  refine (specText_any _ _ _ _ _ _ _ _).mono ?_
  rintro r2 w2 ⟨rfl, hb2⟩
  obtain ⟨hc2, hf2⟩ := bcell hb2
  have hz2 : w.heap.size < w2.heap.size := by have := hb2.size; omega
  have hB2 : Below w.heap.size w w2 := hB1.trans (hb2.mono (by omega))
  go_wp2_with fail
  refine (toSeal_any _ _ _ _ _ _ _ _).mono ?_
  rintro r3 w3 ⟨rfl, hb3⟩
  have hB3 : Below w.heap.size w w3 := hB2.trans (hb3.mono (by omega))
  have hT3 : Hid (Lib.TabIs Tryd.prog w3 "internal/strconv.uint64pow10" .u64 Lib.pow10Tab) := Joins.tab_stays gPow HT.out hB3 (Nat.le_refl _)
  go_wp2_with fail
  refine (implText_any _ _ _ _ _ _ _ _ hT3.out).mono ?_
  rintro r4 w4 ⟨rfl, hb4⟩
  go_wp2_with fail
  go_ret
  exact ⟨rfl, hB3.trans (hb4.mono hB3.size)⟩

end Go.Proofs.YtajjbcghooijeaaDoor
