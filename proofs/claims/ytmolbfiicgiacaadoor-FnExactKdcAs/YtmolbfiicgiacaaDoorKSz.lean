/-
  How long a word is, as the laws count.
-/
import Derived.Test.YtmolbfiicgiacaaDoorKSzS
namespace Go.Proofs.YtmolbfiicgiacaaDoor
open Go.RowKit

set_option maxHeartbeats 400000 in
theorem szMsg_any (m n k f : Int) (a : Option Addr) (len cap : Nat) (q : Int) (w : World) (hq : 0 ≤ q) (hq2 : q ≤ 1048576) (hm : len ≤ 9223372036854775807) :
    Calls Tryd.prog 6 #[.agg #[.int .i64 m, .int .i64 n, .int .i64 k, .int .i64 f, .slice a len cap], .int .i64 q] w fun r w' => r = .returned (.int .i64 (leftI q len)) ∧ Below w.heap.size w w' := by
  have hb : Below w.heap.size w (w.alloc (.cells #[.int .i64 m, .int .i64 n, .int .i64 k, .int .i64 f, .slice a len cap] 26)) := (Below.refl _ _).alloc (Nat.le_refl _) _
  go_enter Tryd.func6, Tryd.ntmps6
  go_wp2_with fail
  refine (szSealS_any a len cap q _ hq hq2 hm).mono ?_
  rintro r w2 ⟨rfl, hw⟩
  rw [hw]
  clear hw
  obtain ⟨L, hL⟩ : ∃ L, leftI q len = L := ⟨_, rfl⟩
  rw [hL]
  by_cases hn : L < 0
  · have hl1 : L = -1 := by
      unfold leftI at hL
      split at hL <;> omega
    subst hl1
    go_wp2_with fail
    go_ret
    exact ⟨by rw [hL]; rfl, hb⟩
  · go_wp2_with fail
    go_ret
    exact ⟨by rw [hL]; rfl, hb⟩

end Go.Proofs.YtmolbfiicgiacaaDoor
