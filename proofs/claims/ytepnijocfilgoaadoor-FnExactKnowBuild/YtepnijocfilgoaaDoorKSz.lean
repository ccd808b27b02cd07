/-
  The laws' own count of what they are handed.
-/
import Derived.Test.YtepnijocfilgoaaDoorKRow
namespace Go.Proofs.YtepnijocfilgoaaDoor
open Go.RowKit

/-- What is left behind so many. -/
def leftI (q : Int) (len : Nat) : Int := if q - len < 0 then -1 else q - len
set_option maxHeartbeats 400000 in
theorem szSealS_any (a : Option Addr) (len cap : Nat) (q : Int) (w : World) (hq : 0 ≤ q) (hq2 : q ≤ 1048576) (hm : len ≤ 9223372036854775807) :
    Calls Tryd.prog 8 #[.slice a len cap, .int .i64 q] w fun r w' => r = .returned (.int .i64 (leftI q len)) ∧ w' = w := by
  have hw : IntKind.i64.wrap (q - (len : Int)) = q - (len : Int) := wrapM (by omega) (by omega)
  unfold leftI
  by_cases hn : q - (len : Int) < 0
  · rw [if_pos hn]
    go_enter Tryd.func8, Tryd.ntmps8
    go_wp2_with fail
    go_ret
    exact ⟨rfl, rfl⟩
  · rw [if_neg hn]
    go_enter Tryd.func8, Tryd.ntmps8
    go_wp2_with fail
    go_ret
    exact ⟨rfl, rfl⟩
set_option maxHeartbeats 400000 in
theorem szMsg_any (m n k f : Int) (a : Option Addr) (len cap : Nat) (q : Int) (w : World) (hq : 0 ≤ q) (hq2 : q ≤ 1048576) (hm : len ≤ 9223372036854775807) :
    Calls Tryd.prog 9 #[.agg #[.int .i64 m, .int .i64 n, .int .i64 k, .int .i64 f, .slice a len cap], .int .i64 q] w fun r w' => r = .returned (.int .i64 (leftI q len)) ∧ Below w.heap.size w w' := by
  have hb : Below w.heap.size w (w.alloc (.cells #[.int .i64 m, .int .i64 n, .int .i64 k, .int .i64 f, .slice a len cap] 25)) := (Below.refl _ _).alloc (Nat.le_refl _) _
  go_enter Tryd.func9, Tryd.ntmps9
  go_wp2_with fail
  refine (szSealS_any a len cap q _ hq hq2 hm).mono ?_
  rintro r w2 ⟨rfl, hw⟩
  rw [hw]
  clear hw
  obtain ⟨L, hL⟩ : ∃ L, leftI q len = L := ⟨_, rfl⟩
  rw [hL]
  by_cases hn : L < 0
  · have hl1 : L = -1 := by
      unfold leftI at hL
      split at hL <;> omega
    subst hl1
    go_wp2_with fail
    go_ret
    exact ⟨by rw [hL]; rfl, hb⟩
  · go_wp2_with fail
    go_ret
    exact ⟨by rw [hL]; rfl, hb⟩

end Go.Proofs.YtepnijocfilgoaaDoor
