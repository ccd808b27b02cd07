/-
  A service that nobody called: the specification's, the program's; the law on it, walked.
-/
import Derived.Test.YtaokgbdddgoonaaServTo
import Derived.Test.YtaokgbdddgoonaaExLaw
import Derived.Test.YtaokgbdddgoonaaSpServ
namespace Go.Proofs.Ytaokgbdddgoonaa
open Go.RowKit
attribute [local go_sem ↓] Go.wp_at_zero Go.wp_at_succ

/-- Who a new service is, and since when. -/
def svId (id : Int) : Int := if inB id 4 5 = true then id else 0
def svIn (id : Int) : Int := if inB id 4 5 = true then -1 else 0
set_option maxHeartbeats 1000000 in
set_option maxRecDepth 100000 in
theorem specServNew_any (id : Int) (w : World) : Calls Try.prog 6 #[.int .i64 id] w fun r w' => (∃ a1 a2, r = .returned (.tuple #[.agg #[.int .i64 (svId id), .int .i64 (svIn id), .slice a1 0 0, .slice a2 0 0], .bool (inB id 4 5)])) ∧ Below w.heap.size w w' := by
  go_enter Try.func6, Try.ntmps6
  go_wp2_with fail
  refine (l1Serv_any' _ _).mono ?_
  rintro r w2 ⟨rfl, rfl⟩
  cases hin : inB id 4 5
  · have E : Hid (svId id = 0 ∧ svIn id = 0) := Hid.mk' (by simp [svId, svIn, hin])
    go_wp2_with fail
    refine bodyPost_ret (v := .tuple #[.agg #[.int .i64 0, .int .i64 0, .slice none 0 0, .slice none 0 0], .bool false]) (by simp [results, Try.results6, go_sem]) rfl ⟨⟨none, none, by rw [E.out.1, E.out.2, hin]⟩, ?_⟩
    exact Below.alloc_ _ _
  · have E : Hid (svId id = id ∧ svIn id = -1) := Hid.mk' (by simp [svId, svIn, hin])
    go_wp2_with fail
    refine bodyPost_ret (v := .tuple #[.agg #[.int .i64 id, .int .i64 (-1), .slice (some ⟨w.heap.size + 1, 0, none⟩) 0 0, .slice (some ⟨w.heap.size + 1 + 1, 0, none⟩) 0 0], .bool true]) (by simp [results, Try.results6, go_sem]) rfl ⟨⟨_, _, by rw [E.out.1, E.out.2, hin]⟩, ?_⟩
    exact (((Below.refl _ _).alloc (Nat.le_refl _) _).alloc (by simp) _).alloc (by simp; omega) _
set_option maxHeartbeats 1000000 in
theorem implServNew_any (id : Int) (w : World) : Calls Try.prog 7 #[.int .i64 id] w fun r w' => r = .returned (.tuple #[.agg #[.int .i64 (svId id), .int .i64 (svIn id), .slice none 0 0, .slice none 0 0], .bool (inB id 4 5)]) ∧ Below w.heap.size w w' := by
  go_enter Try.func7, Try.ntmps7
  go_wp2_with fail
  refine (isServ_any _ _).mono ?_
  rintro r w2 ⟨rfl, rfl⟩
  cases hin : inB id 4 5
  · have E : Hid (svId id = 0 ∧ svIn id = 0) := Hid.mk' (by simp [svId, svIn, hin])
    go_wp2_with fail
    refine bodyPost_ret (v := .tuple #[.agg #[.int .i64 0, .int .i64 0, .slice none 0 0, .slice none 0 0], .bool false]) (by simp [results, Try.results7, go_sem]) rfl ⟨by rw [E.out.1, E.out.2, hin], ?_⟩
    exact Below.alloc_ _ _
  · have E : Hid (svId id = id ∧ svIn id = -1) := Hid.mk' (by simp [svId, svIn, hin])
    go_wp2_with fail
    refine bodyPost_ret (v := .tuple #[.agg #[.int .i64 id, .int .i64 (-1), .slice none 0 0, .slice none 0 0], .bool true]) (by simp [results, Try.results7, go_sem]) rfl ⟨by rw [E.out.1, E.out.2, hin], ?_⟩
    exact Below.alloc_ _ _

end Go.Proofs.Ytaokgbdddgoonaa
