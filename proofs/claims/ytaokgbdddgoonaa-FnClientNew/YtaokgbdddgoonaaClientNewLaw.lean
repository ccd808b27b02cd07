/-
  A user who has nothing: the specification's, the program's; the law on it, walked.
-/
import Derived.Test.YtaokgbdddgoonaaClientMk
namespace Go.Proofs.Ytaokgbdddgoonaa
open Go.RowKit
attribute [local go_sem ↓] Go.wp_at_zero Go.wp_at_succ

/-- Who a new user is. -/
def newId (id : Int) : Int := if inB id 1 3 = true then id else 0
set_option maxHeartbeats 1000000 in
set_option maxRecDepth 100000 in
theorem specClientNew_any (id : Int) (w : World) : Calls Try.prog 11 #[.int .i64 id] w fun r w' => (∃ a1 a2 a3 a4, r = .returned (.tuple #[.agg #[.int .i64 (newId id), .int .i64 0, .slice a1 0 0, .slice a2 0 0, .slice a3 0 0, .slice a4 0 0], .bool (inB id 1 3)])) ∧ Below w.heap.size w w' := by
  go_enter Try.func11, Try.ntmps11
  go_wp2_with fail
  refine (l1User_any _ _).mono ?_
  rintro r w2 ⟨rfl, rfl⟩
  cases hin : inB id 1 3
  · have E : Hid (newId id = 0) := Hid.mk' (by simp [newId, hin])
    go_wp2_with fail
    refine bodyPost_ret (v := .tuple #[.agg #[.int .i64 0, .int .i64 0, .slice none 0 0, .slice none 0 0, .slice none 0 0, .slice none 0 0], .bool false]) (by simp [results, Try.results11, go_sem]) rfl ⟨⟨none, none, none, none, by rw [E.out, hin]⟩, ?_⟩
    exact Below.alloc_ _ _
  · have E : Hid (newId id = id) := Hid.mk' (by simp [newId, hin])
    go_wp2_with fail
    refine bodyPost_ret (v := .tuple #[.agg #[.int .i64 id, .int .i64 0, .slice (some ⟨w.heap.size + 1, 0, none⟩) 0 0, .slice (some ⟨w.heap.size + 1 + 1, 0, none⟩) 0 0, .slice (some ⟨w.heap.size + 1 + 1 + 1, 0, none⟩) 0 0, .slice (some ⟨w.heap.size + 1 + 1 + 1 + 1, 0, none⟩) 0 0], .bool true]) (by simp [results, Try.results11, go_sem]) rfl ⟨⟨_, _, _, _, by rw [E.out, hin]⟩, ?_⟩
    exact (((((Below.refl _ _).alloc (Nat.le_refl _) _).alloc (by simp) _).alloc (by simp; omega) _).alloc (by simp; omega) _).alloc (by simp; omega) _
set_option maxHeartbeats 1000000 in
theorem implClientNew_any (id : Int) (w : World) : Calls Try.prog 12 #[.int .i64 id] w fun r w' => r = .returned (.tuple #[.agg #[.int .i64 (newId id), .int .i64 0, .slice none 0 0, .slice none 0 0, .slice none 0 0, .slice none 0 0], .bool (inB id 1 3)]) ∧ Below w.heap.size w w' := by
  go_enter Try.func12, Try.ntmps12
  go_wp2_with fail
  refine (isUser_any _ _).mono ?_
  rintro r w2 ⟨rfl, rfl⟩
  cases hin : inB id 1 3
  · have E : Hid (newId id = 0) := Hid.mk' (by simp [newId, hin])
    go_wp2_with fail
    refine bodyPost_ret (v := .tuple #[.agg #[.int .i64 0, .int .i64 0, .slice none 0 0, .slice none 0 0, .slice none 0 0, .slice none 0 0], .bool false]) (by simp [results, Try.results12, go_sem]) rfl ⟨by rw [E.out, hin], ?_⟩
    exact Below.alloc_ _ _
  · have E : Hid (newId id = id) := Hid.mk' (by simp [newId, hin])
    go_wp2_with fail
    refine bodyPost_ret (v := .tuple #[.agg #[.int .i64 id, .int .i64 0, .slice none 0 0, .slice none 0 0, .slice none 0 0, .slice none 0 0], .bool true]) (by simp [results, Try.results12, go_sem]) rfl ⟨by rw [E.out, hin], ?_⟩
    exact Below.alloc_ _ _
theorem own4_nil (w : World) (B : Nat) : Own4 w B (.slice none 0 0) (.slice none 0 0) (.slice none 0 0) (.slice none 0 0) [] [] [] [] := ⟨OwnN.zero _ _ _ _, OwnN.zero _ _ _ _, OwnN.zero _ _ _ _, OwnN.zero _ _ _ _, fun _ h => by cases h⟩

end Go.Proofs.Ytaokgbdddgoonaa
