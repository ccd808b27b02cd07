/-
  A service that nobody called: the specification's, the program's; the law on it, walked.
-/
import Derived.Test.YtgbhgfeadecbgaaServTo
import Derived.Test.YtgbhgfeadecbgaaExLaw
import Derived.Test.YtgbhgfeadecbgaaSpServ
namespace Go.Proofs.Ytgbhgfeadecbgaa
open Go.RowKit
attribute [local go_sem ↓] Go.wp_at_zero Go.wp_at_succ

/-- Who a new service is, and since when. -/
def svId (id : Int) : Int := if inB id 4 5 = true then id else 0
def svIn (id : Int) : Int := if inB id 4 5 = true then -1 else 0
set_option maxHeartbeats 1000000 in
set_option maxRecDepth 100000 in
theorem specServNew_any (id : Int) (w : World) : Calls Try.prog 6 #[.int .i64 id] w fun r w' => (∃ a1 a2, r = .returned (.tuple #[.agg #[.int .i64 (svId id), .int .i64 (svIn id), .slice a1 0 0, .slice a2 0 0], .bool (inB id 4 5)])) ∧ Below w.heap.size w w' := by
  go_enter Try.func6, Try.ntmps6
  go_wp2_with fail
  refine (l1Serv_any' _ _).mono ?_
  rintro r w2 ⟨rfl, rfl⟩
  cases hin : inB id 4 5
  · have E : Hid (svId id = 0 ∧ svIn id = 0) := Hid.mk' (by simp [svId, svIn, hin])
    go_wp2_with fail
    refine bodyPost_ret (v := .tuple #[.agg #[.int .i64 0, .int .i64 0, .slice none 0 0, .slice none 0 0], .bool false]) (by simp [results, Try.results6, go_sem]) rfl ⟨⟨none, none, by rw [E.out.1, E.out.2, hin]⟩, ?_⟩
    exact Below.alloc_ _ _
  · have E : Hid (svId id = id ∧ svIn id = -1) := Hid.mk' (by simp [svId, svIn, hin])
    go_wp2_with fail
    refine bodyPost_ret (v := .tuple #[.agg #[.int .i64 id, .int .i64 (-1), .slice (some ⟨w.heap.size + 1, 0, none⟩) 0 0, .slice (some ⟨w.heap.size + 1 + 1, 0, none⟩) 0 0], .bool true]) (by simp [results, Try.results6, go_sem]) rfl ⟨⟨_, _, by rw [E.out.1, E.out.2, hin]⟩, ?_⟩
    exact (((Below.refl _ _).alloc (Nat.le_refl _) _).alloc (by simp) _).alloc (by simp; omega) _
set_option maxHeartbeats 1000000 in
theorem implServNew_any (id : Int) (w : World) : Calls Try.prog 7 #[.int .i64 id] w fun r w' => r = .returned (.tuple #[.agg #[.int .i64 (svId id), .int .i64 (svIn id), .slice none 0 0, .slice none 0 0], .bool (inB id 4 5)]) ∧ Below w.heap.size w w' := by
  go_enter Try.func7, Try.ntmps7
  go_wp2_with fail
  refine (isServ_any _ _).mono ?_
  rintro r w2 ⟨rfl, rfl⟩
  cases hin : inB id 4 5
  · have E : Hid (svId id = 0 ∧ svIn id = 0) := Hid.mk' (by simp [svId, svIn, hin])
    go_wp2_with fail
    refine bodyPost_ret (v := .tuple #[.agg #[.int .i64 0, .int .i64 0, .slice none 0 0, .slice none 0 0], .bool false]) (by simp [results, Try.results7, go_sem]) rfl ⟨by rw [E.out.1, E.out.2, hin], ?_⟩
    exact Below.alloc_ _ _
  · have E : Hid (svId id = id ∧ svIn id = -1) := Hid.mk' (by simp [svId, svIn, hin])
    go_wp2_with fail
    refine bodyPost_ret (v := .tuple #[.agg #[.int .i64 id, .int .i64 (-1), .slice none 0 0, .slice none 0 0], .bool true]) (by simp [results, Try.results7, go_sem]) rfl ⟨by rw [E.out.1, E.out.2, hin], ?_⟩
    exact Below.alloc_ _ _

set_option maxHeartbeats 4000000 in
set_option maxRecDepth 100000 in
theorem lawServNew (id : Int) (w : World) : Calls Try.prog 3 #[.int .i64 id] w fun r w' => r = .returned (.bool true) ∧ Below w.heap.size w w' := by
  go_enter Try.func3, Try.ntmps3
  go_wp2_with fail
  refine (specServNew_any _ _).mono ?_
  rintro r w1 ⟨⟨a1, a2, rfl⟩, b1⟩
  have HZ : Hid (∀ o : Obj, Below w.heap.size w (w1.alloc o)) := fun o => b1.alloc b1.size _
  have HY : Hid (ABlk 25 (w1.alloc (.cells #[.int .i64 (svId id), .int .i64 (svIn id), .slice a1 0 0, .slice a2 0 0] 25)) w1.heap.size #[.int .i64 (svId id), .int .i64 (svIn id), .slice a1 0 0, .slice a2 0 0]) := ABlk.new _ _ _
  clear b1
  go_wp2_with fail
  have b9 := HZ.out (.cells #[.int .i64 (svId id), .int .i64 (svIn id), .slice a1 0 0, .slice a2 0 0] 25)
  have H1 : Hid (ABlk 25 (w1.alloc (.cells #[.int .i64 (svId id), .int .i64 (svIn id), .slice a1 0 0, .slice a2 0 0] 25)) w1.heap.size #[.int .i64 (svId id), .int .i64 (svIn id), .slice a1 0 0, .slice a2 0 0] ∧ Below w.heap.size w (w1.alloc (.cells #[.int .i64 (svId id), .int .i64 (svIn id), .slice a1 0 0, .slice a2 0 0] 25))) := ⟨HY.out, b9⟩
  clear HZ HY b9
  generalize (w1.alloc (.cells #[.int .i64 (svId id), .int .i64 (svIn id), .slice a1 0 0, .slice a2 0 0] 25)) = V at H1 ⊢
  refine (implServNew_any _ _).mono ?_
  rintro r w2 ⟨rfl, b9⟩
  have H2 : Hid (ABlk 25 w2 w1.heap.size #[.int .i64 (svId id), .int .i64 (svIn id), .slice a1 0 0, .slice a2 0 0] ∧ Below w.heap.size w w2) := ⟨H1.out.1.later b9, H1.out.2.trans (b9.mono H1.out.2.size)⟩
  clear H1 b9
  have l2 := H2.out.1.lt
  have z0 := H2.out.1.at 0 _ rfl
  have z1 := H2.out.1.at 1 _ rfl
  have z2 := H2.out.1.at 2 _ rfl
  have z3 := H2.out.1.at 3 _ rfl
  go_wp2_with fail
  clear z0 z1 z2 z3 l2
  have H3 : Hid (ABlk 25 (w2.alloc (.cells #[.int .i64 (svId id), .int .i64 (svIn id), .slice none 0 0, .slice none 0 0] 25)) w1.heap.size #[.int .i64 (svId id), .int .i64 (svIn id), .slice a1 0 0, .slice a2 0 0] ∧ ABlk 25 (w2.alloc (.cells #[.int .i64 (svId id), .int .i64 (svIn id), .slice none 0 0, .slice none 0 0] 25)) w2.heap.size #[.int .i64 (svId id), .int .i64 (svIn id), .slice none 0 0, .slice none 0 0] ∧ Below w.heap.size w (w2.alloc (.cells #[.int .i64 (svId id), .int .i64 (svIn id), .slice none 0 0, .slice none 0 0] 25))) := ⟨H2.out.1.later (Below.alloc_ _ _), ABlk.new _ _ _, H2.out.2.alloc H2.out.2.size _⟩
  clear H2
  generalize (w2.alloc (.cells #[.int .i64 (svId id), .int .i64 (svIn id), .slice none 0 0, .slice none 0 0] 25)) = V at H3 ⊢
  refine (eqServ_same (svId id) (svIn id) none none a1 a2 0 0 0 0 [] [] _ (Or.inl rfl) (NRow.nil _ _ _) (Or.inl rfl) (NRow.nil _ _ _) (by simp) (by simp)).mono ?_
  rintro r w3 ⟨rfl, b9⟩
  have H4 : Hid (ABlk 25 w3 w1.heap.size #[.int .i64 (svId id), .int .i64 (svIn id), .slice a1 0 0, .slice a2 0 0] ∧ ABlk 25 w3 w2.heap.size #[.int .i64 (svId id), .int .i64 (svIn id), .slice none 0 0, .slice none 0 0] ∧ Below w.heap.size w w3) := ⟨H3.out.1.later b9, H3.out.2.1.later b9, H3.out.2.2.trans (b9.mono H3.out.2.2.size)⟩
  clear H3 b9
  have y0 := H4.out.2.1.at 0 _ rfl
  have y1 := H4.out.2.1.at 1 _ rfl
  have y2 := H4.out.2.1.at 2 _ rfl
  have y3 := H4.out.2.1.at 3 _ rfl
  go_wp2_with fail
  clear y0 y1 y2 y3
  refine (markServ_own (svId id) (svIn id) 1 (show OwnS w3 w3.heap.size (.slice none 0 0) [] from World.ownsRow_nil _ _ _ _) (OwnN.zero celC 51 w3 w3.heap.size) (fun k h => by cases h) (by simp) (by simp) (by omega) (by omega)).mono ?_
  rintro r w4 ⟨rfl, g9, m9⟩
  have b9 : Below w3.heap.size w3 w4 := g9.below (Nat.le_refl _) (fun k hk => by simp [Value.ownBlock] at hk)
  have H5 : Hid (ABlk 25 w4 w1.heap.size #[.int .i64 (svId id), .int .i64 (svIn id), .slice a1 0 0, .slice a2 0 0] ∧ ABlk 25 w4 w2.heap.size #[.int .i64 (svId id), .int .i64 (svIn id), .slice none 0 0, .slice none 0 0] ∧ Below w.heap.size w w4 ∧ (Mk7 w4 (.slice none 0 0) 0 1 ∧ MkN 4 w4 (.slice none 0 0) 0 (1 + 7 * ((0 : Nat) : Int)))) := ⟨H4.out.1.later b9, H4.out.2.1.later b9, H4.out.2.2.trans (b9.mono H4.out.2.2.size), m9⟩
  clear H4 b9 g9 m9
  have y0 := H5.out.2.1.at 0 _ rfl
  have y1 := H5.out.2.1.at 1 _ rfl
  have y2 := H5.out.2.1.at 2 _ rfl
  have y3 := H5.out.2.1.at 3 _ rfl
  go_wp2_with fail
  clear y0 y1 y2 y3
  refine (heldServ_own (svId id) (svIn id) 1 H5.out.2.2.2 (by simp) (by simp) (by omega) (by omega)).mono ?_
  rintro r w5 ⟨rfl, b9⟩
  have H6 : Hid (ABlk 25 w5 w1.heap.size #[.int .i64 (svId id), .int .i64 (svIn id), .slice a1 0 0, .slice a2 0 0] ∧ ABlk 25 w5 w2.heap.size #[.int .i64 (svId id), .int .i64 (svIn id), .slice none 0 0, .slice none 0 0] ∧ Below w.heap.size w w5 ∧ (Mk7 w5 (.slice none 0 0) 0 1 ∧ MkN 4 w5 (.slice none 0 0) 0 (1 + 7 * ((0 : Nat) : Int)))) := ⟨H5.out.1.later b9, H5.out.2.1.later b9, H5.out.2.2.1.trans (b9.mono H5.out.2.2.1.size), H5.out.2.2.2.1.later b9, H5.out.2.2.2.2.later b9⟩
  clear H5 b9
  go_wp2_with fail
  refine (implServNew_any _ _).mono ?_
  rintro r w6 ⟨rfl, b9⟩
  have H7 : Hid (ABlk 25 w6 w1.heap.size #[.int .i64 (svId id), .int .i64 (svIn id), .slice a1 0 0, .slice a2 0 0] ∧ ABlk 25 w6 w2.heap.size #[.int .i64 (svId id), .int .i64 (svIn id), .slice none 0 0, .slice none 0 0] ∧ Below w.heap.size w w6 ∧ (Mk7 w6 (.slice none 0 0) 0 1 ∧ MkN 4 w6 (.slice none 0 0) 0 (1 + 7 * ((0 : Nat) : Int)))) := ⟨H6.out.1.later b9, H6.out.2.1.later b9, H6.out.2.2.1.trans (b9.mono H6.out.2.2.1.size), H6.out.2.2.2.1.later b9, H6.out.2.2.2.2.later b9⟩
  clear H6 b9
  have l2 := H7.out.1.lt
  have z0 := H7.out.1.at 0 _ rfl
  have z1 := H7.out.1.at 1 _ rfl
  have z2 := H7.out.1.at 2 _ rfl
  have z3 := H7.out.1.at 3 _ rfl
  go_wp2_with fail
  clear z0 z1 z2 z3 l2
  have H8 : Hid (ABlk 25 (w6.alloc (.cells #[.int .i64 (svId id), .int .i64 (svIn id), .slice none 0 0, .slice none 0 0] 25)) w2.heap.size #[.int .i64 (svId id), .int .i64 (svIn id), .slice none 0 0, .slice none 0 0] ∧ Below w.heap.size w (w6.alloc (.cells #[.int .i64 (svId id), .int .i64 (svIn id), .slice none 0 0, .slice none 0 0] 25)) ∧ (Mk7 (w6.alloc (.cells #[.int .i64 (svId id), .int .i64 (svIn id), .slice none 0 0, .slice none 0 0] 25)) (.slice none 0 0) 0 1 ∧ MkN 4 (w6.alloc (.cells #[.int .i64 (svId id), .int .i64 (svIn id), .slice none 0 0, .slice none 0 0] 25)) (.slice none 0 0) 0 (1 + 7 * ((0 : Nat) : Int)))) := ⟨H7.out.2.1.later (Below.alloc_ _ _), H7.out.2.2.1.alloc H7.out.2.2.1.size _, H7.out.2.2.2.1.later (Below.alloc_ _ _), H7.out.2.2.2.2.later (Below.alloc_ _ _)⟩
  clear H7
  generalize (w6.alloc (.cells #[.int .i64 (svId id), .int .i64 (svIn id), .slice none 0 0, .slice none 0 0] 25)) = V at H8 ⊢
  refine (eqServ_same (svId id) (svIn id) none none a1 a2 0 0 0 0 [] [] _ (Or.inl rfl) (NRow.nil _ _ _) (Or.inl rfl) (NRow.nil _ _ _) (by simp) (by simp)).mono ?_
  rintro r w7 ⟨rfl, b9⟩
  have H9 : Hid (ABlk 25 w7 w2.heap.size #[.int .i64 (svId id), .int .i64 (svIn id), .slice none 0 0, .slice none 0 0] ∧ Below w.heap.size w w7 ∧ (Mk7 w7 (.slice none 0 0) 0 1 ∧ MkN 4 w7 (.slice none 0 0) 0 (1 + 7 * ((0 : Nat) : Int)))) := ⟨H8.out.1.later b9, H8.out.2.1.trans (b9.mono H8.out.2.1.size), H8.out.2.2.1.later b9, H8.out.2.2.2.later b9⟩
  clear H8 b9
  have y0 := H9.out.1.at 0 _ rfl
  have y1 := H9.out.1.at 1 _ rfl
  have y2 := H9.out.1.at 2 _ rfl
  have y3 := H9.out.1.at 3 _ rfl
  go_wp2_with fail
  clear y0 y1 y2 y3
  refine (heldServ_own (svId id) (svIn id) 1 H9.out.2.2 (by simp) (by simp) (by omega) (by omega)).mono ?_
  rintro r w8 ⟨rfl, b9⟩
  have HE : Hid (Below w.heap.size w w8) := H9.out.2.1.trans (b9.mono H9.out.2.1.size)
  clear H9 b9
  go_wp2_with fail
  go_ret
  exact ⟨rfl, HE.out⟩

end Go.Proofs.Ytgbhgfeadecbgaa
