/-
  Marks in the lists of a user's copy: just these are turned.
-/
import Derived.Test.YthkngdbhddedpaaEx
import Derived.Test.YthkngdbhddedpaaClMk
namespace Go.Proofs.Ythkngdbhddedpaa
open Go.RowKit
attribute [local go_sem ↓] Go.wp_at_zero Go.wp_at_succ

set_option maxHeartbeats 2000000 in
theorem markClient_row (i n : Int) (g1 l1 g2 l2 g3 l3 g4 l4 : Nat) (k0 : Int) (w : World) (h : WB w g1 (l1 * 2) ∧ WB w g2 (l2 * 10) ∧ WB w g3 (l3 * 4) ∧ WB w g4 (l4 * 4)) (hd : g1 < g2 ∧ g2 < g3 ∧ g3 < g4) (hn1 : l1 ≤ 2000000) (hn2 : l2 ≤ 2000000) (hn3 : l3 ≤ 2000000) (hn4 : l4 ≤ 2000000) (h0 : 0 ≤ k0) (h1 : k0 ≤ 10000000) :
    Calls Try.prog 11 #[.agg #[.int .i64 i, .int .i64 n, Value.slice (some ⟨g1, 0, none⟩) l1 l1, Value.slice (some ⟨g2, 0, none⟩) l2 l2, Value.slice (some ⟨g3, 0, none⟩) l3 l3, Value.slice (some ⟨g4, 0, none⟩) l4 l4], .int .i64 k0] w fun r w' => r = .returned (.int .i64 (k0 + 2 * (l1 : Int) + 10 * (l2 : Int) + 4 * (l3 : Int) + 4 * (l4 : Int))) ∧ GrL w w' [some g1, some g2, some g3, some g4] := by
  have hl : Hid (g1 < w.heap.size ∧ g2 < w.heap.size ∧ g3 < w.heap.size ∧ g4 < w.heap.size) := ⟨h.1.lt, h.2.1.lt, h.2.2.1.lt, h.2.2.2.lt⟩
  have H0 : Hid ((WB (w.alloc (.cells #[.int .i64 i, .int .i64 n, Value.slice (some ⟨g1, 0, none⟩) l1 l1, Value.slice (some ⟨g2, 0, none⟩) l2 l2, Value.slice (some ⟨g3, 0, none⟩) l3 l3, Value.slice (some ⟨g4, 0, none⟩) l4 l4] 32)) g1 (l1 * 2) ∧ WB (w.alloc (.cells #[.int .i64 i, .int .i64 n, Value.slice (some ⟨g1, 0, none⟩) l1 l1, Value.slice (some ⟨g2, 0, none⟩) l2 l2, Value.slice (some ⟨g3, 0, none⟩) l3 l3, Value.slice (some ⟨g4, 0, none⟩) l4 l4] 32)) g2 (l2 * 10) ∧ WB (w.alloc (.cells #[.int .i64 i, .int .i64 n, Value.slice (some ⟨g1, 0, none⟩) l1 l1, Value.slice (some ⟨g2, 0, none⟩) l2 l2, Value.slice (some ⟨g3, 0, none⟩) l3 l3, Value.slice (some ⟨g4, 0, none⟩) l4 l4] 32)) g3 (l3 * 4) ∧ WB (w.alloc (.cells #[.int .i64 i, .int .i64 n, Value.slice (some ⟨g1, 0, none⟩) l1 l1, Value.slice (some ⟨g2, 0, none⟩) l2 l2, Value.slice (some ⟨g3, 0, none⟩) l3 l3, Value.slice (some ⟨g4, 0, none⟩) l4 l4] 32)) g4 (l4 * 4)) ∧ ABlk 32 (w.alloc (.cells #[.int .i64 i, .int .i64 n, Value.slice (some ⟨g1, 0, none⟩) l1 l1, Value.slice (some ⟨g2, 0, none⟩) l2 l2, Value.slice (some ⟨g3, 0, none⟩) l3 l3, Value.slice (some ⟨g4, 0, none⟩) l4 l4] 32)) w.heap.size #[.int .i64 i, .int .i64 n, Value.slice (some ⟨g1, 0, none⟩) l1 l1, Value.slice (some ⟨g2, 0, none⟩) l2 l2, Value.slice (some ⟨g3, 0, none⟩) l3 l3, Value.slice (some ⟨g4, 0, none⟩) l4 l4] ∧ GrL w (w.alloc (.cells #[.int .i64 i, .int .i64 n, Value.slice (some ⟨g1, 0, none⟩) l1 l1, Value.slice (some ⟨g2, 0, none⟩) l2 l2, Value.slice (some ⟨g3, 0, none⟩) l3 l3, Value.slice (some ⟨g4, 0, none⟩) l4 l4] 32)) []) := ⟨⟨(h.1).later (Below.alloc_ _ _), (h.2.1).later (Below.alloc_ _ _), (h.2.2.1).later (Below.alloc_ _ _), (h.2.2.2).later (Below.alloc_ _ _)⟩, ABlk.new _ _ _, GrL.ofB (Below.alloc_ _ _)⟩
  clear h
  go_enter Try.func11, Try.ntmps11
  go_wp2_with fail
  generalize (w.alloc (.cells #[.int .i64 i, .int .i64 n, Value.slice (some ⟨g1, 0, none⟩) l1 l1, Value.slice (some ⟨g2, 0, none⟩) l2 l2, Value.slice (some ⟨g3, 0, none⟩) l3 l3, Value.slice (some ⟨g4, 0, none⟩) l4 l4] 32)) = W at H0 ⊢
  refine (markWantS_any g1 l1 l1 (k0) _ (H0.out.1.1) hn1 (by omega) (by omega)).mono ?_
  rintro r w1 ⟨rfl, t9, _, _⟩
  have G9 := t9.grl
  have H1 : Hid ((WB w1 g2 (l2 * 10) ∧ WB w1 g3 (l3 * 4) ∧ WB w1 g4 (l4 * 4)) ∧ ABlk 32 w1 w.heap.size #[.int .i64 i, .int .i64 n, Value.slice (some ⟨g1, 0, none⟩) l1 l1, Value.slice (some ⟨g2, 0, none⟩) l2 l2, Value.slice (some ⟨g3, 0, none⟩) l3 l3, Value.slice (some ⟨g4, 0, none⟩) l4 l4] ∧ GrL w w1 [some g1]) := ⟨⟨(H0.out.1.2.1).same (G9.block _ (H0.out.1.2.1).lt (by simp <;> omega)), (H0.out.1.2.2.1).same (G9.block _ (H0.out.1.2.2.1).lt (by simp <;> omega)), (H0.out.1.2.2.2).same (G9.block _ (H0.out.1.2.2.2).lt (by simp <;> omega))⟩, H0.out.2.1.grl G9 (by simp; have := hl.out; omega), H0.out.2.2.trans G9⟩
  clear H0 t9 G9
  have p0 := H1.out.2.1.at 0 _ rfl
  have p1 := H1.out.2.1.at 1 _ rfl
  have p2 := H1.out.2.1.at 2 _ rfl
  have p3 := H1.out.2.1.at 3 _ rfl
  have p4 := H1.out.2.1.at 4 _ rfl
  have p5 := H1.out.2.1.at 5 _ rfl
  go_wp2_with fail
  clear p0 p1 p2 p3 p4 p5
  refine (markCredS_any g2 l2 l2 (k0 + 2 * (l1 : Int)) _ (H1.out.1.1) hn2 (by omega) (by omega)).mono ?_
  rintro r w2 ⟨rfl, t9, _, _⟩
  have G9 := t9.grl
  have H2 : Hid ((WB w2 g3 (l3 * 4) ∧ WB w2 g4 (l4 * 4)) ∧ ABlk 32 w2 w.heap.size #[.int .i64 i, .int .i64 n, Value.slice (some ⟨g1, 0, none⟩) l1 l1, Value.slice (some ⟨g2, 0, none⟩) l2 l2, Value.slice (some ⟨g3, 0, none⟩) l3 l3, Value.slice (some ⟨g4, 0, none⟩) l4 l4] ∧ GrL w w2 [some g1, some g2]) := ⟨⟨(H1.out.1.2.1).same (G9.block _ (H1.out.1.2.1).lt (by simp <;> omega)), (H1.out.1.2.2).same (G9.block _ (H1.out.1.2.2).lt (by simp <;> omega))⟩, H1.out.2.1.grl G9 (by simp; have := hl.out; omega), H1.out.2.2.trans G9⟩
  clear H1 t9 G9
  have p0 := H2.out.2.1.at 0 _ rfl
  have p1 := H2.out.2.1.at 1 _ rfl
  have p2 := H2.out.2.1.at 2 _ rfl
  have p3 := H2.out.2.1.at 3 _ rfl
  have p4 := H2.out.2.1.at 4 _ rfl
  have p5 := H2.out.2.1.at 5 _ rfl
  go_wp2_with fail
  clear p0 p1 p2 p3 p4 p5
  refine (markCallS_any g3 l3 l3 (k0 + 2 * (l1 : Int) + 10 * (l2 : Int)) _ (H2.out.1.1) hn3 (by omega) (by omega)).mono ?_
  rintro r w3 ⟨rfl, t9, _, _⟩
  have G9 := t9.grl
  have H3 : Hid ((WB w3 g4 (l4 * 4)) ∧ ABlk 32 w3 w.heap.size #[.int .i64 i, .int .i64 n, Value.slice (some ⟨g1, 0, none⟩) l1 l1, Value.slice (some ⟨g2, 0, none⟩) l2 l2, Value.slice (some ⟨g3, 0, none⟩) l3 l3, Value.slice (some ⟨g4, 0, none⟩) l4 l4] ∧ GrL w w3 [some g1, some g2, some g3]) := ⟨(H2.out.1.2).same (G9.block _ (H2.out.1.2).lt (by simp <;> omega)), H2.out.2.1.grl G9 (by simp; have := hl.out; omega), H2.out.2.2.trans G9⟩
  clear H2 t9 G9
  have p0 := H3.out.2.1.at 0 _ rfl
  have p1 := H3.out.2.1.at 1 _ rfl
  have p2 := H3.out.2.1.at 2 _ rfl
  have p3 := H3.out.2.1.at 3 _ rfl
  have p4 := H3.out.2.1.at 4 _ rfl
  have p5 := H3.out.2.1.at 5 _ rfl
  go_wp2_with fail
  clear p0 p1 p2 p3 p4 p5
  refine (markCallS_any g4 l4 l4 (k0 + 2 * (l1 : Int) + 10 * (l2 : Int) + 4 * (l3 : Int)) _ (H3.out.1) hn4 (by omega) (by omega)).mono ?_
  rintro r w4 ⟨rfl, t9, _, _⟩
  have G9 := t9.grl
  have H4 : Hid (ABlk 32 w4 w.heap.size #[.int .i64 i, .int .i64 n, Value.slice (some ⟨g1, 0, none⟩) l1 l1, Value.slice (some ⟨g2, 0, none⟩) l2 l2, Value.slice (some ⟨g3, 0, none⟩) l3 l3, Value.slice (some ⟨g4, 0, none⟩) l4 l4] ∧ GrL w w4 [some g1, some g2, some g3, some g4]) := ⟨H3.out.2.1.grl G9 (by simp; have := hl.out; omega), H3.out.2.2.trans G9⟩
  clear H3 t9 G9
  go_wp2_with fail
  go_ret
  exact ⟨rfl, H4.out.2⟩

theorem restCl_neg {l1 l2 l3 l4 : Nat} (h : ¬ restC 1048576 l1 l2 l3 l4 < 0) : l1 ≤ 1048576 ∧ l2 ≤ 1048576 ∧ l3 ≤ 1048576 ∧ l4 ≤ 1048576 := by
  unfold restC at h
  (repeat' split at h) <;> omega

end Go.Proofs.Ythkngdbhddedpaa
