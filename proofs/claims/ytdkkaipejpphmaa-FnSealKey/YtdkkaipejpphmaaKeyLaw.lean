/-
  The law that another key makes another seal, walked: it returns true at whatever two lists of bytes, and nothing that was in memory is turned.
-/
import Derived.Test.YtdkkaipejpphmaaDrawOk
import Derived.Test.YtdkkaipejpphmaaBlocks
import Derived.Test.YtdkkaipejpphmaaSealCases
import Derived.Test.YtdkkaipejpphmaaSealOkd
namespace Go.Proofs.Ytdkkaipejpphmaa
open Go.RowKit
attribute [local go_sem ↓] Go.wp_at_zero Go.wp_at_succ

set_option maxHeartbeats 400000 in
theorem key_long (a1 a2 : Option Addr) (n1 c1 n2 c2 : Nat) (w : World) (h : 1048576 < (n1 : Int) ∨ 1048576 < (n2 : Int)) :
    Calls Try.prog 5 #[.slice a1 n1 c1, .slice a2 n2 c2] w fun r w' => r = .returned (.bool true) ∧ Below w.heap.size w w' := by
  by_cases h1 : 1048576 < (n1 : Int)
  · go_enter Try.func5, Try.ntmps5
    go_wp2
    go_ret
    exact ⟨rfl, Below.refl _ _⟩
  · have h2 : 1048576 < (n2 : Int) := by omega
    have h3 : (n1 : Int) ≤ 1048576 := by omega
    clear h h1
    go_enter Try.func5, Try.ntmps5
    go_wp2
    go_ret
    exact ⟨rfl, Below.refl _ _⟩

set_option maxHeartbeats 1000000 in
set_option maxRecDepth 100000 in
theorem key_short (a1 a2 : Option Addr) (n1 c1 n2 c2 : Nat) (w : World) (g1 : (n1 : Int) ≤ 1048576) (g2 : (n2 : Int) ≤ 1048576) (h1 : Code w a1 n1 c1) :
    Calls Try.prog 5 #[.slice a1 n1 c1, .slice a2 n2 c2] w fun r w' => r = .returned (.bool true) ∧ Below w.heap.size w w' := by
  have HH : Hid (Code w a1 n1 c1) := h1
  clear h1
  go_enter Try.func5, Try.ntmps5
  go_wp2_with fail
  refine (drawSealOk_any a1 n1 c1 w HH.out).mono ?_
  rintro r1 w1 ⟨⟨k, t, a, b, c, d, e, rfl⟩, b1⟩
  have D1 : Hid (Ones w w1.heap.size (.cells #[.int .i64 k, .int .i64 t, .int .i64 a, .int .i64 b, .int .i64 c, .int .i64 d, .int .i64 e] 24 (0, 0)) (w1.alloc (.cells #[.int .i64 k, .int .i64 t, .int .i64 a, .int .i64 b, .int .i64 c, .int .i64 d, .int .i64 e] 24))) := ⟨b1.alloc b1.size _, heap_alloc_new w1 _⟩
  clear b1 HH
  go_wp2_with fail
  refine (implOk_any _ _ _ _ _ _ _ _).mono ?_
  rintro r2 w2 ⟨rfl, b2⟩
  have D2 : Hid (Ones w w1.heap.size (.cells #[.int .i64 k, .int .i64 t, .int .i64 a, .int .i64 b, .int .i64 c, .int .i64 d, .int .i64 e] 24 (0, 0)) w2) := D1.out.next b2
  clear b2 D1
  obtain ⟨p0, p1, p2, p3, p4, p5, p6, pf⟩ := cells7 D2.out.one
  go_wp2_with fail
  refine (specOk_any _ _ _ _ _ _ _ _).mono ?_
  rintro r3 w3 ⟨rfl, b3⟩
  have D3 : Hid (Ones w w1.heap.size (.cells #[.int .i64 k, .int .i64 t, .int .i64 a, .int .i64 b, .int .i64 c, .int .i64 d, .int .i64 e] 24 (0, 0)) w3) := D2.out.next b3
  clear b3 D2 p0 p1 p2 p3 p4 p5 p6 pf
  obtain ⟨p0, p1, p2, p3, p4, p5, p6, pf⟩ := cells7 D3.out.one
  cases ok : okB k t a b c d e
  · go_wp2_with fail
    refine (specOk_any _ _ _ _ _ _ _ _).mono ?_
    rintro r4 w4 ⟨rfl, b4⟩
    have D4 : Hid (Below w.heap.size w w4) := (D3.out.next b4).below
    rw [ok]
    clear b4 p0 p1 p2 p3 p4 p5 p6 pf D3 ok
    go_wp2_with fail
    go_ret
    exact ⟨rfl, D4.out⟩
  · have hy1 : (1 : Int) ≤ (1 + (n2 : Int) % 60) := by omega
    have hy2 : (1 + (n2 : Int) % 60) ≤ (60 : Int) := by omega
    have hlt : w1.heap.size < w3.heap.size := (Array.getElem?_eq_some_iff.1 D3.out.one).1
    rcases ok_cases ok with ⟨rfl, rfl, x0, x1, x2, x3, x4, x5, x6, x7, x8, x9⟩ | ⟨rfl, x0, x1, x2, x3, x4, x5, x6, x7, x8, rfl⟩ | ⟨rfl, x0, x1, x2, x3, x4, x5, x6, x7, rfl, rfl⟩ | ⟨rfl, x0, x1, x2, x3, x4, x5, rfl, rfl, rfl⟩
    · have hb : okB (1 + (n2 : Int) % 60) 1 a k c d e = ((1 + (n2 : Int) % 60) == k) := by rw [Bool.eq_iff_iff, ok_iff1, beq_iff_eq]; omega
      have P3 : Hid (Pair w w1.heap.size w3.heap.size (.cells #[.int .i64 k, .int .i64 1, .int .i64 a, .int .i64 k, .int .i64 c, .int .i64 d, .int .i64 e] 24 (0, 0)) (.cells #[.int .i64 (1 + (n2 : Int) % 60), .int .i64 1, .int .i64 a, .int .i64 k, .int .i64 c, .int .i64 d, .int .i64 e] 24 (0, 0)) (w3.alloc (.cells #[.int .i64 (1 + (n2 : Int) % 60), .int .i64 1, .int .i64 a, .int .i64 k, .int .i64 c, .int .i64 d, .int .i64 e] 24))) := D3.out.pair
      go_wp2_with fail
      have HS : Hid ((w3.alloc (.cells #[.int .i64 (1 + (n2 : Int) % 60), .int .i64 1, .int .i64 a, .int .i64 k, .int .i64 c, .int .i64 d, .int .i64 e] 24)).drew.cell? ⟨w3.heap.size, 0, none⟩ = some (.int .i64 (1 + (n2 : Int) % 60)) ∧ (w3.alloc (.cells #[.int .i64 (1 + (n2 : Int) % 60), .int .i64 1, .int .i64 a, .int .i64 k, .int .i64 c, .int .i64 d, .int .i64 e] 24)).drew.cell? ⟨w3.heap.size, 1, none⟩ = some (.int .i64 1) ∧ (w3.alloc (.cells #[.int .i64 (1 + (n2 : Int) % 60), .int .i64 1, .int .i64 a, .int .i64 k, .int .i64 c, .int .i64 d, .int .i64 e] 24)).drew.cell? ⟨w3.heap.size, 2, none⟩ = some (.int .i64 a) ∧ (w3.alloc (.cells #[.int .i64 (1 + (n2 : Int) % 60), .int .i64 1, .int .i64 a, .int .i64 k, .int .i64 c, .int .i64 d, .int .i64 e] 24)).drew.cell? ⟨w3.heap.size, 3, none⟩ = some (.int .i64 k) ∧ (w3.alloc (.cells #[.int .i64 (1 + (n2 : Int) % 60), .int .i64 1, .int .i64 a, .int .i64 k, .int .i64 c, .int .i64 d, .int .i64 e] 24)).drew.cell? ⟨w3.heap.size, 4, none⟩ = some (.int .i64 c) ∧ (w3.alloc (.cells #[.int .i64 (1 + (n2 : Int) % 60), .int .i64 1, .int .i64 a, .int .i64 k, .int .i64 c, .int .i64 d, .int .i64 e] 24)).drew.cell? ⟨w3.heap.size, 5, none⟩ = some (.int .i64 d) ∧ (w3.alloc (.cells #[.int .i64 (1 + (n2 : Int) % 60), .int .i64 1, .int .i64 a, .int .i64 k, .int .i64 c, .int .i64 d, .int .i64 e] 24)).drew.cell? ⟨w3.heap.size, 6, none⟩ = some (.int .i64 e) ∧ (w3.alloc (.cells #[.int .i64 (1 + (n2 : Int) % 60), .int .i64 1, .int .i64 a, .int .i64 k, .int .i64 c, .int .i64 d, .int .i64 e] 24)).drew.cell? ⟨w1.heap.size, 0, none⟩ = some (.int .i64 k)) := by
        obtain ⟨u0, u1, u2, u3, u4, u5, u6, _⟩ := cells7 P3.out.two
        exact ⟨u0, u1, u2, u3, u4, u5, u6, (cells7 P3.out.one).1⟩
      refine wp_region_held_drew (S := fun w' => w'.cell? ⟨w3.heap.size, 0, none⟩ = some (.int .i64 (1 + (n2 : Int) % 60)) ∧ w'.cell? ⟨w3.heap.size, 1, none⟩ = some (.int .i64 1) ∧ w'.cell? ⟨w3.heap.size, 2, none⟩ = some (.int .i64 a) ∧ w'.cell? ⟨w3.heap.size, 3, none⟩ = some (.int .i64 k) ∧ w'.cell? ⟨w3.heap.size, 4, none⟩ = some (.int .i64 c) ∧ w'.cell? ⟨w3.heap.size, 5, none⟩ = some (.int .i64 d) ∧ w'.cell? ⟨w3.heap.size, 6, none⟩ = some (.int .i64 e) ∧ w'.cell? ⟨w1.heap.size, 0, none⟩ = some (.int .i64 k)) (by kernel_rfl) HS.out (fun hS => ?_)
      refine take1 0 46 (.agg #[.int .i64 (1 + (n2 : Int) % 60), .int .i64 1, .int .i64 a, .int .i64 k, .int .i64 c, .int .i64 d, .int .i64 e]) rfl rfl (by kernel_rfl) (by kernel_rfl) (by kernel_rfl) (by rfl) (fun _ _ _ h => h) hS (fun w' hS' => ?_) ?_
      · obtain ⟨e0, e1, e2, e3, e4, e5, e6, e7⟩ := hS'; go_simp
      simp only [Act.put, List.setIfInBounds_toArray, List.set_cons_zero, List.set_cons_succ]
      refine take1 2 48 (.pointer (some ⟨w3.heap.size, 0, none⟩)) rfl rfl (by kernel_rfl) (by kernel_rfl) (by kernel_rfl) (by rfl) (fun _ _ _ h => h) hS (fun w' hS' => ?_) ?_
      · obtain ⟨e0, e1, e2, e3, e4, e5, e6, e7⟩ := hS'; go_simp
      simp only [Act.put, List.setIfInBounds_toArray, List.set_cons_zero, List.set_cons_succ]
      refine take1 3 49 (.int .i64 (1 + (n2 : Int) % 60)) rfl rfl (by kernel_rfl) (by kernel_rfl) (by kernel_rfl) (by rfl) (fun _ _ _ h => h) hS (fun w' hS' => ?_) ?_
      · obtain ⟨e0, e1, e2, e3, e4, e5, e6, e7⟩ := hS'; go_simp
      simp only [Act.put, List.setIfInBounds_toArray, List.set_cons_zero, List.set_cons_succ]
      refine take1 4 50 (.pointer (some ⟨w1.heap.size, 0, none⟩)) rfl rfl (by kernel_rfl) (by kernel_rfl) (by kernel_rfl) (by rfl) (fun _ _ _ h => h) hS (fun w' hS' => ?_) ?_
      · obtain ⟨e0, e1, e2, e3, e4, e5, e6, e7⟩ := hS'; go_simp
      simp only [Act.put, List.setIfInBounds_toArray, List.set_cons_zero, List.set_cons_succ]
      refine take1 5 51 (.int .i64 k) rfl rfl (by kernel_rfl) (by kernel_rfl) (by kernel_rfl) (by rfl) (fun _ _ _ h => h) hS (fun w' hS' => ?_) ?_
      · obtain ⟨e0, e1, e2, e3, e4, e5, e6, e7⟩ := hS'; go_simp
      simp only [Act.put, List.setIfInBounds_toArray, List.set_cons_zero, List.set_cons_succ]
      refine take1 6 52 (.bool ((1 + (n2 : Int) % 60) == k)) rfl rfl (by kernel_rfl) (by kernel_rfl) (by kernel_rfl) (by rfl) (fun _ _ _ h => h) hS (fun w' hS' => ?_) ?_
      · obtain ⟨e0, e1, e2, e3, e4, e5, e6, e7⟩ := hS'; go_simp
      simp only [Act.put, List.setIfInBounds_toArray, List.set_cons_zero, List.set_cons_succ]
      refine wpAnyH_ready (rs := [1]) (by kernel_rfl) (by simp) ?_
      refine AllReadyH.cons rfl (fun K hK => ?_) AllReadyH.nil
      go_simp
      refine (implOk_any _ _ _ _ _ _ _ _).mono ?_
      rintro r4 w4 ⟨rfl, b4⟩
      have hS4 : w4.cell? ⟨w3.heap.size, 0, none⟩ = some (.int .i64 (1 + (n2 : Int) % 60)) ∧ w4.cell? ⟨w3.heap.size, 1, none⟩ = some (.int .i64 1) ∧ w4.cell? ⟨w3.heap.size, 2, none⟩ = some (.int .i64 a) ∧ w4.cell? ⟨w3.heap.size, 3, none⟩ = some (.int .i64 k) ∧ w4.cell? ⟨w3.heap.size, 4, none⟩ = some (.int .i64 c) ∧ w4.cell? ⟨w3.heap.size, 5, none⟩ = some (.int .i64 d) ∧ w4.cell? ⟨w3.heap.size, 6, none⟩ = some (.int .i64 e) ∧ w4.cell? ⟨w1.heap.size, 0, none⟩ = some (.int .i64 k) := by
        obtain ⟨e0, e1, e2, e3, e4, e5, e6, e7⟩ := hS
        exact ⟨cell_later b4 e0, cell_later b4 e1, cell_later b4 e2, cell_later b4 e3, cell_later b4 e4, cell_later b4 e5, cell_later b4 e6, cell_later b4 e7⟩
      have D4 : Hid (Below w.heap.size w w4) := P3.out.below.drew.trans (b4.mono P3.out.below.size)
      rw [hb]
      refine hK.out _ _ hS4 (fun _ => ?_)
      clear hK K b4 hb HS P3 hS
      refine take1 7 53 (.bool true) rfl rfl (by kernel_rfl) (by kernel_rfl) (by kernel_rfl) (by rfl) (fun _ _ _ h => h) hS4 (fun w' hS' => ?_) ?_
      · obtain ⟨e0, e1, e2, e3, e4, e5, e6, e7⟩ := hS'; go_simp
      simp only [Act.put, List.setIfInBounds_toArray, List.set_cons_zero, List.set_cons_succ]
      refine take1 8 4 (.bool true) rfl rfl (by kernel_rfl) (by kernel_rfl) (by kernel_rfl) (by rfl) (fun _ _ _ h => h) hS4 (fun w' hS' => ?_) ?_
      · obtain ⟨e0, e1, e2, e3, e4, e5, e6, e7⟩ := hS'; go_simp
      simp only [Act.put, List.setIfInBounds_toArray, List.set_cons_zero, List.set_cons_succ]
      refine wpAnyH_done (by kernel_rfl) ?_ _
      go_wp2_with fail
      go_ret
      exact ⟨rfl, D4.out⟩
    · have hb : okB (1 + (n2 : Int) % 60) 2 a b c d 0 = (decide (10 ≤ (1 + (n2 : Int) % 60)) || decide ((1 + (n2 : Int) % 60) ≤ 3)) := by rw [Bool.eq_iff_iff, ok_iff2]; simp; omega
      have P3 : Hid (Pair w w1.heap.size w3.heap.size (.cells #[.int .i64 k, .int .i64 2, .int .i64 a, .int .i64 b, .int .i64 c, .int .i64 d, .int .i64 0] 24 (0, 0)) (.cells #[.int .i64 (1 + (n2 : Int) % 60), .int .i64 2, .int .i64 a, .int .i64 b, .int .i64 c, .int .i64 d, .int .i64 0] 24 (0, 0)) (w3.alloc (.cells #[.int .i64 (1 + (n2 : Int) % 60), .int .i64 2, .int .i64 a, .int .i64 b, .int .i64 c, .int .i64 d, .int .i64 0] 24))) := D3.out.pair
      go_wp2_with fail
      refine (implOk_any _ _ _ _ _ _ _ _).mono ?_
      rintro r4 w4 ⟨rfl, b4⟩
      have P4 := P3.out.next b4
      obtain ⟨u0, u1, u2, u3, u4, u5, u6, uf⟩ := cells7 P4.two
      have D4 : Hid (Below w.heap.size w w4) := P4.below
      rw [hb]
      clear hb b4 P3 P4 D3
      go_wp2_with fail
      all_goals go_ret
      all_goals exact ⟨ret_bool (by simp; try omega), D4.out⟩
    · have hb : okB (1 + (n2 : Int) % 60) 3 a b c 0 0 = decide (10 ≤ (1 + (n2 : Int) % 60)) := by rw [Bool.eq_iff_iff, ok_iff3]; simp; omega
      have P3 : Hid (Pair w w1.heap.size w3.heap.size (.cells #[.int .i64 k, .int .i64 3, .int .i64 a, .int .i64 b, .int .i64 c, .int .i64 0, .int .i64 0] 24 (0, 0)) (.cells #[.int .i64 (1 + (n2 : Int) % 60), .int .i64 3, .int .i64 a, .int .i64 b, .int .i64 c, .int .i64 0, .int .i64 0] 24 (0, 0)) (w3.alloc (.cells #[.int .i64 (1 + (n2 : Int) % 60), .int .i64 3, .int .i64 a, .int .i64 b, .int .i64 c, .int .i64 0, .int .i64 0] 24))) := D3.out.pair
      go_wp2_with fail
      refine (implOk_any _ _ _ _ _ _ _ _).mono ?_
      rintro r4 w4 ⟨rfl, b4⟩
      have P4 := P3.out.next b4
      obtain ⟨u0, u1, u2, u3, u4, u5, u6, uf⟩ := cells7 P4.two
      have D4 : Hid (Below w.heap.size w w4) := P4.below
      rw [hb]
      clear hb b4 P3 P4 D3
      go_wp2_with fail
      all_goals go_ret
      all_goals exact ⟨ret_bool (by simp; try omega), D4.out⟩
    · have hb : okB (1 + (n2 : Int) % 60) 4 a b 0 0 0 = decide (10 ≤ (1 + (n2 : Int) % 60)) := by rw [Bool.eq_iff_iff, ok_iff4]; simp; omega
      have P3 : Hid (Pair w w1.heap.size w3.heap.size (.cells #[.int .i64 k, .int .i64 4, .int .i64 a, .int .i64 b, .int .i64 0, .int .i64 0, .int .i64 0] 24 (0, 0)) (.cells #[.int .i64 (1 + (n2 : Int) % 60), .int .i64 4, .int .i64 a, .int .i64 b, .int .i64 0, .int .i64 0, .int .i64 0] 24 (0, 0)) (w3.alloc (.cells #[.int .i64 (1 + (n2 : Int) % 60), .int .i64 4, .int .i64 a, .int .i64 b, .int .i64 0, .int .i64 0, .int .i64 0] 24))) := D3.out.pair
      go_wp2_with fail
      refine (implOk_any _ _ _ _ _ _ _ _).mono ?_
      rintro r4 w4 ⟨rfl, b4⟩
      have P4 := P3.out.next b4
      obtain ⟨u0, u1, u2, u3, u4, u5, u6, uf⟩ := cells7 P4.two
      have D4 : Hid (Below w.heap.size w w4) := P4.below
      rw [hb]
      clear hb b4 P3 P4 D3
      go_wp2_with fail
      all_goals go_ret
      all_goals exact ⟨ret_bool (by simp; try omega), D4.out⟩

end Go.Proofs.Ytdkkaipejpphmaa
