/-
  Who gives tickets for services: what the specification answers, all being ok.
-/
import Derived.Test.YtghajmfjekfdpaaDoorKdTgsM
import Derived.Test.YtghajmfjekfdpaaDoorKdcSpecL
namespace Go.Proofs.YtghajmfjekfdpaaDoor
open Go.RowKit
attribute [local go_sem ↓] Go.wp_at_zero Go.wp_at_succ

theorem bldMsgG (w : World) (s : Int) (g : Nat) : (Instr.build 33 #[(0, .int .i64 4), (1, .int .i64 s), (4, .slice (some ⟨g, 0, none⟩) 2 2)]).run Tryd.prog w = .ok (.agg #[.int .i64 4, .int .i64 s, .int .i64 0, .int .i64 0, .slice (some ⟨g, 0, none⟩) 2 2]) w := by kernel_rfl

set_option maxHeartbeats 8000000 in
set_option maxRecDepth 100000 in
theorem l11Tgs_any (B : Nat) (n : Int) (a1 : Option Addr) (c1 : Nat) (xs : List Sl) (m cl sv nc : Int) (g2 : Nat) (cap : Nat) (ys : List Sl) (now : Int) (w : World) (hB : B ≤ w.heap.size) (ho : OwnS w B (.slice a1 xs.length c1) xs) (h : SRow w (some ⟨g2, 0, none⟩) ys) (hx : xs.length ≤ 2000000) (hy : ys.length ≤ 2000000) (hn : 0 ≤ now ∧ now ≤ 100) (ha : ∀ u ∈ xs, 0 ≤ u.b ∧ u.b ≤ 100) (hn10 : 10 ≤ n) :
    Calls Tryd.prog 27 #[.agg #[.int .i64 n, .slice a1 xs.length c1], .agg #[.int .i64 m, .int .i64 cl, .int .i64 sv, .int .i64 nc, .slice (some ⟨g2, 0, none⟩) ys.length cap], .int .i64 now] w fun r w' => KAns B w' (askK n xs m cl sv nc ys now) r ∧ Below w.heap.size w w' := by
  have HH : Hid (SRow w a1 xs ∧ SRow w (some ⟨g2, 0, none⟩) ys ∧ OwnS w B (.slice a1 xs.length c1) xs) := ⟨ho.rowAt, h, ho⟩
  clear ho h
  have HL : Hid (0 ≤ now ∧ now ≤ 100 ∧ ∀ u ∈ xs, 0 ≤ u.b ∧ u.b ≤ 100) := ⟨hn.1, hn.2, ha⟩
  clear hn ha
  go_enter Tryd.func27, Tryd.ntmps27
  go_wp2_with fail
  obtain ⟨w1, hX9, HS1⟩ : ∃ X, X = ((((w.alloc (.cells #[.int .i64 n, .slice a1 xs.length c1] 31)).alloc (.cells #[.int .i64 m, .int .i64 cl, .int .i64 sv, .int .i64 nc, .slice (some ⟨g2, 0, none⟩) ys.length cap] 33)).alloc (.cells #[.int .i64 0, .slice none 0 0] 31)).alloc (.cells #[.int .i64 0, .int .i64 0, .int .i64 0, .int .i64 0, .slice none 0 0] 33)) ∧ Hid (St w.heap.size w [⟨w.heap.size, 31, #[.int .i64 n, .slice a1 xs.length c1]⟩, ⟨w.heap.size + 1, 33, #[.int .i64 m, .int .i64 cl, .int .i64 sv, .int .i64 nc, .slice (some ⟨g2, 0, none⟩) ys.length cap]⟩, ⟨w.heap.size + 1 + 1, 31, #[.int .i64 0, .slice none 0 0]⟩, ⟨w.heap.size + 1 + 1 + 1, 33, #[.int .i64 0, .int .i64 0, .int .i64 0, .int .i64 0, .slice none 0 0]⟩] [] X) := ⟨_, rfl, Hid.mk' (by
    have h := (St.alloc #[.int .i64 0, .int .i64 0, .int .i64 0, .int .i64 0, .slice none 0 0] 33 (St.alloc #[.int .i64 0, .slice none 0 0] 31 (St.alloc #[.int .i64 m, .int .i64 cl, .int .i64 sv, .int .i64 nc, .slice (some ⟨g2, 0, none⟩) ys.length cap] 33 (St.alloc #[.int .i64 n, .slice a1 xs.length c1] 31 (St.new w)))))
    try simp only [World.size_alloc] at h
    try simp only [World.size_setCell] at h
    exact h)⟩
  rw [← hX9]
  clear hX9
  by_cases u3 : m = 3
  rotate_left
  · skip
    refine wp_region_walk [14, 15, 16, 17, 18, 19, 20, 21, 22, 23, 24, 25, 26, 27, 28, 29, 30, 31, 32, 33, 34, 35, 36, 37, 38, 39] (fun d s W => St w.heap.size w [⟨w.heap.size, 31, #[.int .i64 n, .slice a1 xs.length c1]⟩, ⟨w.heap.size + 1, 33, #[.int .i64 m, .int .i64 cl, .int .i64 sv, .int .i64 nc, .slice (some ⟨g2, 0, none⟩) ys.length cap]⟩, ⟨w.heap.size + 1 + 1, 31, #[.int .i64 0, .slice none 0 0]⟩, ⟨w.heap.size + 1 + 1 + 1, 33, #[.int .i64 0, .int .i64 0, .int .i64 0, .int .i64 0, .slice none 0 0]⟩] [] W ∧ Looks [(0, 14, Value.pointer (some ⟨w.heap.size + 1, 0, none⟩)), (1, 15, Value.int .i64 m), (2, 16, .bool true), (3, 17, .bool true), (4, 18, undef), (5, 19, undef), (6, 20, undef), (7, 21, .bool true), (8, 22, .bool true), (9, 23, undef), (10, 24, undef), (11, 25, undef), (12, 26, .bool true), (13, 27, .bool true), (14, 28, undef), (15, 29, undef), (16, 30, undef), (17, 31, undef), (18, 32, undef), (19, 33, undef), (20, 34, undef), (21, 35, undef), (22, 36, undef), (23, 37, undef), (24, 38, undef), (25, 39, .bool true)] d s) [0, 1, 2, 3, 4, 5, 6, 7, 8, 9, 10, 11, 12, 13, 14, 15, 16, 17, 18, 19, 20, 21, 22, 23, 24, 25] (by kernel_rfl) (by kernel_rfl) (by kernel_rfl) ?_ ?_ ?_
    · intro s
      exact ⟨HS1.out.drew, Looks.none _ _⟩
    · refine StepsR.cons (k := 0) [] (by kernel_rfl) ?_ (StepsR.cons (k := 1) [0] (by kernel_rfl) ?_ (StepsR.cons (k := 2) [1] (by kernel_rfl) ?_ (StepsR.cons (k := 3) [2] (by kernel_rfl) ?_ (StepsR.cons (k := 4) [3] (by kernel_rfl) ?_ (StepsR.cons (k := 5) [3] (by kernel_rfl) ?_ (StepsR.cons (k := 6) [3] (by kernel_rfl) ?_ (StepsR.cons (k := 7) [3, 6] (by kernel_rfl) ?_ (StepsR.cons (k := 8) [7] (by kernel_rfl) ?_ (StepsR.cons (k := 9) [8] (by kernel_rfl) ?_ (StepsR.cons (k := 10) [8] (by kernel_rfl) ?_ (StepsR.cons (k := 11) [8] (by kernel_rfl) ?_ (StepsR.cons (k := 12) [8, 11] (by kernel_rfl) ?_ (StepsR.cons (k := 13) [12] (by kernel_rfl) ?_ (StepsR.cons (k := 14) [13] (by kernel_rfl) ?_ (StepsR.cons (k := 15) [13] (by kernel_rfl) ?_ (StepsR.cons (k := 16) [13] (by kernel_rfl) ?_ (StepsR.cons (k := 17) [13] (by kernel_rfl) ?_ (StepsR.cons (k := 18) [13] (by kernel_rfl) ?_ (StepsR.cons (k := 19) [13] (by kernel_rfl) ?_ (StepsR.cons (k := 20) [13] (by kernel_rfl) ?_ (StepsR.cons (k := 21) [13] (by kernel_rfl) ?_ (StepsR.cons (k := 22) [13] (by kernel_rfl) ?_ (StepsR.cons (k := 23) [13] (by kernel_rfl) ?_ (StepsR.cons (k := 24) [13] (by kernel_rfl) ?_ (StepsR.cons (k := 25) [13, 24] (by kernel_rfl) ?_ (StepsR.nil))))))))))))))))))))))))))
      · intro d s w9 hd hA hC hF K hK
        have hB9 := hF.1.bel
        simp only [putL, putT, List.setIfInBounds_toArray, List.set_cons_zero, List.set_cons_succ]
        clear hB9
        as_aux_lemma =>
          go_simp
          refine hK.out (updS s 14 (Value.pointer (some ⟨w.heap.size + 1, 0, none⟩))) _ _ ?_ ⟨hF.1, hF.2.put 0 14 (Value.pointer (some ⟨w.heap.size + 1, 0, none⟩)) rfl (by simp)⟩
          simp only [putL, putT, List.setIfInBounds_toArray, List.set_cons_zero, List.set_cons_succ]; rfl
      · intro d s w9 hd hA hC hF K hK
        have hB9 := hF.1.bel
        simp only [putL, putT, List.setIfInBounds_toArray, List.set_cons_zero, List.set_cons_succ]
        clear hB9
        as_aux_lemma =>
          have eq0 : s 14 = Value.pointer (some ⟨w.heap.size + 1, 0, none⟩) := hF.2 (0, 14, Value.pointer (some ⟨w.heap.size + 1, 0, none⟩)) (by simp) (hA.1)
          rw [eq0]
          have p0 := hF.1.cell 1 rfl 0 (.int .i64 m) rfl
          go_simp
          clear p0
          refine hK.out (updS s 15 (Value.int .i64 m)) _ _ ?_ ⟨hF.1, hF.2.put 1 15 (Value.int .i64 m) rfl (by simp)⟩
          simp only [putL, putT, List.setIfInBounds_toArray, List.set_cons_zero, List.set_cons_succ]; rw [show updS s 15 (Value.int .i64 m) 14 = Value.pointer (some ⟨w.heap.size + 1, 0, none⟩) from eq0]; rfl
      · intro d s w9 hd hA hC hF K hK
        have hB9 := hF.1.bel
        simp only [putL, putT, List.setIfInBounds_toArray, List.set_cons_zero, List.set_cons_succ]
        clear hB9
        as_aux_lemma =>
          have eq1 : s 15 = Value.int .i64 m := hF.2 (1, 15, Value.int .i64 m) (by simp) (hA.1)
          rw [eq1]
          have hne9 : (m != 3) = true := by simpa using u3
          go_simp
          try rw [hne9]
          refine hK.out (updS s 16 (.bool true)) _ _ ?_ ⟨hF.1, hF.2.put 2 16 (.bool true) rfl (by simp)⟩
          simp only [putL, putT, List.setIfInBounds_toArray, List.set_cons_zero, List.set_cons_succ]; rw [show updS s 16 (.bool true) 15 = Value.int .i64 m from eq1]; rfl
      · intro d s w9 hd hA hC hF K hK
        have hB9 := hF.1.bel
        simp only [putL, putT, List.setIfInBounds_toArray, List.set_cons_zero, List.set_cons_succ]
        clear hB9
        as_aux_lemma =>
          have eq2 : s 16 = .bool true := hF.2 (2, 16, .bool true) (by simp) (hA.1)
          rw [eq2]
          go_simp
          refine hK.out (updS s 17 (.bool true)) _ _ ?_ ⟨hF.1, hF.2.put 3 17 (.bool true) rfl (by simp)⟩
          simp only [putL, putT, List.setIfInBounds_toArray, List.set_cons_zero, List.set_cons_succ]; rw [show updS s 17 (.bool true) 16 = .bool true from eq2]; rfl
      · intro d s w9 hd hA hC hF K hK
        have hB9 := hF.1.bel
        simp only [putL, putT, List.setIfInBounds_toArray, List.set_cons_zero, List.set_cons_succ]
        clear hB9
        as_aux_lemma =>
          have eq3 : s 17 = .bool true := hF.2 (3, 17, .bool true) (by simp) (hA.1)
          rw [eq3]
          go_simp
          refine hK.out (updS s 18 (undef)) _ _ ?_ ⟨hF.1, hF.2.put 4 18 (undef) rfl (by simp)⟩
          simp only [putL, putT, List.setIfInBounds_toArray, List.set_cons_zero, List.set_cons_succ]; rw [show updS s 18 (undef) 17 = .bool true from eq3]; rfl
      · intro d s w9 hd hA hC hF K hK
        have hB9 := hF.1.bel
        simp only [putL, putT, List.setIfInBounds_toArray, List.set_cons_zero, List.set_cons_succ]
        clear hB9
        as_aux_lemma =>
          have eq3 : s 17 = .bool true := hF.2 (3, 17, .bool true) (by simp) (hA.1)
          rw [eq3]
          go_simp
          refine hK.out (updS s 19 (undef)) _ _ ?_ ⟨hF.1, hF.2.put 5 19 (undef) rfl (by simp)⟩
          simp only [putL, putT, List.setIfInBounds_toArray, List.set_cons_zero, List.set_cons_succ]; rw [show updS s 19 (undef) 17 = .bool true from eq3]; rfl
      · intro d s w9 hd hA hC hF K hK
        have hB9 := hF.1.bel
        simp only [putL, putT, List.setIfInBounds_toArray, List.set_cons_zero, List.set_cons_succ]
        clear hB9
        as_aux_lemma =>
          have eq3 : s 17 = .bool true := hF.2 (3, 17, .bool true) (by simp) (hA.1)
          rw [eq3]
          go_simp
          refine hK.out (updS s 20 (undef)) _ _ ?_ ⟨hF.1, hF.2.put 6 20 (undef) rfl (by simp)⟩
          simp only [putL, putT, List.setIfInBounds_toArray, List.set_cons_zero, List.set_cons_succ]; rw [show updS s 20 (undef) 17 = .bool true from eq3]; rfl
      · intro d s w9 hd hA hC hF K hK
        have hB9 := hF.1.bel
        simp only [putL, putT, List.setIfInBounds_toArray, List.set_cons_zero, List.set_cons_succ]
        clear hB9
        as_aux_lemma =>
          have eq3 : s 17 = .bool true := hF.2 (3, 17, .bool true) (by simp) (hA.1)
          rw [eq3]
          go_simp
          refine hK.out (updS s 21 (.bool true)) _ _ ?_ ⟨hF.1, hF.2.put 7 21 (.bool true) rfl (by simp)⟩
          simp only [putL, putT, List.setIfInBounds_toArray, List.set_cons_zero, List.set_cons_succ]; rw [show updS s 21 (.bool true) 17 = .bool true from eq3]; rfl
      · intro d s w9 hd hA hC hF K hK
        have hB9 := hF.1.bel
        simp only [putL, putT, List.setIfInBounds_toArray, List.set_cons_zero, List.set_cons_succ]
        clear hB9
        as_aux_lemma =>
          have eq7 : s 21 = .bool true := hF.2 (7, 21, .bool true) (by simp) (hA.1)
          rw [eq7]
          go_simp
          refine hK.out (updS s 22 (.bool true)) _ _ ?_ ⟨hF.1, hF.2.put 8 22 (.bool true) rfl (by simp)⟩
          simp only [putL, putT, List.setIfInBounds_toArray, List.set_cons_zero, List.set_cons_succ]; rw [show updS s 22 (.bool true) 21 = .bool true from eq7]; rfl
      · intro d s w9 hd hA hC hF K hK
        have hB9 := hF.1.bel
        simp only [putL, putT, List.setIfInBounds_toArray, List.set_cons_zero, List.set_cons_succ]
        clear hB9
        as_aux_lemma =>
          have eq8 : s 22 = .bool true := hF.2 (8, 22, .bool true) (by simp) (hA.1)
          rw [eq8]
          go_simp
          refine hK.out (updS s 23 (undef)) _ _ ?_ ⟨hF.1, hF.2.put 9 23 (undef) rfl (by simp)⟩
          simp only [putL, putT, List.setIfInBounds_toArray, List.set_cons_zero, List.set_cons_succ]; rw [show updS s 23 (undef) 22 = .bool true from eq8]; rfl
      · intro d s w9 hd hA hC hF K hK
        have hB9 := hF.1.bel
        simp only [putL, putT, List.setIfInBounds_toArray, List.set_cons_zero, List.set_cons_succ]
        clear hB9
        as_aux_lemma =>
          have eq8 : s 22 = .bool true := hF.2 (8, 22, .bool true) (by simp) (hA.1)
          rw [eq8]
          go_simp
          refine hK.out (updS s 24 (undef)) _ _ ?_ ⟨hF.1, hF.2.put 10 24 (undef) rfl (by simp)⟩
          simp only [putL, putT, List.setIfInBounds_toArray, List.set_cons_zero, List.set_cons_succ]; rw [show updS s 24 (undef) 22 = .bool true from eq8]; rfl
      · intro d s w9 hd hA hC hF K hK
        have hB9 := hF.1.bel
        simp only [putL, putT, List.setIfInBounds_toArray, List.set_cons_zero, List.set_cons_succ]
        clear hB9
        as_aux_lemma =>
          have eq8 : s 22 = .bool true := hF.2 (8, 22, .bool true) (by simp) (hA.1)
          rw [eq8]
          go_simp
          refine hK.out (updS s 25 (undef)) _ _ ?_ ⟨hF.1, hF.2.put 11 25 (undef) rfl (by simp)⟩
          simp only [putL, putT, List.setIfInBounds_toArray, List.set_cons_zero, List.set_cons_succ]; rw [show updS s 25 (undef) 22 = .bool true from eq8]; rfl
      · intro d s w9 hd hA hC hF K hK
        have hB9 := hF.1.bel
        simp only [putL, putT, List.setIfInBounds_toArray, List.set_cons_zero, List.set_cons_succ]
        clear hB9
        as_aux_lemma =>
          have eq8 : s 22 = .bool true := hF.2 (8, 22, .bool true) (by simp) (hA.1)
          rw [eq8]
          go_simp
          refine hK.out (updS s 26 (.bool true)) _ _ ?_ ⟨hF.1, hF.2.put 12 26 (.bool true) rfl (by simp)⟩
          simp only [putL, putT, List.setIfInBounds_toArray, List.set_cons_zero, List.set_cons_succ]; rw [show updS s 26 (.bool true) 22 = .bool true from eq8]; rfl
      · intro d s w9 hd hA hC hF K hK
        have hB9 := hF.1.bel
        simp only [putL, putT, List.setIfInBounds_toArray, List.set_cons_zero, List.set_cons_succ]
        clear hB9
        as_aux_lemma =>
          have eq12 : s 26 = .bool true := hF.2 (12, 26, .bool true) (by simp) (hA.1)
          rw [eq12]
          go_simp
          refine hK.out (updS s 27 (.bool true)) _ _ ?_ ⟨hF.1, hF.2.put 13 27 (.bool true) rfl (by simp)⟩
          simp only [putL, putT, List.setIfInBounds_toArray, List.set_cons_zero, List.set_cons_succ]; rw [show updS s 27 (.bool true) 26 = .bool true from eq12]; rfl
      · intro d s w9 hd hA hC hF K hK
        have hB9 := hF.1.bel
        simp only [putL, putT, List.setIfInBounds_toArray, List.set_cons_zero, List.set_cons_succ]
        clear hB9
        as_aux_lemma =>
          have eq13 : s 27 = .bool true := hF.2 (13, 27, .bool true) (by simp) (hA.1)
          rw [eq13]
          go_simp
          refine hK.out (updS s 28 (undef)) _ _ ?_ ⟨hF.1, hF.2.put 14 28 (undef) rfl (by simp)⟩
          simp only [putL, putT, List.setIfInBounds_toArray, List.set_cons_zero, List.set_cons_succ]; rw [show updS s 28 (undef) 27 = .bool true from eq13]; rfl
      · intro d s w9 hd hA hC hF K hK
        have hB9 := hF.1.bel
        simp only [putL, putT, List.setIfInBounds_toArray, List.set_cons_zero, List.set_cons_succ]
        clear hB9
        as_aux_lemma =>
          have eq13 : s 27 = .bool true := hF.2 (13, 27, .bool true) (by simp) (hA.1)
          rw [eq13]
          go_simp
          refine hK.out (updS s 29 (undef)) _ _ ?_ ⟨hF.1, hF.2.put 15 29 (undef) rfl (by simp)⟩
          simp only [putL, putT, List.setIfInBounds_toArray, List.set_cons_zero, List.set_cons_succ]; rw [show updS s 29 (undef) 27 = .bool true from eq13]; rfl
      · intro d s w9 hd hA hC hF K hK
        have hB9 := hF.1.bel
        simp only [putL, putT, List.setIfInBounds_toArray, List.set_cons_zero, List.set_cons_succ]
        clear hB9
        as_aux_lemma =>
          have eq13 : s 27 = .bool true := hF.2 (13, 27, .bool true) (by simp) (hA.1)
          rw [eq13]
          go_simp
          refine hK.out (updS s 30 (undef)) _ _ ?_ ⟨hF.1, hF.2.put 16 30 (undef) rfl (by simp)⟩
          simp only [putL, putT, List.setIfInBounds_toArray, List.set_cons_zero, List.set_cons_succ]; rw [show updS s 30 (undef) 27 = .bool true from eq13]; rfl
      · intro d s w9 hd hA hC hF K hK
        have hB9 := hF.1.bel
        simp only [putL, putT, List.setIfInBounds_toArray, List.set_cons_zero, List.set_cons_succ]
        clear hB9
        as_aux_lemma =>
          have eq13 : s 27 = .bool true := hF.2 (13, 27, .bool true) (by simp) (hA.1)
          rw [eq13]
          go_simp
          refine hK.out (updS s 31 (undef)) _ _ ?_ ⟨hF.1, hF.2.put 17 31 (undef) rfl (by simp)⟩
          simp only [putL, putT, List.setIfInBounds_toArray, List.set_cons_zero, List.set_cons_succ]; rw [show updS s 31 (undef) 27 = .bool true from eq13]; rfl
      · intro d s w9 hd hA hC hF K hK
        have hB9 := hF.1.bel
        simp only [putL, putT, List.setIfInBounds_toArray, List.set_cons_zero, List.set_cons_succ]
        clear hB9
        as_aux_lemma =>
          have eq13 : s 27 = .bool true := hF.2 (13, 27, .bool true) (by simp) (hA.1)
          rw [eq13]
          go_simp
          refine hK.out (updS s 32 (undef)) _ _ ?_ ⟨hF.1, hF.2.put 18 32 (undef) rfl (by simp)⟩
          simp only [putL, putT, List.setIfInBounds_toArray, List.set_cons_zero, List.set_cons_succ]; rw [show updS s 32 (undef) 27 = .bool true from eq13]; rfl
      · intro d s w9 hd hA hC hF K hK
        have hB9 := hF.1.bel
        simp only [putL, putT, List.setIfInBounds_toArray, List.set_cons_zero, List.set_cons_succ]
        clear hB9
        as_aux_lemma =>
          have eq13 : s 27 = .bool true := hF.2 (13, 27, .bool true) (by simp) (hA.1)
          rw [eq13]
          go_simp
          refine hK.out (updS s 33 (undef)) _ _ ?_ ⟨hF.1, hF.2.put 19 33 (undef) rfl (by simp)⟩
          simp only [putL, putT, List.setIfInBounds_toArray, List.set_cons_zero, List.set_cons_succ]; rw [show updS s 33 (undef) 27 = .bool true from eq13]; rfl
      · intro d s w9 hd hA hC hF K hK
        have hB9 := hF.1.bel
        simp only [putL, putT, List.setIfInBounds_toArray, List.set_cons_zero, List.set_cons_succ]
        clear hB9
        as_aux_lemma =>
          have eq13 : s 27 = .bool true := hF.2 (13, 27, .bool true) (by simp) (hA.1)
          rw [eq13]
          go_simp
          refine hK.out (updS s 34 (undef)) _ _ ?_ ⟨hF.1, hF.2.put 20 34 (undef) rfl (by simp)⟩
          simp only [putL, putT, List.setIfInBounds_toArray, List.set_cons_zero, List.set_cons_succ]; rw [show updS s 34 (undef) 27 = .bool true from eq13]; rfl
      · intro d s w9 hd hA hC hF K hK
        have hB9 := hF.1.bel
        simp only [putL, putT, List.setIfInBounds_toArray, List.set_cons_zero, List.set_cons_succ]
        clear hB9
        as_aux_lemma =>
          have eq13 : s 27 = .bool true := hF.2 (13, 27, .bool true) (by simp) (hA.1)
          rw [eq13]
          go_simp
          refine hK.out (updS s 35 (undef)) _ _ ?_ ⟨hF.1, hF.2.put 21 35 (undef) rfl (by simp)⟩
          simp only [putL, putT, List.setIfInBounds_toArray, List.set_cons_zero, List.set_cons_succ]; rw [show updS s 35 (undef) 27 = .bool true from eq13]; rfl
      · intro d s w9 hd hA hC hF K hK
        have hB9 := hF.1.bel
        simp only [putL, putT, List.setIfInBounds_toArray, List.set_cons_zero, List.set_cons_succ]
        clear hB9
        as_aux_lemma =>
          have eq13 : s 27 = .bool true := hF.2 (13, 27, .bool true) (by simp) (hA.1)
          rw [eq13]
          go_simp
          refine hK.out (updS s 36 (undef)) _ _ ?_ ⟨hF.1, hF.2.put 22 36 (undef) rfl (by simp)⟩
          simp only [putL, putT, List.setIfInBounds_toArray, List.set_cons_zero, List.set_cons_succ]; rw [show updS s 36 (undef) 27 = .bool true from eq13]; rfl
      · intro d s w9 hd hA hC hF K hK
        have hB9 := hF.1.bel
        simp only [putL, putT, List.setIfInBounds_toArray, List.set_cons_zero, List.set_cons_succ]
        clear hB9
        as_aux_lemma =>
          have eq13 : s 27 = .bool true := hF.2 (13, 27, .bool true) (by simp) (hA.1)
          rw [eq13]
          go_simp
          refine hK.out (updS s 37 (undef)) _ _ ?_ ⟨hF.1, hF.2.put 23 37 (undef) rfl (by simp)⟩
          simp only [putL, putT, List.setIfInBounds_toArray, List.set_cons_zero, List.set_cons_succ]; rw [show updS s 37 (undef) 27 = .bool true from eq13]; rfl
      · intro d s w9 hd hA hC hF K hK
        have hB9 := hF.1.bel
        simp only [putL, putT, List.setIfInBounds_toArray, List.set_cons_zero, List.set_cons_succ]
        clear hB9
        as_aux_lemma =>
          have eq13 : s 27 = .bool true := hF.2 (13, 27, .bool true) (by simp) (hA.1)
          rw [eq13]
          go_simp
          refine hK.out (updS s 38 (undef)) _ _ ?_ ⟨hF.1, hF.2.put 24 38 (undef) rfl (by simp)⟩
          simp only [putL, putT, List.setIfInBounds_toArray, List.set_cons_zero, List.set_cons_succ]; rw [show updS s 38 (undef) 27 = .bool true from eq13]; rfl
      · intro d s w9 hd hA hC hF K hK
        have hB9 := hF.1.bel
        simp only [putL, putT, List.setIfInBounds_toArray, List.set_cons_zero, List.set_cons_succ]
        clear hB9
        as_aux_lemma =>
          have eq13 : s 27 = .bool true := hF.2 (13, 27, .bool true) (by simp) (hA.1)
          rw [eq13]
          go_simp
          refine hK.out (updS s 39 (.bool true)) _ _ ?_ ⟨hF.1, hF.2.put 25 39 (.bool true) rfl (by simp)⟩
          simp only [putL, putT, List.setIfInBounds_toArray, List.set_cons_zero, List.set_cons_succ]; rw [show updS s 39 (.bool true) 27 = .bool true from eq13]; rfl
    · intro d s w3 hA hF
      have hS := hF.1
      have eq25 : s 39 = .bool true := hF.2 (25, 39, .bool true) (by simp) (hA.2.2.2.2.2.2.2.2.2.2.2.2.2.2.2.2.2.2.2.2.2.2.2.2.2.1)
      have HS2 : Hid (St w.heap.size w [⟨w.heap.size, 31, #[.int .i64 n, .slice a1 xs.length c1]⟩, ⟨w.heap.size + 1, 33, #[.int .i64 m, .int .i64 cl, .int .i64 sv, .int .i64 nc, .slice (some ⟨g2, 0, none⟩) ys.length cap]⟩, ⟨w.heap.size + 1 + 1, 31, #[.int .i64 0, .slice none 0 0]⟩, ⟨w.heap.size + 1 + 1 + 1, 33, #[.int .i64 0, .int .i64 0, .int .i64 0, .int .i64 0, .slice none 0 0]⟩] [] w3) := hS
      clear hS hF hA HS1
      simp only [putL, putT, List.setIfInBounds_toArray, List.set_cons_zero, List.set_cons_succ]
      rw [eq25]
      clear eq25
      have EA : Hid (askK n xs m cl sv nc ys now = keepK n xs) := Hid.mk' (by unfold askK; rw [if_neg (by unfold canB; simp [u3])])
      have lt0 : w.heap.size < w3.heap.size := (HS2.out.lt 0 rfl).2
      have lt1 : w.heap.size + 1 < w3.heap.size := (HS2.out.lt 1 rfl).2
      have lt2 : w.heap.size + 1 + 1 < w3.heap.size := (HS2.out.lt 2 rfl).2
      have lt3 : w.heap.size + 1 + 1 + 1 < w3.heap.size := (HS2.out.lt 3 rfl).2
      have p0 := HS2.out.cell 0 rfl 0 (.int .i64 n) rfl
      have p1 := HS2.out.cell 0 rfl 1 (.slice a1 xs.length c1) rfl
      have z0 := HS2.out.cell 2 rfl 0 (.int .i64 0) rfl
      have zf0 := HS2.out.fro 2 rfl 0
      have z1 := HS2.out.cell 2 rfl 1 (.slice none 0 0) rfl
      have zf1 := HS2.out.fro 2 rfl 1
      have y0 := HS2.out.cell 3 rfl 0 (.int .i64 0) rfl
      have yf0 := HS2.out.fro 3 rfl 0
      have y1 := HS2.out.cell 3 rfl 1 (.int .i64 0) rfl
      have yf1 := HS2.out.fro 3 rfl 1
      have y2 := HS2.out.cell 3 rfl 2 (.int .i64 0) rfl
      have yf2 := HS2.out.fro 3 rfl 2
      have y3 := HS2.out.cell 3 rfl 3 (.int .i64 0) rfl
      have yf3 := HS2.out.fro 3 rfl 3
      have y4 := HS2.out.cell 3 rfl 4 (.slice none 0 0) rfl
      have yf4 := HS2.out.fro 3 rfl 4
      go_wp2_with fail
      clear lt0 lt1 lt2 lt3 p0 p1 z0 zf0 z1 zf1 y0 yf0 y1 yf1 y2 yf2 y3 yf3 y4 yf4
      obtain ⟨V, hX9, HS3⟩ : ∃ X, X = (((((((w3.setCell ⟨w.heap.size + 1 + 1, 0, none⟩ (.int .i64 n)).setCell ⟨w.heap.size + 1 + 1, 1, none⟩ (.slice a1 xs.length c1)).setCell ⟨w.heap.size + 1 + 1 + 1, 0, none⟩ (.int .i64 0)).setCell ⟨w.heap.size + 1 + 1 + 1, 1, none⟩ (.int .i64 0)).setCell ⟨w.heap.size + 1 + 1 + 1, 2, none⟩ (.int .i64 0)).setCell ⟨w.heap.size + 1 + 1 + 1, 3, none⟩ (.int .i64 0)).setCell ⟨w.heap.size + 1 + 1 + 1, 4, none⟩ (.slice none 0 0)) ∧ Hid (St w.heap.size w [⟨w.heap.size, 31, #[.int .i64 n, .slice a1 xs.length c1]⟩, ⟨w.heap.size + 1, 33, #[.int .i64 m, .int .i64 cl, .int .i64 sv, .int .i64 nc, .slice (some ⟨g2, 0, none⟩) ys.length cap]⟩, ⟨w.heap.size + 1 + 1, 31, #[.int .i64 n, .slice a1 xs.length c1]⟩, ⟨w.heap.size + 1 + 1 + 1, 33, #[.int .i64 0, .int .i64 0, .int .i64 0, .int .i64 0, .slice none 0 0]⟩] [] X) := ⟨_, rfl, Hid.mk' (by
        have h := (St.put5 3 (St.put2 2 HS2.out rfl rfl (.int .i64 n) (.slice a1 xs.length c1)) rfl rfl (.int .i64 0) (.int .i64 0) (.int .i64 0) (.int .i64 0) (.slice none 0 0))
        try simp only [World.size_alloc] at h
        try simp only [World.size_setCell] at h
        exact h)⟩
      rw [← hX9]
      clear hX9
      clear HS2
      have y0 := HS3.out.cell 2 rfl 0 (.int .i64 n) rfl
      have y1 := HS3.out.cell 2 rfl 1 (.slice a1 xs.length c1) rfl
      have z0 := HS3.out.cell 3 rfl 0 (.int .i64 0) rfl
      have z1 := HS3.out.cell 3 rfl 1 (.int .i64 0) rfl
      have z2 := HS3.out.cell 3 rfl 2 (.int .i64 0) rfl
      have z3 := HS3.out.cell 3 rfl 3 (.int .i64 0) rfl
      have z4 := HS3.out.cell 3 rfl 4 (.slice none 0 0) rfl
      refine bodyPost_ret (v := .tuple #[.agg #[.int .i64 n, .slice a1 xs.length c1], .agg #[.int .i64 0, .int .i64 0, .int .i64 0, .int .i64 0, .slice none 0 0], .bool false]) (by simp [results, Tryd.results27, go_sem, *]) rfl ?_
      rw [EA.out]
      exact ⟨⟨a1, c1, none, 0, B, V.heap.size, rfl, HH.out.2.2.later HS3.out.bel, OwnS.nil _ _, Nat.le_refl _, Nat.le_trans hB (HS3.out.bel).size, fun k hk => (OwnS.low (HH.out.2.2.later HS3.out.bel) k hk).2⟩, HS3.out.bel⟩
  subst u3
  cases u4 : msgB 3 cl sv nc ys
  · skip
    refine wp_region_walk [14, 15, 16, 17, 18, 19, 20, 21, 22, 23, 24, 25, 26, 27, 28, 29, 30, 31, 32, 33, 34, 35, 36, 37, 38, 39] (fun d s W => St w.heap.size w [⟨w.heap.size, 31, #[.int .i64 n, .slice a1 xs.length c1]⟩, ⟨w.heap.size + 1, 33, #[.int .i64 3, .int .i64 cl, .int .i64 sv, .int .i64 nc, .slice (some ⟨g2, 0, none⟩) ys.length cap]⟩, ⟨w.heap.size + 1 + 1, 31, #[.int .i64 0, .slice none 0 0]⟩, ⟨w.heap.size + 1 + 1 + 1, 33, #[.int .i64 0, .int .i64 0, .int .i64 0, .int .i64 0, .slice none 0 0]⟩] [] W ∧ Looks [(0, 14, Value.pointer (some ⟨w.heap.size + 1, 0, none⟩)), (1, 15, Value.int .i64 3), (2, 16, .bool false), (3, 17, .bool false), (4, 18, Value.agg #[.int .i64 3, .int .i64 cl, .int .i64 sv, .int .i64 nc, .slice (some ⟨g2, 0, none⟩) ys.length cap]), (5, 19, .bool false), (6, 20, .bool true), (7, 21, .bool true), (8, 22, .bool true), (9, 23, undef), (10, 24, undef), (11, 25, undef), (12, 26, .bool true), (13, 27, .bool true), (14, 28, undef), (15, 29, undef), (16, 30, undef), (17, 31, undef), (18, 32, undef), (19, 33, undef), (20, 34, undef), (21, 35, undef), (22, 36, undef), (23, 37, undef), (24, 38, undef), (25, 39, .bool true)] d s) [0, 1, 2, 3, 4, 5, 6, 7, 8, 9, 10, 11, 12, 13, 14, 15, 16, 17, 18, 19, 20, 21, 22, 23, 24, 25] (by kernel_rfl) (by kernel_rfl) (by kernel_rfl) ?_ ?_ ?_
    · intro s
      exact ⟨HS1.out.drew, Looks.none _ _⟩
    · refine StepsR.cons (k := 0) [] (by kernel_rfl) ?_ (StepsR.cons (k := 1) [0] (by kernel_rfl) ?_ (StepsR.cons (k := 2) [1] (by kernel_rfl) ?_ (StepsR.cons (k := 3) [2] (by kernel_rfl) ?_ (StepsR.cons (k := 4) [3] (by kernel_rfl) ?_ (StepsR.cons (k := 5) [4, 3] (by kernel_rfl) ?_ (StepsR.cons (k := 6) [3, 5] (by kernel_rfl) ?_ (StepsR.cons (k := 7) [3, 6] (by kernel_rfl) ?_ (StepsR.cons (k := 8) [7] (by kernel_rfl) ?_ (StepsR.cons (k := 9) [8] (by kernel_rfl) ?_ (StepsR.cons (k := 10) [8] (by kernel_rfl) ?_ (StepsR.cons (k := 11) [8] (by kernel_rfl) ?_ (StepsR.cons (k := 12) [8, 11] (by kernel_rfl) ?_ (StepsR.cons (k := 13) [12] (by kernel_rfl) ?_ (StepsR.cons (k := 14) [13] (by kernel_rfl) ?_ (StepsR.cons (k := 15) [13] (by kernel_rfl) ?_ (StepsR.cons (k := 16) [13] (by kernel_rfl) ?_ (StepsR.cons (k := 17) [13] (by kernel_rfl) ?_ (StepsR.cons (k := 18) [13] (by kernel_rfl) ?_ (StepsR.cons (k := 19) [13] (by kernel_rfl) ?_ (StepsR.cons (k := 20) [13] (by kernel_rfl) ?_ (StepsR.cons (k := 21) [13] (by kernel_rfl) ?_ (StepsR.cons (k := 22) [13] (by kernel_rfl) ?_ (StepsR.cons (k := 23) [13] (by kernel_rfl) ?_ (StepsR.cons (k := 24) [13] (by kernel_rfl) ?_ (StepsR.cons (k := 25) [13, 24] (by kernel_rfl) ?_ (StepsR.nil))))))))))))))))))))))))))
      · intro d s w9 hd hA hC hF K hK
        have hB9 := hF.1.bel
        simp only [putL, putT, List.setIfInBounds_toArray, List.set_cons_zero, List.set_cons_succ]
        clear hB9
        as_aux_lemma =>
          go_simp
          refine hK.out (updS s 14 (Value.pointer (some ⟨w.heap.size + 1, 0, none⟩))) _ _ ?_ ⟨hF.1, hF.2.put 0 14 (Value.pointer (some ⟨w.heap.size + 1, 0, none⟩)) rfl (by simp)⟩
          simp only [putL, putT, List.setIfInBounds_toArray, List.set_cons_zero, List.set_cons_succ]; rfl
      · intro d s w9 hd hA hC hF K hK
        have hB9 := hF.1.bel
        simp only [putL, putT, List.setIfInBounds_toArray, List.set_cons_zero, List.set_cons_succ]
        clear hB9
        as_aux_lemma =>
          have eq0 : s 14 = Value.pointer (some ⟨w.heap.size + 1, 0, none⟩) := hF.2 (0, 14, Value.pointer (some ⟨w.heap.size + 1, 0, none⟩)) (by simp) (hA.1)
          rw [eq0]
          have p0 := hF.1.cell 1 rfl 0 (.int .i64 3) rfl
          go_simp
          clear p0
          refine hK.out (updS s 15 (Value.int .i64 3)) _ _ ?_ ⟨hF.1, hF.2.put 1 15 (Value.int .i64 3) rfl (by simp)⟩
          simp only [putL, putT, List.setIfInBounds_toArray, List.set_cons_zero, List.set_cons_succ]; rw [show updS s 15 (Value.int .i64 3) 14 = Value.pointer (some ⟨w.heap.size + 1, 0, none⟩) from eq0]; rfl
      · intro d s w9 hd hA hC hF K hK
        have hB9 := hF.1.bel
        simp only [putL, putT, List.setIfInBounds_toArray, List.set_cons_zero, List.set_cons_succ]
        clear hB9
        as_aux_lemma =>
          have eq1 : s 15 = Value.int .i64 3 := hF.2 (1, 15, Value.int .i64 3) (by simp) (hA.1)
          rw [eq1]
          go_simp
          refine hK.out (updS s 16 (.bool false)) _ _ ?_ ⟨hF.1, hF.2.put 2 16 (.bool false) rfl (by simp)⟩
          simp only [putL, putT, List.setIfInBounds_toArray, List.set_cons_zero, List.set_cons_succ]; rw [show updS s 16 (.bool false) 15 = Value.int .i64 3 from eq1]; rfl
      · intro d s w9 hd hA hC hF K hK
        have hB9 := hF.1.bel
        simp only [putL, putT, List.setIfInBounds_toArray, List.set_cons_zero, List.set_cons_succ]
        clear hB9
        as_aux_lemma =>
          have eq2 : s 16 = .bool false := hF.2 (2, 16, .bool false) (by simp) (hA.1)
          rw [eq2]
          go_simp
          refine hK.out (updS s 17 (.bool false)) _ _ ?_ ⟨hF.1, hF.2.put 3 17 (.bool false) rfl (by simp)⟩
          simp only [putL, putT, List.setIfInBounds_toArray, List.set_cons_zero, List.set_cons_succ]; rw [show updS s 17 (.bool false) 16 = .bool false from eq2]; rfl
      · intro d s w9 hd hA hC hF K hK
        have hB9 := hF.1.bel
        simp only [putL, putT, List.setIfInBounds_toArray, List.set_cons_zero, List.set_cons_succ]
        clear hB9
        as_aux_lemma =>
          have eq3 : s 17 = .bool false := hF.2 (3, 17, .bool false) (by simp) (hA.1)
          rw [eq3]
          have p0 := hF.1.cell 1 rfl 0 (.int .i64 3) rfl
          have p1 := hF.1.cell 1 rfl 1 (.int .i64 cl) rfl
          have p2 := hF.1.cell 1 rfl 2 (.int .i64 sv) rfl
          have p3 := hF.1.cell 1 rfl 3 (.int .i64 nc) rfl
          have p4 := hF.1.cell 1 rfl 4 (.slice (some ⟨g2, 0, none⟩) ys.length cap) rfl
          go_simp
          clear p0 p1 p2 p3 p4
          refine hK.out (updS s 18 (Value.agg #[.int .i64 3, .int .i64 cl, .int .i64 sv, .int .i64 nc, .slice (some ⟨g2, 0, none⟩) ys.length cap])) _ _ ?_ ⟨hF.1, hF.2.put 4 18 (Value.agg #[.int .i64 3, .int .i64 cl, .int .i64 sv, .int .i64 nc, .slice (some ⟨g2, 0, none⟩) ys.length cap]) rfl (by simp)⟩
          simp only [putL, putT, List.setIfInBounds_toArray, List.set_cons_zero, List.set_cons_succ]; rw [show updS s 18 (Value.agg #[.int .i64 3, .int .i64 cl, .int .i64 sv, .int .i64 nc, .slice (some ⟨g2, 0, none⟩) ys.length cap]) 17 = .bool false from eq3]; rfl
      · intro d s w9 hd hA hC hF K hK
        have hB9 := hF.1.bel
        simp only [putL, putT, List.setIfInBounds_toArray, List.set_cons_zero, List.set_cons_succ]
        clear hB9
        as_aux_lemma =>
          have eq4 : s 18 = Value.agg #[.int .i64 3, .int .i64 cl, .int .i64 sv, .int .i64 nc, .slice (some ⟨g2, 0, none⟩) ys.length cap] := hF.2 (4, 18, Value.agg #[.int .i64 3, .int .i64 cl, .int .i64 sv, .int .i64 nc, .slice (some ⟨g2, 0, none⟩) ys.length cap]) (by simp) (hA.1)
          have eq3 : s 17 = .bool false := hF.2 (3, 17, .bool false) (by simp) (hA.2.1)
          rw [eq4, eq3]
          go_simp
          refine (specMsg_any 3 cl sv nc _ _ ys _ (HH.out.2.1.later hF.1.bel) hy).mono ?_
          rintro r w8 ⟨rfl, b9⟩
          rw [u4]
          go_simp
          refine hK.out (updS s 19 (.bool false)) _ _ ?_ ⟨St.grow b9 hF.1, hF.2.put 5 19 (.bool false) rfl (by simp)⟩
          simp only [putL, putT, List.setIfInBounds_toArray, List.set_cons_zero, List.set_cons_succ]
          rw [← eq4, ← eq3]; rfl
      · intro d s w9 hd hA hC hF K hK
        have hB9 := hF.1.bel
        simp only [putL, putT, List.setIfInBounds_toArray, List.set_cons_zero, List.set_cons_succ]
        clear hB9
        as_aux_lemma =>
          have eq3 : s 17 = .bool false := hF.2 (3, 17, .bool false) (by simp) (hA.1)
          have eq5 : s 19 = .bool false := hF.2 (5, 19, .bool false) (by simp) (hA.2.1)
          rw [eq3, eq5]
          go_simp
          refine hK.out (updS s 20 (.bool true)) _ _ ?_ ⟨hF.1, hF.2.put 6 20 (.bool true) rfl (by simp)⟩
          simp only [putL, putT, List.setIfInBounds_toArray, List.set_cons_zero, List.set_cons_succ]; rw [show updS s 20 (.bool true) 17 = .bool false from eq3, show updS s 20 (.bool true) 19 = .bool false from eq5]; rfl
      · intro d s w9 hd hA hC hF K hK
        have hB9 := hF.1.bel
        simp only [putL, putT, List.setIfInBounds_toArray, List.set_cons_zero, List.set_cons_succ]
        clear hB9
        as_aux_lemma =>
          have eq3 : s 17 = .bool false := hF.2 (3, 17, .bool false) (by simp) (hA.1)
          have eq6 : s 20 = .bool true := hF.2 (6, 20, .bool true) (by simp) (hA.2.1)
          rw [eq3, eq6]
          go_simp
          refine hK.out (updS s 21 (.bool true)) _ _ ?_ ⟨hF.1, hF.2.put 7 21 (.bool true) rfl (by simp)⟩
          simp only [putL, putT, List.setIfInBounds_toArray, List.set_cons_zero, List.set_cons_succ]; rw [show updS s 21 (.bool true) 17 = .bool false from eq3, show updS s 21 (.bool true) 20 = .bool true from eq6]; rfl
      · intro d s w9 hd hA hC hF K hK
        have hB9 := hF.1.bel
        simp only [putL, putT, List.setIfInBounds_toArray, List.set_cons_zero, List.set_cons_succ]
        clear hB9
        as_aux_lemma =>
          have eq7 : s 21 = .bool true := hF.2 (7, 21, .bool true) (by simp) (hA.1)
          rw [eq7]
          go_simp
          refine hK.out (updS s 22 (.bool true)) _ _ ?_ ⟨hF.1, hF.2.put 8 22 (.bool true) rfl (by simp)⟩
          simp only [putL, putT, List.setIfInBounds_toArray, List.set_cons_zero, List.set_cons_succ]; rw [show updS s 22 (.bool true) 21 = .bool true from eq7]; rfl
      · intro d s w9 hd hA hC hF K hK
        have hB9 := hF.1.bel
        simp only [putL, putT, List.setIfInBounds_toArray, List.set_cons_zero, List.set_cons_succ]
        clear hB9
        as_aux_lemma =>
          have eq8 : s 22 = .bool true := hF.2 (8, 22, .bool true) (by simp) (hA.1)
          rw [eq8]
          go_simp
          refine hK.out (updS s 23 (undef)) _ _ ?_ ⟨hF.1, hF.2.put 9 23 (undef) rfl (by simp)⟩
          simp only [putL, putT, List.setIfInBounds_toArray, List.set_cons_zero, List.set_cons_succ]; rw [show updS s 23 (undef) 22 = .bool true from eq8]; rfl
      · intro d s w9 hd hA hC hF K hK
        have hB9 := hF.1.bel
        simp only [putL, putT, List.setIfInBounds_toArray, List.set_cons_zero, List.set_cons_succ]
        clear hB9
        as_aux_lemma =>
          have eq8 : s 22 = .bool true := hF.2 (8, 22, .bool true) (by simp) (hA.1)
          rw [eq8]
          go_simp
          refine hK.out (updS s 24 (undef)) _ _ ?_ ⟨hF.1, hF.2.put 10 24 (undef) rfl (by simp)⟩
          simp only [putL, putT, List.setIfInBounds_toArray, List.set_cons_zero, List.set_cons_succ]; rw [show updS s 24 (undef) 22 = .bool true from eq8]; rfl
      · intro d s w9 hd hA hC hF K hK
        have hB9 := hF.1.bel
        simp only [putL, putT, List.setIfInBounds_toArray, List.set_cons_zero, List.set_cons_succ]
        clear hB9
        as_aux_lemma =>
          have eq8 : s 22 = .bool true := hF.2 (8, 22, .bool true) (by simp) (hA.1)
          rw [eq8]
          go_simp
          refine hK.out (updS s 25 (undef)) _ _ ?_ ⟨hF.1, hF.2.put 11 25 (undef) rfl (by simp)⟩
          simp only [putL, putT, List.setIfInBounds_toArray, List.set_cons_zero, List.set_cons_succ]; rw [show updS s 25 (undef) 22 = .bool true from eq8]; rfl
      · intro d s w9 hd hA hC hF K hK
        have hB9 := hF.1.bel
        simp only [putL, putT, List.setIfInBounds_toArray, List.set_cons_zero, List.set_cons_succ]
        clear hB9
        as_aux_lemma =>
          have eq8 : s 22 = .bool true := hF.2 (8, 22, .bool true) (by simp) (hA.1)
          rw [eq8]
          go_simp
          refine hK.out (updS s 26 (.bool true)) _ _ ?_ ⟨hF.1, hF.2.put 12 26 (.bool true) rfl (by simp)⟩
          simp only [putL, putT, List.setIfInBounds_toArray, List.set_cons_zero, List.set_cons_succ]; rw [show updS s 26 (.bool true) 22 = .bool true from eq8]; rfl
      · intro d s w9 hd hA hC hF K hK
        have hB9 := hF.1.bel
        simp only [putL, putT, List.setIfInBounds_toArray, List.set_cons_zero, List.set_cons_succ]
        clear hB9
        as_aux_lemma =>
          have eq12 : s 26 = .bool true := hF.2 (12, 26, .bool true) (by simp) (hA.1)
          rw [eq12]
          go_simp
          refine hK.out (updS s 27 (.bool true)) _ _ ?_ ⟨hF.1, hF.2.put 13 27 (.bool true) rfl (by simp)⟩
          simp only [putL, putT, List.setIfInBounds_toArray, List.set_cons_zero, List.set_cons_succ]; rw [show updS s 27 (.bool true) 26 = .bool true from eq12]; rfl
      · intro d s w9 hd hA hC hF K hK
        have hB9 := hF.1.bel
        simp only [putL, putT, List.setIfInBounds_toArray, List.set_cons_zero, List.set_cons_succ]
        clear hB9
        as_aux_lemma =>
          have eq13 : s 27 = .bool true := hF.2 (13, 27, .bool true) (by simp) (hA.1)
          rw [eq13]
          go_simp
          refine hK.out (updS s 28 (undef)) _ _ ?_ ⟨hF.1, hF.2.put 14 28 (undef) rfl (by simp)⟩
          simp only [putL, putT, List.setIfInBounds_toArray, List.set_cons_zero, List.set_cons_succ]; rw [show updS s 28 (undef) 27 = .bool true from eq13]; rfl
      · intro d s w9 hd hA hC hF K hK
        have hB9 := hF.1.bel
        simp only [putL, putT, List.setIfInBounds_toArray, List.set_cons_zero, List.set_cons_succ]
        clear hB9
        as_aux_lemma =>
          have eq13 : s 27 = .bool true := hF.2 (13, 27, .bool true) (by simp) (hA.1)
          rw [eq13]
          go_simp
          refine hK.out (updS s 29 (undef)) _ _ ?_ ⟨hF.1, hF.2.put 15 29 (undef) rfl (by simp)⟩
          simp only [putL, putT, List.setIfInBounds_toArray, List.set_cons_zero, List.set_cons_succ]; rw [show updS s 29 (undef) 27 = .bool true from eq13]; rfl
      · intro d s w9 hd hA hC hF K hK
        have hB9 := hF.1.bel
        simp only [putL, putT, List.setIfInBounds_toArray, List.set_cons_zero, List.set_cons_succ]
        clear hB9
        as_aux_lemma =>
          have eq13 : s 27 = .bool true := hF.2 (13, 27, .bool true) (by simp) (hA.1)
          rw [eq13]
          go_simp
          refine hK.out (updS s 30 (undef)) _ _ ?_ ⟨hF.1, hF.2.put 16 30 (undef) rfl (by simp)⟩
          simp only [putL, putT, List.setIfInBounds_toArray, List.set_cons_zero, List.set_cons_succ]; rw [show updS s 30 (undef) 27 = .bool true from eq13]; rfl
      · intro d s w9 hd hA hC hF K hK
        have hB9 := hF.1.bel
        simp only [putL, putT, List.setIfInBounds_toArray, List.set_cons_zero, List.set_cons_succ]
        clear hB9
        as_aux_lemma =>
          have eq13 : s 27 = .bool true := hF.2 (13, 27, .bool true) (by simp) (hA.1)
          rw [eq13]
          go_simp
          refine hK.out (updS s 31 (undef)) _ _ ?_ ⟨hF.1, hF.2.put 17 31 (undef) rfl (by simp)⟩
          simp only [putL, putT, List.setIfInBounds_toArray, List.set_cons_zero, List.set_cons_succ]; rw [show updS s 31 (undef) 27 = .bool true from eq13]; rfl
      · intro d s w9 hd hA hC hF K hK
        have hB9 := hF.1.bel
        simp only [putL, putT, List.setIfInBounds_toArray, List.set_cons_zero, List.set_cons_succ]
        clear hB9
        as_aux_lemma =>
          have eq13 : s 27 = .bool true := hF.2 (13, 27, .bool true) (by simp) (hA.1)
          rw [eq13]
          go_simp
          refine hK.out (updS s 32 (undef)) _ _ ?_ ⟨hF.1, hF.2.put 18 32 (undef) rfl (by simp)⟩
          simp only [putL, putT, List.setIfInBounds_toArray, List.set_cons_zero, List.set_cons_succ]; rw [show updS s 32 (undef) 27 = .bool true from eq13]; rfl
      · intro d s w9 hd hA hC hF K hK
        have hB9 := hF.1.bel
        simp only [putL, putT, List.setIfInBounds_toArray, List.set_cons_zero, List.set_cons_succ]
        clear hB9
        as_aux_lemma =>
          have eq13 : s 27 = .bool true := hF.2 (13, 27, .bool true) (by simp) (hA.1)
          rw [eq13]
          go_simp
          refine hK.out (updS s 33 (undef)) _ _ ?_ ⟨hF.1, hF.2.put 19 33 (undef) rfl (by simp)⟩
          simp only [putL, putT, List.setIfInBounds_toArray, List.set_cons_zero, List.set_cons_succ]; rw [show updS s 33 (undef) 27 = .bool true from eq13]; rfl
      · intro d s w9 hd hA hC hF K hK
        have hB9 := hF.1.bel
        simp only [putL, putT, List.setIfInBounds_toArray, List.set_cons_zero, List.set_cons_succ]
        clear hB9
        as_aux_lemma =>
          have eq13 : s 27 = .bool true := hF.2 (13, 27, .bool true) (by simp) (hA.1)
          rw [eq13]
          go_simp
          refine hK.out (updS s 34 (undef)) _ _ ?_ ⟨hF.1, hF.2.put 20 34 (undef) rfl (by simp)⟩
          simp only [putL, putT, List.setIfInBounds_toArray, List.set_cons_zero, List.set_cons_succ]; rw [show updS s 34 (undef) 27 = .bool true from eq13]; rfl
      · intro d s w9 hd hA hC hF K hK
        have hB9 := hF.1.bel
        simp only [putL, putT, List.setIfInBounds_toArray, List.set_cons_zero, List.set_cons_succ]
        clear hB9
        as_aux_lemma =>
          have eq13 : s 27 = .bool true := hF.2 (13, 27, .bool true) (by simp) (hA.1)
          rw [eq13]
          go_simp
          refine hK.out (updS s 35 (undef)) _ _ ?_ ⟨hF.1, hF.2.put 21 35 (undef) rfl (by simp)⟩
          simp only [putL, putT, List.setIfInBounds_toArray, List.set_cons_zero, List.set_cons_succ]; rw [show updS s 35 (undef) 27 = .bool true from eq13]; rfl
      · intro d s w9 hd hA hC hF K hK
        have hB9 := hF.1.bel
        simp only [putL, putT, List.setIfInBounds_toArray, List.set_cons_zero, List.set_cons_succ]
        clear hB9
        as_aux_lemma =>
          have eq13 : s 27 = .bool true := hF.2 (13, 27, .bool true) (by simp) (hA.1)
          rw [eq13]
          go_simp
          refine hK.out (updS s 36 (undef)) _ _ ?_ ⟨hF.1, hF.2.put 22 36 (undef) rfl (by simp)⟩
          simp only [putL, putT, List.setIfInBounds_toArray, List.set_cons_zero, List.set_cons_succ]; rw [show updS s 36 (undef) 27 = .bool true from eq13]; rfl
      · intro d s w9 hd hA hC hF K hK
        have hB9 := hF.1.bel
        simp only [putL, putT, List.setIfInBounds_toArray, List.set_cons_zero, List.set_cons_succ]
        clear hB9
        as_aux_lemma =>
          have eq13 : s 27 = .bool true := hF.2 (13, 27, .bool true) (by simp) (hA.1)
          rw [eq13]
          go_simp
          refine hK.out (updS s 37 (undef)) _ _ ?_ ⟨hF.1, hF.2.put 23 37 (undef) rfl (by simp)⟩
          simp only [putL, putT, List.setIfInBounds_toArray, List.set_cons_zero, List.set_cons_succ]; rw [show updS s 37 (undef) 27 = .bool true from eq13]; rfl
      · intro d s w9 hd hA hC hF K hK
        have hB9 := hF.1.bel
        simp only [putL, putT, List.setIfInBounds_toArray, List.set_cons_zero, List.set_cons_succ]
        clear hB9
        as_aux_lemma =>
          have eq13 : s 27 = .bool true := hF.2 (13, 27, .bool true) (by simp) (hA.1)
          rw [eq13]
          go_simp
          refine hK.out (updS s 38 (undef)) _ _ ?_ ⟨hF.1, hF.2.put 24 38 (undef) rfl (by simp)⟩
          simp only [putL, putT, List.setIfInBounds_toArray, List.set_cons_zero, List.set_cons_succ]; rw [show updS s 38 (undef) 27 = .bool true from eq13]; rfl
      · intro d s w9 hd hA hC hF K hK
        have hB9 := hF.1.bel
        simp only [putL, putT, List.setIfInBounds_toArray, List.set_cons_zero, List.set_cons_succ]
        clear hB9
        as_aux_lemma =>
          have eq13 : s 27 = .bool true := hF.2 (13, 27, .bool true) (by simp) (hA.1)
          rw [eq13]
          go_simp
          refine hK.out (updS s 39 (.bool true)) _ _ ?_ ⟨hF.1, hF.2.put 25 39 (.bool true) rfl (by simp)⟩
          simp only [putL, putT, List.setIfInBounds_toArray, List.set_cons_zero, List.set_cons_succ]; rw [show updS s 39 (.bool true) 27 = .bool true from eq13]; rfl
    · intro d s w3 hA hF
      have hS := hF.1
      have eq25 : s 39 = .bool true := hF.2 (25, 39, .bool true) (by simp) (hA.2.2.2.2.2.2.2.2.2.2.2.2.2.2.2.2.2.2.2.2.2.2.2.2.2.1)
      have HS2 : Hid (St w.heap.size w [⟨w.heap.size, 31, #[.int .i64 n, .slice a1 xs.length c1]⟩, ⟨w.heap.size + 1, 33, #[.int .i64 3, .int .i64 cl, .int .i64 sv, .int .i64 nc, .slice (some ⟨g2, 0, none⟩) ys.length cap]⟩, ⟨w.heap.size + 1 + 1, 31, #[.int .i64 0, .slice none 0 0]⟩, ⟨w.heap.size + 1 + 1 + 1, 33, #[.int .i64 0, .int .i64 0, .int .i64 0, .int .i64 0, .slice none 0 0]⟩] [] w3) := hS
      clear hS hF hA HS1
      simp only [putL, putT, List.setIfInBounds_toArray, List.set_cons_zero, List.set_cons_succ]
      rw [eq25]
      clear eq25
      have EA : Hid (askK n xs 3 cl sv nc ys now = keepK n xs) := Hid.mk' (by unfold askK; rw [if_neg (by unfold canB; simp [u4])])
      have lt0 : w.heap.size < w3.heap.size := (HS2.out.lt 0 rfl).2
      have lt1 : w.heap.size + 1 < w3.heap.size := (HS2.out.lt 1 rfl).2
      have lt2 : w.heap.size + 1 + 1 < w3.heap.size := (HS2.out.lt 2 rfl).2
      have lt3 : w.heap.size + 1 + 1 + 1 < w3.heap.size := (HS2.out.lt 3 rfl).2
      have p0 := HS2.out.cell 0 rfl 0 (.int .i64 n) rfl
      have p1 := HS2.out.cell 0 rfl 1 (.slice a1 xs.length c1) rfl
      have z0 := HS2.out.cell 2 rfl 0 (.int .i64 0) rfl
      have zf0 := HS2.out.fro 2 rfl 0
      have z1 := HS2.out.cell 2 rfl 1 (.slice none 0 0) rfl
      have zf1 := HS2.out.fro 2 rfl 1
      have y0 := HS2.out.cell 3 rfl 0 (.int .i64 0) rfl
      have yf0 := HS2.out.fro 3 rfl 0
      have y1 := HS2.out.cell 3 rfl 1 (.int .i64 0) rfl
      have yf1 := HS2.out.fro 3 rfl 1
      have y2 := HS2.out.cell 3 rfl 2 (.int .i64 0) rfl
      have yf2 := HS2.out.fro 3 rfl 2
      have y3 := HS2.out.cell 3 rfl 3 (.int .i64 0) rfl
      have yf3 := HS2.out.fro 3 rfl 3
      have y4 := HS2.out.cell 3 rfl 4 (.slice none 0 0) rfl
      have yf4 := HS2.out.fro 3 rfl 4
      go_wp2_with fail
      clear lt0 lt1 lt2 lt3 p0 p1 z0 zf0 z1 zf1 y0 yf0 y1 yf1 y2 yf2 y3 yf3 y4 yf4
      obtain ⟨V, hX9, HS3⟩ : ∃ X, X = (((((((w3.setCell ⟨w.heap.size + 1 + 1, 0, none⟩ (.int .i64 n)).setCell ⟨w.heap.size + 1 + 1, 1, none⟩ (.slice a1 xs.length c1)).setCell ⟨w.heap.size + 1 + 1 + 1, 0, none⟩ (.int .i64 0)).setCell ⟨w.heap.size + 1 + 1 + 1, 1, none⟩ (.int .i64 0)).setCell ⟨w.heap.size + 1 + 1 + 1, 2, none⟩ (.int .i64 0)).setCell ⟨w.heap.size + 1 + 1 + 1, 3, none⟩ (.int .i64 0)).setCell ⟨w.heap.size + 1 + 1 + 1, 4, none⟩ (.slice none 0 0)) ∧ Hid (St w.heap.size w [⟨w.heap.size, 31, #[.int .i64 n, .slice a1 xs.length c1]⟩, ⟨w.heap.size + 1, 33, #[.int .i64 3, .int .i64 cl, .int .i64 sv, .int .i64 nc, .slice (some ⟨g2, 0, none⟩) ys.length cap]⟩, ⟨w.heap.size + 1 + 1, 31, #[.int .i64 n, .slice a1 xs.length c1]⟩, ⟨w.heap.size + 1 + 1 + 1, 33, #[.int .i64 0, .int .i64 0, .int .i64 0, .int .i64 0, .slice none 0 0]⟩] [] X) := ⟨_, rfl, Hid.mk' (by
        have h := (St.put5 3 (St.put2 2 HS2.out rfl rfl (.int .i64 n) (.slice a1 xs.length c1)) rfl rfl (.int .i64 0) (.int .i64 0) (.int .i64 0) (.int .i64 0) (.slice none 0 0))
        try simp only [World.size_alloc] at h
        try simp only [World.size_setCell] at h
        exact h)⟩
      rw [← hX9]
      clear hX9
      clear HS2
      have y0 := HS3.out.cell 2 rfl 0 (.int .i64 n) rfl
      have y1 := HS3.out.cell 2 rfl 1 (.slice a1 xs.length c1) rfl
      have z0 := HS3.out.cell 3 rfl 0 (.int .i64 0) rfl
      have z1 := HS3.out.cell 3 rfl 1 (.int .i64 0) rfl
      have z2 := HS3.out.cell 3 rfl 2 (.int .i64 0) rfl
      have z3 := HS3.out.cell 3 rfl 3 (.int .i64 0) rfl
      have z4 := HS3.out.cell 3 rfl 4 (.slice none 0 0) rfl
      refine bodyPost_ret (v := .tuple #[.agg #[.int .i64 n, .slice a1 xs.length c1], .agg #[.int .i64 0, .int .i64 0, .int .i64 0, .int .i64 0, .slice none 0 0], .bool false]) (by simp [results, Tryd.results27, go_sem, *]) rfl ?_
      rw [EA.out]
      exact ⟨⟨a1, c1, none, 0, B, V.heap.size, rfl, HH.out.2.2.later HS3.out.bel, OwnS.nil _ _, Nat.le_refl _, Nat.le_trans hB (HS3.out.bel).size, fun k hk => (OwnS.low (HH.out.2.2.later HS3.out.bel) k hk).2⟩, HS3.out.bel⟩
  by_cases u5 : n ≤ 60
  rotate_left
  · have u6 : 60 < n := by omega
    refine wp_region_walk [14, 15, 16, 17, 18, 19, 20, 21, 22, 23, 24, 25, 26, 27, 28, 29, 30, 31, 32, 33, 34, 35, 36, 37, 38, 39] (fun d s W => St w.heap.size w [⟨w.heap.size, 31, #[.int .i64 n, .slice a1 xs.length c1]⟩, ⟨w.heap.size + 1, 33, #[.int .i64 3, .int .i64 cl, .int .i64 sv, .int .i64 nc, .slice (some ⟨g2, 0, none⟩) ys.length cap]⟩, ⟨w.heap.size + 1 + 1, 31, #[.int .i64 0, .slice none 0 0]⟩, ⟨w.heap.size + 1 + 1 + 1, 33, #[.int .i64 0, .int .i64 0, .int .i64 0, .int .i64 0, .slice none 0 0]⟩] [] W ∧ Looks [(0, 14, Value.pointer (some ⟨w.heap.size + 1, 0, none⟩)), (1, 15, Value.int .i64 3), (2, 16, .bool false), (3, 17, .bool false), (4, 18, Value.agg #[.int .i64 3, .int .i64 cl, .int .i64 sv, .int .i64 nc, .slice (some ⟨g2, 0, none⟩) ys.length cap]), (5, 19, .bool true), (6, 20, .bool false), (7, 21, .bool false), (8, 22, .bool false), (9, 23, Value.pointer (some ⟨w.heap.size, 0, none⟩)), (10, 24, Value.int .i64 n), (11, 25, .bool true), (12, 26, .bool true), (13, 27, .bool true), (14, 28, undef), (15, 29, undef), (16, 30, undef), (17, 31, undef), (18, 32, undef), (19, 33, undef), (20, 34, undef), (21, 35, undef), (22, 36, undef), (23, 37, undef), (24, 38, undef), (25, 39, .bool true)] d s) [0, 1, 2, 3, 4, 5, 6, 7, 8, 9, 10, 11, 12, 13, 14, 15, 16, 17, 18, 19, 20, 21, 22, 23, 24, 25] (by kernel_rfl) (by kernel_rfl) (by kernel_rfl) ?_ ?_ ?_
    · intro s
      exact ⟨HS1.out.drew, Looks.none _ _⟩
    · refine StepsR.cons (k := 0) [] (by kernel_rfl) ?_ (StepsR.cons (k := 1) [0] (by kernel_rfl) ?_ (StepsR.cons (k := 2) [1] (by kernel_rfl) ?_ (StepsR.cons (k := 3) [2] (by kernel_rfl) ?_ (StepsR.cons (k := 4) [3] (by kernel_rfl) ?_ (StepsR.cons (k := 5) [4, 3] (by kernel_rfl) ?_ (StepsR.cons (k := 6) [3, 5] (by kernel_rfl) ?_ (StepsR.cons (k := 7) [3, 6] (by kernel_rfl) ?_ (StepsR.cons (k := 8) [7] (by kernel_rfl) ?_ (StepsR.cons (k := 9) [8] (by kernel_rfl) ?_ (StepsR.cons (k := 10) [8, 9] (by kernel_rfl) ?_ (StepsR.cons (k := 11) [8, 10] (by kernel_rfl) ?_ (StepsR.cons (k := 12) [8, 11] (by kernel_rfl) ?_ (StepsR.cons (k := 13) [12] (by kernel_rfl) ?_ (StepsR.cons (k := 14) [13] (by kernel_rfl) ?_ (StepsR.cons (k := 15) [13] (by kernel_rfl) ?_ (StepsR.cons (k := 16) [13] (by kernel_rfl) ?_ (StepsR.cons (k := 17) [13] (by kernel_rfl) ?_ (StepsR.cons (k := 18) [13] (by kernel_rfl) ?_ (StepsR.cons (k := 19) [13] (by kernel_rfl) ?_ (StepsR.cons (k := 20) [13] (by kernel_rfl) ?_ (StepsR.cons (k := 21) [13] (by kernel_rfl) ?_ (StepsR.cons (k := 22) [13] (by kernel_rfl) ?_ (StepsR.cons (k := 23) [13] (by kernel_rfl) ?_ (StepsR.cons (k := 24) [13] (by kernel_rfl) ?_ (StepsR.cons (k := 25) [13, 24] (by kernel_rfl) ?_ (StepsR.nil))))))))))))))))))))))))))
      · intro d s w9 hd hA hC hF K hK
        have hB9 := hF.1.bel
        simp only [putL, putT, List.setIfInBounds_toArray, List.set_cons_zero, List.set_cons_succ]
        clear hB9
        as_aux_lemma =>
          go_simp
          refine hK.out (updS s 14 (Value.pointer (some ⟨w.heap.size + 1, 0, none⟩))) _ _ ?_ ⟨hF.1, hF.2.put 0 14 (Value.pointer (some ⟨w.heap.size + 1, 0, none⟩)) rfl (by simp)⟩
          simp only [putL, putT, List.setIfInBounds_toArray, List.set_cons_zero, List.set_cons_succ]; rfl
      · intro d s w9 hd hA hC hF K hK
        have hB9 := hF.1.bel
        simp only [putL, putT, List.setIfInBounds_toArray, List.set_cons_zero, List.set_cons_succ]
        clear hB9
        as_aux_lemma =>
          have eq0 : s 14 = Value.pointer (some ⟨w.heap.size + 1, 0, none⟩) := hF.2 (0, 14, Value.pointer (some ⟨w.heap.size + 1, 0, none⟩)) (by simp) (hA.1)
          rw [eq0]
          have p0 := hF.1.cell 1 rfl 0 (.int .i64 3) rfl
          go_simp
          clear p0
          refine hK.out (updS s 15 (Value.int .i64 3)) _ _ ?_ ⟨hF.1, hF.2.put 1 15 (Value.int .i64 3) rfl (by simp)⟩
          simp only [putL, putT, List.setIfInBounds_toArray, List.set_cons_zero, List.set_cons_succ]; rw [show updS s 15 (Value.int .i64 3) 14 = Value.pointer (some ⟨w.heap.size + 1, 0, none⟩) from eq0]; rfl
      · intro d s w9 hd hA hC hF K hK
        have hB9 := hF.1.bel
        simp only [putL, putT, List.setIfInBounds_toArray, List.set_cons_zero, List.set_cons_succ]
        clear hB9
        as_aux_lemma =>
          have eq1 : s 15 = Value.int .i64 3 := hF.2 (1, 15, Value.int .i64 3) (by simp) (hA.1)
          rw [eq1]
          go_simp
          refine hK.out (updS s 16 (.bool false)) _ _ ?_ ⟨hF.1, hF.2.put 2 16 (.bool false) rfl (by simp)⟩
          simp only [putL, putT, List.setIfInBounds_toArray, List.set_cons_zero, List.set_cons_succ]; rw [show updS s 16 (.bool false) 15 = Value.int .i64 3 from eq1]; rfl
      · intro d s w9 hd hA hC hF K hK
        have hB9 := hF.1.bel
        simp only [putL, putT, List.setIfInBounds_toArray, List.set_cons_zero, List.set_cons_succ]
        clear hB9
        as_aux_lemma =>
          have eq2 : s 16 = .bool false := hF.2 (2, 16, .bool false) (by simp) (hA.1)
          rw [eq2]
          go_simp
          refine hK.out (updS s 17 (.bool false)) _ _ ?_ ⟨hF.1, hF.2.put 3 17 (.bool false) rfl (by simp)⟩
          simp only [putL, putT, List.setIfInBounds_toArray, List.set_cons_zero, List.set_cons_succ]; rw [show updS s 17 (.bool false) 16 = .bool false from eq2]; rfl
      · intro d s w9 hd hA hC hF K hK
        have hB9 := hF.1.bel
        simp only [putL, putT, List.setIfInBounds_toArray, List.set_cons_zero, List.set_cons_succ]
        clear hB9
        as_aux_lemma =>
          have eq3 : s 17 = .bool false := hF.2 (3, 17, .bool false) (by simp) (hA.1)
          rw [eq3]
          have p0 := hF.1.cell 1 rfl 0 (.int .i64 3) rfl
          have p1 := hF.1.cell 1 rfl 1 (.int .i64 cl) rfl
          have p2 := hF.1.cell 1 rfl 2 (.int .i64 sv) rfl
          have p3 := hF.1.cell 1 rfl 3 (.int .i64 nc) rfl
          have p4 := hF.1.cell 1 rfl 4 (.slice (some ⟨g2, 0, none⟩) ys.length cap) rfl
          go_simp
          clear p0 p1 p2 p3 p4
          refine hK.out (updS s 18 (Value.agg #[.int .i64 3, .int .i64 cl, .int .i64 sv, .int .i64 nc, .slice (some ⟨g2, 0, none⟩) ys.length cap])) _ _ ?_ ⟨hF.1, hF.2.put 4 18 (Value.agg #[.int .i64 3, .int .i64 cl, .int .i64 sv, .int .i64 nc, .slice (some ⟨g2, 0, none⟩) ys.length cap]) rfl (by simp)⟩
          simp only [putL, putT, List.setIfInBounds_toArray, List.set_cons_zero, List.set_cons_succ]; rw [show updS s 18 (Value.agg #[.int .i64 3, .int .i64 cl, .int .i64 sv, .int .i64 nc, .slice (some ⟨g2, 0, none⟩) ys.length cap]) 17 = .bool false from eq3]; rfl
      · intro d s w9 hd hA hC hF K hK
        have hB9 := hF.1.bel
        simp only [putL, putT, List.setIfInBounds_toArray, List.set_cons_zero, List.set_cons_succ]
        clear hB9
        as_aux_lemma =>
          have eq4 : s 18 = Value.agg #[.int .i64 3, .int .i64 cl, .int .i64 sv, .int .i64 nc, .slice (some ⟨g2, 0, none⟩) ys.length cap] := hF.2 (4, 18, Value.agg #[.int .i64 3, .int .i64 cl, .int .i64 sv, .int .i64 nc, .slice (some ⟨g2, 0, none⟩) ys.length cap]) (by simp) (hA.1)
          have eq3 : s 17 = .bool false := hF.2 (3, 17, .bool false) (by simp) (hA.2.1)
          rw [eq4, eq3]
          go_simp
          refine (specMsg_any 3 cl sv nc _ _ ys _ (HH.out.2.1.later hF.1.bel) hy).mono ?_
          rintro r w8 ⟨rfl, b9⟩
          rw [u4]
          go_simp
          refine hK.out (updS s 19 (.bool true)) _ _ ?_ ⟨St.grow b9 hF.1, hF.2.put 5 19 (.bool true) rfl (by simp)⟩
          simp only [putL, putT, List.setIfInBounds_toArray, List.set_cons_zero, List.set_cons_succ]
          rw [← eq4, ← eq3]; rfl
      · intro d s w9 hd hA hC hF K hK
        have hB9 := hF.1.bel
        simp only [putL, putT, List.setIfInBounds_toArray, List.set_cons_zero, List.set_cons_succ]
        clear hB9
        as_aux_lemma =>
          have eq3 : s 17 = .bool false := hF.2 (3, 17, .bool false) (by simp) (hA.1)
          have eq5 : s 19 = .bool true := hF.2 (5, 19, .bool true) (by simp) (hA.2.1)
          rw [eq3, eq5]
          go_simp
          refine hK.out (updS s 20 (.bool false)) _ _ ?_ ⟨hF.1, hF.2.put 6 20 (.bool false) rfl (by simp)⟩
          simp only [putL, putT, List.setIfInBounds_toArray, List.set_cons_zero, List.set_cons_succ]; rw [show updS s 20 (.bool false) 17 = .bool false from eq3, show updS s 20 (.bool false) 19 = .bool true from eq5]; rfl
      · intro d s w9 hd hA hC hF K hK
        have hB9 := hF.1.bel
        simp only [putL, putT, List.setIfInBounds_toArray, List.set_cons_zero, List.set_cons_succ]
        clear hB9
        as_aux_lemma =>
          have eq3 : s 17 = .bool false := hF.2 (3, 17, .bool false) (by simp) (hA.1)
          have eq6 : s 20 = .bool false := hF.2 (6, 20, .bool false) (by simp) (hA.2.1)
          rw [eq3, eq6]
          go_simp
          refine hK.out (updS s 21 (.bool false)) _ _ ?_ ⟨hF.1, hF.2.put 7 21 (.bool false) rfl (by simp)⟩
          simp only [putL, putT, List.setIfInBounds_toArray, List.set_cons_zero, List.set_cons_succ]; rw [show updS s 21 (.bool false) 17 = .bool false from eq3, show updS s 21 (.bool false) 20 = .bool false from eq6]; rfl
      · intro d s w9 hd hA hC hF K hK
        have hB9 := hF.1.bel
        simp only [putL, putT, List.setIfInBounds_toArray, List.set_cons_zero, List.set_cons_succ]
        clear hB9
        as_aux_lemma =>
          have eq7 : s 21 = .bool false := hF.2 (7, 21, .bool false) (by simp) (hA.1)
          rw [eq7]
          go_simp
          refine hK.out (updS s 22 (.bool false)) _ _ ?_ ⟨hF.1, hF.2.put 8 22 (.bool false) rfl (by simp)⟩
          simp only [putL, putT, List.setIfInBounds_toArray, List.set_cons_zero, List.set_cons_succ]; rw [show updS s 22 (.bool false) 21 = .bool false from eq7]; rfl
      · intro d s w9 hd hA hC hF K hK
        have hB9 := hF.1.bel
        simp only [putL, putT, List.setIfInBounds_toArray, List.set_cons_zero, List.set_cons_succ]
        clear hB9
        as_aux_lemma =>
          have eq8 : s 22 = .bool false := hF.2 (8, 22, .bool false) (by simp) (hA.1)
          rw [eq8]
          go_simp
          refine hK.out (updS s 23 (Value.pointer (some ⟨w.heap.size, 0, none⟩))) _ _ ?_ ⟨hF.1, hF.2.put 9 23 (Value.pointer (some ⟨w.heap.size, 0, none⟩)) rfl (by simp)⟩
          simp only [putL, putT, List.setIfInBounds_toArray, List.set_cons_zero, List.set_cons_succ]; rw [show updS s 23 (Value.pointer (some ⟨w.heap.size, 0, none⟩)) 22 = .bool false from eq8]; rfl
      · intro d s w9 hd hA hC hF K hK
        have hB9 := hF.1.bel
        simp only [putL, putT, List.setIfInBounds_toArray, List.set_cons_zero, List.set_cons_succ]
        clear hB9
        as_aux_lemma =>
          have eq8 : s 22 = .bool false := hF.2 (8, 22, .bool false) (by simp) (hA.1)
          have eq9 : s 23 = Value.pointer (some ⟨w.heap.size, 0, none⟩) := hF.2 (9, 23, Value.pointer (some ⟨w.heap.size, 0, none⟩)) (by simp) (hA.2.1)
          rw [eq8, eq9]
          have p0 := hF.1.cell 0 rfl 0 (.int .i64 n) rfl
          go_simp
          clear p0
          refine hK.out (updS s 24 (Value.int .i64 n)) _ _ ?_ ⟨hF.1, hF.2.put 10 24 (Value.int .i64 n) rfl (by simp)⟩
          simp only [putL, putT, List.setIfInBounds_toArray, List.set_cons_zero, List.set_cons_succ]; rw [show updS s 24 (Value.int .i64 n) 22 = .bool false from eq8, show updS s 24 (Value.int .i64 n) 23 = Value.pointer (some ⟨w.heap.size, 0, none⟩) from eq9]; rfl
      · intro d s w9 hd hA hC hF K hK
        have hB9 := hF.1.bel
        simp only [putL, putT, List.setIfInBounds_toArray, List.set_cons_zero, List.set_cons_succ]
        clear hB9
        as_aux_lemma =>
          have eq8 : s 22 = .bool false := hF.2 (8, 22, .bool false) (by simp) (hA.1)
          have eq10 : s 24 = Value.int .i64 n := hF.2 (10, 24, Value.int .i64 n) (by simp) (hA.2.1)
          rw [eq8, eq10]
          go_simp
          refine hK.out (updS s 25 (.bool true)) _ _ ?_ ⟨hF.1, hF.2.put 11 25 (.bool true) rfl (by simp)⟩
          simp only [putL, putT, List.setIfInBounds_toArray, List.set_cons_zero, List.set_cons_succ]; rw [show updS s 25 (.bool true) 22 = .bool false from eq8, show updS s 25 (.bool true) 24 = Value.int .i64 n from eq10]; rfl
      · intro d s w9 hd hA hC hF K hK
        have hB9 := hF.1.bel
        simp only [putL, putT, List.setIfInBounds_toArray, List.set_cons_zero, List.set_cons_succ]
        clear hB9
        as_aux_lemma =>
          have eq8 : s 22 = .bool false := hF.2 (8, 22, .bool false) (by simp) (hA.1)
          have eq11 : s 25 = .bool true := hF.2 (11, 25, .bool true) (by simp) (hA.2.1)
          rw [eq8, eq11]
          go_simp
          refine hK.out (updS s 26 (.bool true)) _ _ ?_ ⟨hF.1, hF.2.put 12 26 (.bool true) rfl (by simp)⟩
          simp only [putL, putT, List.setIfInBounds_toArray, List.set_cons_zero, List.set_cons_succ]; rw [show updS s 26 (.bool true) 22 = .bool false from eq8, show updS s 26 (.bool true) 25 = .bool true from eq11]; rfl
      · intro d s w9 hd hA hC hF K hK
        have hB9 := hF.1.bel
        simp only [putL, putT, List.setIfInBounds_toArray, List.set_cons_zero, List.set_cons_succ]
        clear hB9
        as_aux_lemma =>
          have eq12 : s 26 = .bool true := hF.2 (12, 26, .bool true) (by simp) (hA.1)
          rw [eq12]
          go_simp
          refine hK.out (updS s 27 (.bool true)) _ _ ?_ ⟨hF.1, hF.2.put 13 27 (.bool true) rfl (by simp)⟩
          simp only [putL, putT, List.setIfInBounds_toArray, List.set_cons_zero, List.set_cons_succ]; rw [show updS s 27 (.bool true) 26 = .bool true from eq12]; rfl
      · intro d s w9 hd hA hC hF K hK
        have hB9 := hF.1.bel
        simp only [putL, putT, List.setIfInBounds_toArray, List.set_cons_zero, List.set_cons_succ]
        clear hB9
        as_aux_lemma =>
          have eq13 : s 27 = .bool true := hF.2 (13, 27, .bool true) (by simp) (hA.1)
          rw [eq13]
          go_simp
          refine hK.out (updS s 28 (undef)) _ _ ?_ ⟨hF.1, hF.2.put 14 28 (undef) rfl (by simp)⟩
          simp only [putL, putT, List.setIfInBounds_toArray, List.set_cons_zero, List.set_cons_succ]; rw [show updS s 28 (undef) 27 = .bool true from eq13]; rfl
      · intro d s w9 hd hA hC hF K hK
        have hB9 := hF.1.bel
        simp only [putL, putT, List.setIfInBounds_toArray, List.set_cons_zero, List.set_cons_succ]
        clear hB9
        as_aux_lemma =>
          have eq13 : s 27 = .bool true := hF.2 (13, 27, .bool true) (by simp) (hA.1)
          rw [eq13]
          go_simp
          refine hK.out (updS s 29 (undef)) _ _ ?_ ⟨hF.1, hF.2.put 15 29 (undef) rfl (by simp)⟩
          simp only [putL, putT, List.setIfInBounds_toArray, List.set_cons_zero, List.set_cons_succ]; rw [show updS s 29 (undef) 27 = .bool true from eq13]; rfl
      · intro d s w9 hd hA hC hF K hK
        have hB9 := hF.1.bel
        simp only [putL, putT, List.setIfInBounds_toArray, List.set_cons_zero, List.set_cons_succ]
        clear hB9
        as_aux_lemma =>
          have eq13 : s 27 = .bool true := hF.2 (13, 27, .bool true) (by simp) (hA.1)
          rw [eq13]
          go_simp
          refine hK.out (updS s 30 (undef)) _ _ ?_ ⟨hF.1, hF.2.put 16 30 (undef) rfl (by simp)⟩
          simp only [putL, putT, List.setIfInBounds_toArray, List.set_cons_zero, List.set_cons_succ]; rw [show updS s 30 (undef) 27 = .bool true from eq13]; rfl
      · intro d s w9 hd hA hC hF K hK
        have hB9 := hF.1.bel
        simp only [putL, putT, List.setIfInBounds_toArray, List.set_cons_zero, List.set_cons_succ]
        clear hB9
        as_aux_lemma =>
          have eq13 : s 27 = .bool true := hF.2 (13, 27, .bool true) (by simp) (hA.1)
          rw [eq13]
          go_simp
          refine hK.out (updS s 31 (undef)) _ _ ?_ ⟨hF.1, hF.2.put 17 31 (undef) rfl (by simp)⟩
          simp only [putL, putT, List.setIfInBounds_toArray, List.set_cons_zero, List.set_cons_succ]; rw [show updS s 31 (undef) 27 = .bool true from eq13]; rfl
      · intro d s w9 hd hA hC hF K hK
        have hB9 := hF.1.bel
        simp only [putL, putT, List.setIfInBounds_toArray, List.set_cons_zero, List.set_cons_succ]
        clear hB9
        as_aux_lemma =>
          have eq13 : s 27 = .bool true := hF.2 (13, 27, .bool true) (by simp) (hA.1)
          rw [eq13]
          go_simp
          refine hK.out (updS s 32 (undef)) _ _ ?_ ⟨hF.1, hF.2.put 18 32 (undef) rfl (by simp)⟩
          simp only [putL, putT, List.setIfInBounds_toArray, List.set_cons_zero, List.set_cons_succ]; rw [show updS s 32 (undef) 27 = .bool true from eq13]; rfl
      · intro d s w9 hd hA hC hF K hK
        have hB9 := hF.1.bel
        simp only [putL, putT, List.setIfInBounds_toArray, List.set_cons_zero, List.set_cons_succ]
        clear hB9
        as_aux_lemma =>
          have eq13 : s 27 = .bool true := hF.2 (13, 27, .bool true) (by simp) (hA.1)
          rw [eq13]
          go_simp
          refine hK.out (updS s 33 (undef)) _ _ ?_ ⟨hF.1, hF.2.put 19 33 (undef) rfl (by simp)⟩
          simp only [putL, putT, List.setIfInBounds_toArray, List.set_cons_zero, List.set_cons_succ]; rw [show updS s 33 (undef) 27 = .bool true from eq13]; rfl
      · intro d s w9 hd hA hC hF K hK
        have hB9 := hF.1.bel
        simp only [putL, putT, List.setIfInBounds_toArray, List.set_cons_zero, List.set_cons_succ]
        clear hB9
        as_aux_lemma =>
          have eq13 : s 27 = .bool true := hF.2 (13, 27, .bool true) (by simp) (hA.1)
          rw [eq13]
          go_simp
          refine hK.out (updS s 34 (undef)) _ _ ?_ ⟨hF.1, hF.2.put 20 34 (undef) rfl (by simp)⟩
          simp only [putL, putT, List.setIfInBounds_toArray, List.set_cons_zero, List.set_cons_succ]; rw [show updS s 34 (undef) 27 = .bool true from eq13]; rfl
      · intro d s w9 hd hA hC hF K hK
        have hB9 := hF.1.bel
        simp only [putL, putT, List.setIfInBounds_toArray, List.set_cons_zero, List.set_cons_succ]
        clear hB9
        as_aux_lemma =>
          have eq13 : s 27 = .bool true := hF.2 (13, 27, .bool true) (by simp) (hA.1)
          rw [eq13]
          go_simp
          refine hK.out (updS s 35 (undef)) _ _ ?_ ⟨hF.1, hF.2.put 21 35 (undef) rfl (by simp)⟩
          simp only [putL, putT, List.setIfInBounds_toArray, List.set_cons_zero, List.set_cons_succ]; rw [show updS s 35 (undef) 27 = .bool true from eq13]; rfl
      · intro d s w9 hd hA hC hF K hK
        have hB9 := hF.1.bel
        simp only [putL, putT, List.setIfInBounds_toArray, List.set_cons_zero, List.set_cons_succ]
        clear hB9
        as_aux_lemma =>
          have eq13 : s 27 = .bool true := hF.2 (13, 27, .bool true) (by simp) (hA.1)
          rw [eq13]
          go_simp
          refine hK.out (updS s 36 (undef)) _ _ ?_ ⟨hF.1, hF.2.put 22 36 (undef) rfl (by simp)⟩
          simp only [putL, putT, List.setIfInBounds_toArray, List.set_cons_zero, List.set_cons_succ]; rw [show updS s 36 (undef) 27 = .bool true from eq13]; rfl
      · intro d s w9 hd hA hC hF K hK
        have hB9 := hF.1.bel
        simp only [putL, putT, List.setIfInBounds_toArray, List.set_cons_zero, List.set_cons_succ]
        clear hB9
        as_aux_lemma =>
          have eq13 : s 27 = .bool true := hF.2 (13, 27, .bool true) (by simp) (hA.1)
          rw [eq13]
          go_simp
          refine hK.out (updS s 37 (undef)) _ _ ?_ ⟨hF.1, hF.2.put 23 37 (undef) rfl (by simp)⟩
          simp only [putL, putT, List.setIfInBounds_toArray, List.set_cons_zero, List.set_cons_succ]; rw [show updS s 37 (undef) 27 = .bool true from eq13]; rfl
      · intro d s w9 hd hA hC hF K hK
        have hB9 := hF.1.bel
        simp only [putL, putT, List.setIfInBounds_toArray, List.set_cons_zero, List.set_cons_succ]
        clear hB9
        as_aux_lemma =>
          have eq13 : s 27 = .bool true := hF.2 (13, 27, .bool true) (by simp) (hA.1)
          rw [eq13]
          go_simp
          refine hK.out (updS s 38 (undef)) _ _ ?_ ⟨hF.1, hF.2.put 24 38 (undef) rfl (by simp)⟩
          simp only [putL, putT, List.setIfInBounds_toArray, List.set_cons_zero, List.set_cons_succ]; rw [show updS s 38 (undef) 27 = .bool true from eq13]; rfl
      · intro d s w9 hd hA hC hF K hK
        have hB9 := hF.1.bel
        simp only [putL, putT, List.setIfInBounds_toArray, List.set_cons_zero, List.set_cons_succ]
        clear hB9
        as_aux_lemma =>
          have eq13 : s 27 = .bool true := hF.2 (13, 27, .bool true) (by simp) (hA.1)
          rw [eq13]
          go_simp
          refine hK.out (updS s 39 (.bool true)) _ _ ?_ ⟨hF.1, hF.2.put 25 39 (.bool true) rfl (by simp)⟩
          simp only [putL, putT, List.setIfInBounds_toArray, List.set_cons_zero, List.set_cons_succ]; rw [show updS s 39 (.bool true) 27 = .bool true from eq13]; rfl
    · intro d s w3 hA hF
      have hS := hF.1
      have eq25 : s 39 = .bool true := hF.2 (25, 39, .bool true) (by simp) (hA.2.2.2.2.2.2.2.2.2.2.2.2.2.2.2.2.2.2.2.2.2.2.2.2.2.1)
      have HS2 : Hid (St w.heap.size w [⟨w.heap.size, 31, #[.int .i64 n, .slice a1 xs.length c1]⟩, ⟨w.heap.size + 1, 33, #[.int .i64 3, .int .i64 cl, .int .i64 sv, .int .i64 nc, .slice (some ⟨g2, 0, none⟩) ys.length cap]⟩, ⟨w.heap.size + 1 + 1, 31, #[.int .i64 0, .slice none 0 0]⟩, ⟨w.heap.size + 1 + 1 + 1, 33, #[.int .i64 0, .int .i64 0, .int .i64 0, .int .i64 0, .slice none 0 0]⟩] [] w3) := hS
      clear hS hF hA HS1
      simp only [putL, putT, List.setIfInBounds_toArray, List.set_cons_zero, List.set_cons_succ]
      rw [eq25]
      clear eq25
      have EA : Hid (askK n xs 3 cl sv nc ys now = keepK n xs) := Hid.mk' (by unfold askK; rw [if_neg (by unfold canB; simp [u5])])
      have lt0 : w.heap.size < w3.heap.size := (HS2.out.lt 0 rfl).2
      have lt1 : w.heap.size + 1 < w3.heap.size := (HS2.out.lt 1 rfl).2
      have lt2 : w.heap.size + 1 + 1 < w3.heap.size := (HS2.out.lt 2 rfl).2
      have lt3 : w.heap.size + 1 + 1 + 1 < w3.heap.size := (HS2.out.lt 3 rfl).2
      have p0 := HS2.out.cell 0 rfl 0 (.int .i64 n) rfl
      have p1 := HS2.out.cell 0 rfl 1 (.slice a1 xs.length c1) rfl
      have z0 := HS2.out.cell 2 rfl 0 (.int .i64 0) rfl
      have zf0 := HS2.out.fro 2 rfl 0
      have z1 := HS2.out.cell 2 rfl 1 (.slice none 0 0) rfl
      have zf1 := HS2.out.fro 2 rfl 1
      have y0 := HS2.out.cell 3 rfl 0 (.int .i64 0) rfl
      have yf0 := HS2.out.fro 3 rfl 0
      have y1 := HS2.out.cell 3 rfl 1 (.int .i64 0) rfl
      have yf1 := HS2.out.fro 3 rfl 1
      have y2 := HS2.out.cell 3 rfl 2 (.int .i64 0) rfl
      have yf2 := HS2.out.fro 3 rfl 2
      have y3 := HS2.out.cell 3 rfl 3 (.int .i64 0) rfl
      have yf3 := HS2.out.fro 3 rfl 3
      have y4 := HS2.out.cell 3 rfl 4 (.slice none 0 0) rfl
      have yf4 := HS2.out.fro 3 rfl 4
      go_wp2_with fail
      clear lt0 lt1 lt2 lt3 p0 p1 z0 zf0 z1 zf1 y0 yf0 y1 yf1 y2 yf2 y3 yf3 y4 yf4
      obtain ⟨V, hX9, HS3⟩ : ∃ X, X = (((((((w3.setCell ⟨w.heap.size + 1 + 1, 0, none⟩ (.int .i64 n)).setCell ⟨w.heap.size + 1 + 1, 1, none⟩ (.slice a1 xs.length c1)).setCell ⟨w.heap.size + 1 + 1 + 1, 0, none⟩ (.int .i64 0)).setCell ⟨w.heap.size + 1 + 1 + 1, 1, none⟩ (.int .i64 0)).setCell ⟨w.heap.size + 1 + 1 + 1, 2, none⟩ (.int .i64 0)).setCell ⟨w.heap.size + 1 + 1 + 1, 3, none⟩ (.int .i64 0)).setCell ⟨w.heap.size + 1 + 1 + 1, 4, none⟩ (.slice none 0 0)) ∧ Hid (St w.heap.size w [⟨w.heap.size, 31, #[.int .i64 n, .slice a1 xs.length c1]⟩, ⟨w.heap.size + 1, 33, #[.int .i64 3, .int .i64 cl, .int .i64 sv, .int .i64 nc, .slice (some ⟨g2, 0, none⟩) ys.length cap]⟩, ⟨w.heap.size + 1 + 1, 31, #[.int .i64 n, .slice a1 xs.length c1]⟩, ⟨w.heap.size + 1 + 1 + 1, 33, #[.int .i64 0, .int .i64 0, .int .i64 0, .int .i64 0, .slice none 0 0]⟩] [] X) := ⟨_, rfl, Hid.mk' (by
        have h := (St.put5 3 (St.put2 2 HS2.out rfl rfl (.int .i64 n) (.slice a1 xs.length c1)) rfl rfl (.int .i64 0) (.int .i64 0) (.int .i64 0) (.int .i64 0) (.slice none 0 0))
        try simp only [World.size_alloc] at h
        try simp only [World.size_setCell] at h
        exact h)⟩
      rw [← hX9]
      clear hX9
      clear HS2
      have y0 := HS3.out.cell 2 rfl 0 (.int .i64 n) rfl
      have y1 := HS3.out.cell 2 rfl 1 (.slice a1 xs.length c1) rfl
      have z0 := HS3.out.cell 3 rfl 0 (.int .i64 0) rfl
      have z1 := HS3.out.cell 3 rfl 1 (.int .i64 0) rfl
      have z2 := HS3.out.cell 3 rfl 2 (.int .i64 0) rfl
      have z3 := HS3.out.cell 3 rfl 3 (.int .i64 0) rfl
      have z4 := HS3.out.cell 3 rfl 4 (.slice none 0 0) rfl
      refine bodyPost_ret (v := .tuple #[.agg #[.int .i64 n, .slice a1 xs.length c1], .agg #[.int .i64 0, .int .i64 0, .int .i64 0, .int .i64 0, .slice none 0 0], .bool false]) (by simp [results, Tryd.results27, go_sem, *]) rfl ?_
      rw [EA.out]
      exact ⟨⟨a1, c1, none, 0, B, V.heap.size, rfl, HH.out.2.2.later HS3.out.bel, OwnS.nil _ _, Nat.le_refl _, Nat.le_trans hB (HS3.out.bel).size, fun k hk => (OwnS.low (HH.out.2.2.later HS3.out.bel) k hk).2⟩, HS3.out.bel⟩
  have u6 : ¬ 60 < n := by omega
  have hcan : canB 3 n 3 cl sv nc ys = true := by simp [canB, u4, u5]
  obtain ⟨hm3, hn60, t, u, hys, hto, huo⟩ := can3 hcan
  have hyl : ys.length = 2 := by rw [hys]; rfl
  have EG : Hid (askK n xs 3 cl sv nc ys now = giveK n xs sv nc t u now) := Hid.mk' (by unfold askK; rw [if_pos hcan, hys])
  have HY : Hid (ys = [t, u] ∧ t.ok = true ∧ u.ok = true) := ⟨hys, hto, huo⟩
  clear hys hto huo hm3 hcan
  have hy0 : 0 < ys.length := by omega
  have hy1 : 1 < ys.length := by omega
  have hy2 : (1 : Int) < (ys.length : Int) := by omega
  clear hyl
  obtain ⟨sb, hsb⟩ : ∃ sb, sb = shB t u 6 now := ⟨_, rfl⟩
  have HSB : Hid (sb = shB t u 6 now) := hsb
  clear hsb
  refine wp_region_walk [14, 15, 16, 17, 18, 19, 20, 21, 22, 23, 24, 25, 26, 27, 28, 29, 30, 31, 32, 33, 34, 35, 36, 37, 38, 39] (fun d s W => St w.heap.size w [⟨w.heap.size, 31, #[.int .i64 n, .slice a1 xs.length c1]⟩, ⟨w.heap.size + 1, 33, #[.int .i64 3, .int .i64 cl, .int .i64 sv, .int .i64 nc, .slice (some ⟨g2, 0, none⟩) ys.length cap]⟩, ⟨w.heap.size + 1 + 1, 31, #[.int .i64 0, .slice none 0 0]⟩, ⟨w.heap.size + 1 + 1 + 1, 33, #[.int .i64 0, .int .i64 0, .int .i64 0, .int .i64 0, .slice none 0 0]⟩] [] W ∧ Looks [(0, 14, Value.pointer (some ⟨w.heap.size + 1, 0, none⟩)), (1, 15, Value.int .i64 3), (2, 16, .bool false), (3, 17, .bool false), (4, 18, Value.agg #[.int .i64 3, .int .i64 cl, .int .i64 sv, .int .i64 nc, .slice (some ⟨g2, 0, none⟩) ys.length cap]), (5, 19, .bool true), (6, 20, .bool false), (7, 21, .bool false), (8, 22, .bool false), (9, 23, Value.pointer (some ⟨w.heap.size, 0, none⟩)), (10, 24, Value.int .i64 n), (11, 25, .bool false), (12, 26, .bool false), (13, 27, .bool false), (14, 28, Value.pointer (some ⟨w.heap.size + 1, 4, none⟩)), (15, 29, Value.slice (some ⟨g2, 0, none⟩) ys.length cap), (16, 30, Value.pointer (some ⟨g2, 0, none⟩)), (17, 31, Value.agg #[.int .i64 t.k, .int .i64 t.t, .int .i64 t.a, .int .i64 t.b, .int .i64 t.c, .int .i64 t.d, .int .i64 t.e]), (18, 32, Value.pointer (some ⟨w.heap.size + 1, 4, none⟩)), (19, 33, Value.slice (some ⟨g2, 0, none⟩) ys.length cap), (20, 34, Value.pointer (some ⟨g2, 7, none⟩)), (21, 35, Value.agg #[.int .i64 u.k, .int .i64 u.t, .int .i64 u.a, .int .i64 u.b, .int .i64 u.c, .int .i64 u.d, .int .i64 u.e]), (22, 36, Value.int .i64 now), (23, 37, .bool sb), (24, 38, .bool (!sb)), (25, 39, .bool (!sb))] d s) [0, 1, 2, 3, 4, 5, 6, 7, 8, 9, 10, 11, 12, 13, 14, 15, 16, 17, 18, 19, 20, 21, 22, 23, 24, 25] (by kernel_rfl) (by kernel_rfl) (by kernel_rfl) ?_ ?_ ?_
  · intro s
    exact ⟨HS1.out.drew, Looks.none _ _⟩
  · refine StepsR.cons (k := 0) [] (by kernel_rfl) ?_ (StepsR.cons (k := 1) [0] (by kernel_rfl) ?_ (StepsR.cons (k := 2) [1] (by kernel_rfl) ?_ (StepsR.cons (k := 3) [2] (by kernel_rfl) ?_ (StepsR.cons (k := 4) [3] (by kernel_rfl) ?_ (StepsR.cons (k := 5) [4, 3] (by kernel_rfl) ?_ (StepsR.cons (k := 6) [3, 5] (by kernel_rfl) ?_ (StepsR.cons (k := 7) [3, 6] (by kernel_rfl) ?_ (StepsR.cons (k := 8) [7] (by kernel_rfl) ?_ (StepsR.cons (k := 9) [8] (by kernel_rfl) ?_ (StepsR.cons (k := 10) [8, 9] (by kernel_rfl) ?_ (StepsR.cons (k := 11) [8, 10] (by kernel_rfl) ?_ (StepsR.cons (k := 12) [8, 11] (by kernel_rfl) ?_ (StepsR.cons (k := 13) [12] (by kernel_rfl) ?_ (StepsR.cons (k := 14) [13] (by kernel_rfl) ?_ (StepsR.cons (k := 15) [13, 14] (by kernel_rfl) ?_ (StepsR.cons (k := 16) [13, 15] (by kernel_rfl) ?_ (StepsR.cons (k := 17) [13, 16] (by kernel_rfl) ?_ (StepsR.cons (k := 18) [13] (by kernel_rfl) ?_ (StepsR.cons (k := 19) [13, 18] (by kernel_rfl) ?_ (StepsR.cons (k := 20) [13, 19] (by kernel_rfl) ?_ (StepsR.cons (k := 21) [13, 20] (by kernel_rfl) ?_ (StepsR.cons (k := 22) [13] (by kernel_rfl) ?_ (StepsR.cons (k := 23) [17, 21, 22, 13] (by kernel_rfl) ?_ (StepsR.cons (k := 24) [13, 23] (by kernel_rfl) ?_ (StepsR.cons (k := 25) [13, 24] (by kernel_rfl) ?_ (StepsR.nil))))))))))))))))))))))))))
    · intro d s w9 hd hA hC hF K hK
      have hB9 := hF.1.bel
      simp only [putL, putT, List.setIfInBounds_toArray, List.set_cons_zero, List.set_cons_succ]
      clear hB9
      as_aux_lemma =>
        go_simp
        refine hK.out (updS s 14 (Value.pointer (some ⟨w.heap.size + 1, 0, none⟩))) _ _ ?_ ⟨hF.1, hF.2.put 0 14 (Value.pointer (some ⟨w.heap.size + 1, 0, none⟩)) rfl (by simp)⟩
        simp only [putL, putT, List.setIfInBounds_toArray, List.set_cons_zero, List.set_cons_succ]; rfl
    · intro d s w9 hd hA hC hF K hK
      have hB9 := hF.1.bel
      simp only [putL, putT, List.setIfInBounds_toArray, List.set_cons_zero, List.set_cons_succ]
      clear hB9
      as_aux_lemma =>
        have eq0 : s 14 = Value.pointer (some ⟨w.heap.size + 1, 0, none⟩) := hF.2 (0, 14, Value.pointer (some ⟨w.heap.size + 1, 0, none⟩)) (by simp) (hA.1)
        rw [eq0]
        have p0 := hF.1.cell 1 rfl 0 (.int .i64 3) rfl
        go_simp
        clear p0
        refine hK.out (updS s 15 (Value.int .i64 3)) _ _ ?_ ⟨hF.1, hF.2.put 1 15 (Value.int .i64 3) rfl (by simp)⟩
        simp only [putL, putT, List.setIfInBounds_toArray, List.set_cons_zero, List.set_cons_succ]; rw [show updS s 15 (Value.int .i64 3) 14 = Value.pointer (some ⟨w.heap.size + 1, 0, none⟩) from eq0]; rfl
    · intro d s w9 hd hA hC hF K hK
      have hB9 := hF.1.bel
      simp only [putL, putT, List.setIfInBounds_toArray, List.set_cons_zero, List.set_cons_succ]
      clear hB9
      as_aux_lemma =>
        have eq1 : s 15 = Value.int .i64 3 := hF.2 (1, 15, Value.int .i64 3) (by simp) (hA.1)
        rw [eq1]
        go_simp
        refine hK.out (updS s 16 (.bool false)) _ _ ?_ ⟨hF.1, hF.2.put 2 16 (.bool false) rfl (by simp)⟩
        simp only [putL, putT, List.setIfInBounds_toArray, List.set_cons_zero, List.set_cons_succ]; rw [show updS s 16 (.bool false) 15 = Value.int .i64 3 from eq1]; rfl
    · intro d s w9 hd hA hC hF K hK
      have hB9 := hF.1.bel
      simp only [putL, putT, List.setIfInBounds_toArray, List.set_cons_zero, List.set_cons_succ]
      clear hB9
      as_aux_lemma =>
        have eq2 : s 16 = .bool false := hF.2 (2, 16, .bool false) (by simp) (hA.1)
        rw [eq2]
        go_simp
        refine hK.out (updS s 17 (.bool false)) _ _ ?_ ⟨hF.1, hF.2.put 3 17 (.bool false) rfl (by simp)⟩
        simp only [putL, putT, List.setIfInBounds_toArray, List.set_cons_zero, List.set_cons_succ]; rw [show updS s 17 (.bool false) 16 = .bool false from eq2]; rfl
    · intro d s w9 hd hA hC hF K hK
      have hB9 := hF.1.bel
      simp only [putL, putT, List.setIfInBounds_toArray, List.set_cons_zero, List.set_cons_succ]
      clear hB9
      as_aux_lemma =>
        have eq3 : s 17 = .bool false := hF.2 (3, 17, .bool false) (by simp) (hA.1)
        rw [eq3]
        have p0 := hF.1.cell 1 rfl 0 (.int .i64 3) rfl
        have p1 := hF.1.cell 1 rfl 1 (.int .i64 cl) rfl
        have p2 := hF.1.cell 1 rfl 2 (.int .i64 sv) rfl
        have p3 := hF.1.cell 1 rfl 3 (.int .i64 nc) rfl
        have p4 := hF.1.cell 1 rfl 4 (.slice (some ⟨g2, 0, none⟩) ys.length cap) rfl
        go_simp
        clear p0 p1 p2 p3 p4
        refine hK.out (updS s 18 (Value.agg #[.int .i64 3, .int .i64 cl, .int .i64 sv, .int .i64 nc, .slice (some ⟨g2, 0, none⟩) ys.length cap])) _ _ ?_ ⟨hF.1, hF.2.put 4 18 (Value.agg #[.int .i64 3, .int .i64 cl, .int .i64 sv, .int .i64 nc, .slice (some ⟨g2, 0, none⟩) ys.length cap]) rfl (by simp)⟩
        simp only [putL, putT, List.setIfInBounds_toArray, List.set_cons_zero, List.set_cons_succ]; rw [show updS s 18 (Value.agg #[.int .i64 3, .int .i64 cl, .int .i64 sv, .int .i64 nc, .slice (some ⟨g2, 0, none⟩) ys.length cap]) 17 = .bool false from eq3]; rfl
    · intro d s w9 hd hA hC hF K hK
      have hB9 := hF.1.bel
      simp only [putL, putT, List.setIfInBounds_toArray, List.set_cons_zero, List.set_cons_succ]
      clear hB9
      as_aux_lemma =>
        have eq4 : s 18 = Value.agg #[.int .i64 3, .int .i64 cl, .int .i64 sv, .int .i64 nc, .slice (some ⟨g2, 0, none⟩) ys.length cap] := hF.2 (4, 18, Value.agg #[.int .i64 3, .int .i64 cl, .int .i64 sv, .int .i64 nc, .slice (some ⟨g2, 0, none⟩) ys.length cap]) (by simp) (hA.1)
        have eq3 : s 17 = .bool false := hF.2 (3, 17, .bool false) (by simp) (hA.2.1)
        rw [eq4, eq3]
        go_simp
        refine (specMsg_any 3 cl sv nc _ _ ys _ (HH.out.2.1.later hF.1.bel) hy).mono ?_
        rintro r w8 ⟨rfl, b9⟩
        rw [u4]
        go_simp
        refine hK.out (updS s 19 (.bool true)) _ _ ?_ ⟨St.grow b9 hF.1, hF.2.put 5 19 (.bool true) rfl (by simp)⟩
        simp only [putL, putT, List.setIfInBounds_toArray, List.set_cons_zero, List.set_cons_succ]
        rw [← eq4, ← eq3]; rfl
    · intro d s w9 hd hA hC hF K hK
      have hB9 := hF.1.bel
      simp only [putL, putT, List.setIfInBounds_toArray, List.set_cons_zero, List.set_cons_succ]
      clear hB9
      as_aux_lemma =>
        have eq3 : s 17 = .bool false := hF.2 (3, 17, .bool false) (by simp) (hA.1)
        have eq5 : s 19 = .bool true := hF.2 (5, 19, .bool true) (by simp) (hA.2.1)
        rw [eq3, eq5]
        go_simp
        refine hK.out (updS s 20 (.bool false)) _ _ ?_ ⟨hF.1, hF.2.put 6 20 (.bool false) rfl (by simp)⟩
        simp only [putL, putT, List.setIfInBounds_toArray, List.set_cons_zero, List.set_cons_succ]; rw [show updS s 20 (.bool false) 17 = .bool false from eq3, show updS s 20 (.bool false) 19 = .bool true from eq5]; rfl
    · intro d s w9 hd hA hC hF K hK
      have hB9 := hF.1.bel
      simp only [putL, putT, List.setIfInBounds_toArray, List.set_cons_zero, List.set_cons_succ]
      clear hB9
      as_aux_lemma =>
        have eq3 : s 17 = .bool false := hF.2 (3, 17, .bool false) (by simp) (hA.1)
        have eq6 : s 20 = .bool false := hF.2 (6, 20, .bool false) (by simp) (hA.2.1)
        rw [eq3, eq6]
        go_simp
        refine hK.out (updS s 21 (.bool false)) _ _ ?_ ⟨hF.1, hF.2.put 7 21 (.bool false) rfl (by simp)⟩
        simp only [putL, putT, List.setIfInBounds_toArray, List.set_cons_zero, List.set_cons_succ]; rw [show updS s 21 (.bool false) 17 = .bool false from eq3, show updS s 21 (.bool false) 20 = .bool false from eq6]; rfl
    · intro d s w9 hd hA hC hF K hK
      have hB9 := hF.1.bel
      simp only [putL, putT, List.setIfInBounds_toArray, List.set_cons_zero, List.set_cons_succ]
      clear hB9
      as_aux_lemma =>
        have eq7 : s 21 = .bool false := hF.2 (7, 21, .bool false) (by simp) (hA.1)
        rw [eq7]
        go_simp
        refine hK.out (updS s 22 (.bool false)) _ _ ?_ ⟨hF.1, hF.2.put 8 22 (.bool false) rfl (by simp)⟩
        simp only [putL, putT, List.setIfInBounds_toArray, List.set_cons_zero, List.set_cons_succ]; rw [show updS s 22 (.bool false) 21 = .bool false from eq7]; rfl
    · intro d s w9 hd hA hC hF K hK
      have hB9 := hF.1.bel
      simp only [putL, putT, List.setIfInBounds_toArray, List.set_cons_zero, List.set_cons_succ]
      clear hB9
      as_aux_lemma =>
        have eq8 : s 22 = .bool false := hF.2 (8, 22, .bool false) (by simp) (hA.1)
        rw [eq8]
        go_simp
        refine hK.out (updS s 23 (Value.pointer (some ⟨w.heap.size, 0, none⟩))) _ _ ?_ ⟨hF.1, hF.2.put 9 23 (Value.pointer (some ⟨w.heap.size, 0, none⟩)) rfl (by simp)⟩
        simp only [putL, putT, List.setIfInBounds_toArray, List.set_cons_zero, List.set_cons_succ]; rw [show updS s 23 (Value.pointer (some ⟨w.heap.size, 0, none⟩)) 22 = .bool false from eq8]; rfl
    · intro d s w9 hd hA hC hF K hK
      have hB9 := hF.1.bel
      simp only [putL, putT, List.setIfInBounds_toArray, List.set_cons_zero, List.set_cons_succ]
      clear hB9
      as_aux_lemma =>
        have eq8 : s 22 = .bool false := hF.2 (8, 22, .bool false) (by simp) (hA.1)
        have eq9 : s 23 = Value.pointer (some ⟨w.heap.size, 0, none⟩) := hF.2 (9, 23, Value.pointer (some ⟨w.heap.size, 0, none⟩)) (by simp) (hA.2.1)
        rw [eq8, eq9]
        have p0 := hF.1.cell 0 rfl 0 (.int .i64 n) rfl
        go_simp
        clear p0
        refine hK.out (updS s 24 (Value.int .i64 n)) _ _ ?_ ⟨hF.1, hF.2.put 10 24 (Value.int .i64 n) rfl (by simp)⟩
        simp only [putL, putT, List.setIfInBounds_toArray, List.set_cons_zero, List.set_cons_succ]; rw [show updS s 24 (Value.int .i64 n) 22 = .bool false from eq8, show updS s 24 (Value.int .i64 n) 23 = Value.pointer (some ⟨w.heap.size, 0, none⟩) from eq9]; rfl
    · intro d s w9 hd hA hC hF K hK
      have hB9 := hF.1.bel
      simp only [putL, putT, List.setIfInBounds_toArray, List.set_cons_zero, List.set_cons_succ]
      clear hB9
      as_aux_lemma =>
        have eq8 : s 22 = .bool false := hF.2 (8, 22, .bool false) (by simp) (hA.1)
        have eq10 : s 24 = Value.int .i64 n := hF.2 (10, 24, Value.int .i64 n) (by simp) (hA.2.1)
        rw [eq8, eq10]
        go_simp
        refine hK.out (updS s 25 (.bool false)) _ _ ?_ ⟨hF.1, hF.2.put 11 25 (.bool false) rfl (by simp)⟩
        simp only [putL, putT, List.setIfInBounds_toArray, List.set_cons_zero, List.set_cons_succ]; rw [show updS s 25 (.bool false) 22 = .bool false from eq8, show updS s 25 (.bool false) 24 = Value.int .i64 n from eq10]; rfl
    · intro d s w9 hd hA hC hF K hK
      have hB9 := hF.1.bel
      simp only [putL, putT, List.setIfInBounds_toArray, List.set_cons_zero, List.set_cons_succ]
      clear hB9
      as_aux_lemma =>
        have eq8 : s 22 = .bool false := hF.2 (8, 22, .bool false) (by simp) (hA.1)
        have eq11 : s 25 = .bool false := hF.2 (11, 25, .bool false) (by simp) (hA.2.1)
        rw [eq8, eq11]
        go_simp
        refine hK.out (updS s 26 (.bool false)) _ _ ?_ ⟨hF.1, hF.2.put 12 26 (.bool false) rfl (by simp)⟩
        simp only [putL, putT, List.setIfInBounds_toArray, List.set_cons_zero, List.set_cons_succ]; rw [show updS s 26 (.bool false) 22 = .bool false from eq8, show updS s 26 (.bool false) 25 = .bool false from eq11]; rfl
    · intro d s w9 hd hA hC hF K hK
      have hB9 := hF.1.bel
      simp only [putL, putT, List.setIfInBounds_toArray, List.set_cons_zero, List.set_cons_succ]
      clear hB9
      as_aux_lemma =>
        have eq12 : s 26 = .bool false := hF.2 (12, 26, .bool false) (by simp) (hA.1)
        rw [eq12]
        go_simp
        refine hK.out (updS s 27 (.bool false)) _ _ ?_ ⟨hF.1, hF.2.put 13 27 (.bool false) rfl (by simp)⟩
        simp only [putL, putT, List.setIfInBounds_toArray, List.set_cons_zero, List.set_cons_succ]; rw [show updS s 27 (.bool false) 26 = .bool false from eq12]; rfl
    · intro d s w9 hd hA hC hF K hK
      have hB9 := hF.1.bel
      simp only [putL, putT, List.setIfInBounds_toArray, List.set_cons_zero, List.set_cons_succ]
      clear hB9
      as_aux_lemma =>
        have eq13 : s 27 = .bool false := hF.2 (13, 27, .bool false) (by simp) (hA.1)
        rw [eq13]
        go_simp
        refine hK.out (updS s 28 (Value.pointer (some ⟨w.heap.size + 1, 4, none⟩))) _ _ ?_ ⟨hF.1, hF.2.put 14 28 (Value.pointer (some ⟨w.heap.size + 1, 4, none⟩)) rfl (by simp)⟩
        simp only [putL, putT, List.setIfInBounds_toArray, List.set_cons_zero, List.set_cons_succ]; rw [show updS s 28 (Value.pointer (some ⟨w.heap.size + 1, 4, none⟩)) 27 = .bool false from eq13]; rfl
    · intro d s w9 hd hA hC hF K hK
      have hB9 := hF.1.bel
      simp only [putL, putT, List.setIfInBounds_toArray, List.set_cons_zero, List.set_cons_succ]
      clear hB9
      as_aux_lemma =>
        have eq13 : s 27 = .bool false := hF.2 (13, 27, .bool false) (by simp) (hA.1)
        have eq14 : s 28 = Value.pointer (some ⟨w.heap.size + 1, 4, none⟩) := hF.2 (14, 28, Value.pointer (some ⟨w.heap.size + 1, 4, none⟩)) (by simp) (hA.2.1)
        rw [eq13, eq14]
        have p4 := hF.1.cell 1 rfl 4 (.slice (some ⟨g2, 0, none⟩) ys.length cap) rfl
        go_simp
        clear p4
        refine hK.out (updS s 29 (Value.slice (some ⟨g2, 0, none⟩) ys.length cap)) _ _ ?_ ⟨hF.1, hF.2.put 15 29 (Value.slice (some ⟨g2, 0, none⟩) ys.length cap) rfl (by simp)⟩
        simp only [putL, putT, List.setIfInBounds_toArray, List.set_cons_zero, List.set_cons_succ]; rw [show updS s 29 (Value.slice (some ⟨g2, 0, none⟩) ys.length cap) 27 = .bool false from eq13, show updS s 29 (Value.slice (some ⟨g2, 0, none⟩) ys.length cap) 28 = Value.pointer (some ⟨w.heap.size + 1, 4, none⟩) from eq14]; rfl
    · intro d s w9 hd hA hC hF K hK
      have hB9 := hF.1.bel
      simp only [putL, putT, List.setIfInBounds_toArray, List.set_cons_zero, List.set_cons_succ]
      clear hB9
      as_aux_lemma =>
        have eq13 : s 27 = .bool false := hF.2 (13, 27, .bool false) (by simp) (hA.1)
        have eq15 : s 29 = Value.slice (some ⟨g2, 0, none⟩) ys.length cap := hF.2 (15, 29, Value.slice (some ⟨g2, 0, none⟩) ys.length cap) (by simp) (hA.2.1)
        rw [eq13, eq15]
        go_simp
        refine hK.out (updS s 30 (Value.pointer (some ⟨g2, 0, none⟩))) _ _ ?_ ⟨hF.1, hF.2.put 16 30 (Value.pointer (some ⟨g2, 0, none⟩)) rfl (by simp)⟩
        simp only [putL, putT, List.setIfInBounds_toArray, List.set_cons_zero, List.set_cons_succ]; rw [show updS s 30 (Value.pointer (some ⟨g2, 0, none⟩)) 27 = .bool false from eq13, show updS s 30 (Value.pointer (some ⟨g2, 0, none⟩)) 29 = Value.slice (some ⟨g2, 0, none⟩) ys.length cap from eq15]; rfl
    · intro d s w9 hd hA hC hF K hK
      have hB9 := hF.1.bel
      simp only [putL, putT, List.setIfInBounds_toArray, List.set_cons_zero, List.set_cons_succ]
      clear hB9
      as_aux_lemma =>
        have eq13 : s 27 = .bool false := hF.2 (13, 27, .bool false) (by simp) (hA.1)
        have eq16 : s 30 = Value.pointer (some ⟨g2, 0, none⟩) := hF.2 (16, 30, Value.pointer (some ⟨g2, 0, none⟩)) (by simp) (hA.2.1)
        rw [eq13, eq16]
        obtain ⟨q0, q1, q2, q3, q4, q5, q6⟩ := (srow_two' (HH.out.2.1.later hF.1.bel) HY.out.1).1
        simp only [Nat.zero_add] at q0 q1 q2 q3 q4 q5 q6
        go_simp
        clear q0 q1 q2 q3 q4 q5 q6
        refine hK.out (updS s 31 (Value.agg #[.int .i64 t.k, .int .i64 t.t, .int .i64 t.a, .int .i64 t.b, .int .i64 t.c, .int .i64 t.d, .int .i64 t.e])) _ _ ?_ ⟨hF.1, hF.2.put 17 31 (Value.agg #[.int .i64 t.k, .int .i64 t.t, .int .i64 t.a, .int .i64 t.b, .int .i64 t.c, .int .i64 t.d, .int .i64 t.e]) rfl (by simp)⟩
        simp only [putL, putT, List.setIfInBounds_toArray, List.set_cons_zero, List.set_cons_succ]; rw [show updS s 31 (Value.agg #[.int .i64 t.k, .int .i64 t.t, .int .i64 t.a, .int .i64 t.b, .int .i64 t.c, .int .i64 t.d, .int .i64 t.e]) 27 = .bool false from eq13, show updS s 31 (Value.agg #[.int .i64 t.k, .int .i64 t.t, .int .i64 t.a, .int .i64 t.b, .int .i64 t.c, .int .i64 t.d, .int .i64 t.e]) 30 = Value.pointer (some ⟨g2, 0, none⟩) from eq16]; rfl
    · intro d s w9 hd hA hC hF K hK
      have hB9 := hF.1.bel
      simp only [putL, putT, List.setIfInBounds_toArray, List.set_cons_zero, List.set_cons_succ]
      clear hB9
      as_aux_lemma =>
        have eq13 : s 27 = .bool false := hF.2 (13, 27, .bool false) (by simp) (hA.1)
        rw [eq13]
        go_simp
        refine hK.out (updS s 32 (Value.pointer (some ⟨w.heap.size + 1, 4, none⟩))) _ _ ?_ ⟨hF.1, hF.2.put 18 32 (Value.pointer (some ⟨w.heap.size + 1, 4, none⟩)) rfl (by simp)⟩
        simp only [putL, putT, List.setIfInBounds_toArray, List.set_cons_zero, List.set_cons_succ]; rw [show updS s 32 (Value.pointer (some ⟨w.heap.size + 1, 4, none⟩)) 27 = .bool false from eq13]; rfl
    · intro d s w9 hd hA hC hF K hK
      have hB9 := hF.1.bel
      simp only [putL, putT, List.setIfInBounds_toArray, List.set_cons_zero, List.set_cons_succ]
      clear hB9
      as_aux_lemma =>
        have eq13 : s 27 = .bool false := hF.2 (13, 27, .bool false) (by simp) (hA.1)
        have eq18 : s 32 = Value.pointer (some ⟨w.heap.size + 1, 4, none⟩) := hF.2 (18, 32, Value.pointer (some ⟨w.heap.size + 1, 4, none⟩)) (by simp) (hA.2.1)
        rw [eq13, eq18]
        have p4 := hF.1.cell 1 rfl 4 (.slice (some ⟨g2, 0, none⟩) ys.length cap) rfl
        go_simp
        clear p4
        refine hK.out (updS s 33 (Value.slice (some ⟨g2, 0, none⟩) ys.length cap)) _ _ ?_ ⟨hF.1, hF.2.put 19 33 (Value.slice (some ⟨g2, 0, none⟩) ys.length cap) rfl (by simp)⟩
        simp only [putL, putT, List.setIfInBounds_toArray, List.set_cons_zero, List.set_cons_succ]; rw [show updS s 33 (Value.slice (some ⟨g2, 0, none⟩) ys.length cap) 27 = .bool false from eq13, show updS s 33 (Value.slice (some ⟨g2, 0, none⟩) ys.length cap) 32 = Value.pointer (some ⟨w.heap.size + 1, 4, none⟩) from eq18]; rfl
    · intro d s w9 hd hA hC hF K hK
      have hB9 := hF.1.bel
      simp only [putL, putT, List.setIfInBounds_toArray, List.set_cons_zero, List.set_cons_succ]
      clear hB9
      as_aux_lemma =>
        have eq13 : s 27 = .bool false := hF.2 (13, 27, .bool false) (by simp) (hA.1)
        have eq19 : s 33 = Value.slice (some ⟨g2, 0, none⟩) ys.length cap := hF.2 (19, 33, Value.slice (some ⟨g2, 0, none⟩) ys.length cap) (by simp) (hA.2.1)
        rw [eq13, eq19]
        go_simp
        refine hK.out (updS s 34 (Value.pointer (some ⟨g2, 7, none⟩))) _ _ ?_ ⟨hF.1, hF.2.put 20 34 (Value.pointer (some ⟨g2, 7, none⟩)) rfl (by simp)⟩
        simp only [putL, putT, List.setIfInBounds_toArray, List.set_cons_zero, List.set_cons_succ]; rw [show updS s 34 (Value.pointer (some ⟨g2, 7, none⟩)) 27 = .bool false from eq13, show updS s 34 (Value.pointer (some ⟨g2, 7, none⟩)) 33 = Value.slice (some ⟨g2, 0, none⟩) ys.length cap from eq19]; rfl
    · intro d s w9 hd hA hC hF K hK
      have hB9 := hF.1.bel
      simp only [putL, putT, List.setIfInBounds_toArray, List.set_cons_zero, List.set_cons_succ]
      clear hB9
      as_aux_lemma =>
        have eq13 : s 27 = .bool false := hF.2 (13, 27, .bool false) (by simp) (hA.1)
        have eq20 : s 34 = Value.pointer (some ⟨g2, 7, none⟩) := hF.2 (20, 34, Value.pointer (some ⟨g2, 7, none⟩)) (by simp) (hA.2.1)
        rw [eq13, eq20]
        obtain ⟨q0, q1, q2, q3, q4, q5, q6⟩ := (srow_two' (HH.out.2.1.later hF.1.bel) HY.out.1).2
        go_simp
        clear q0 q1 q2 q3 q4 q5 q6
        refine hK.out (updS s 35 (Value.agg #[.int .i64 u.k, .int .i64 u.t, .int .i64 u.a, .int .i64 u.b, .int .i64 u.c, .int .i64 u.d, .int .i64 u.e])) _ _ ?_ ⟨hF.1, hF.2.put 21 35 (Value.agg #[.int .i64 u.k, .int .i64 u.t, .int .i64 u.a, .int .i64 u.b, .int .i64 u.c, .int .i64 u.d, .int .i64 u.e]) rfl (by simp)⟩
        simp only [putL, putT, List.setIfInBounds_toArray, List.set_cons_zero, List.set_cons_succ]; rw [show updS s 35 (Value.agg #[.int .i64 u.k, .int .i64 u.t, .int .i64 u.a, .int .i64 u.b, .int .i64 u.c, .int .i64 u.d, .int .i64 u.e]) 27 = .bool false from eq13, show updS s 35 (Value.agg #[.int .i64 u.k, .int .i64 u.t, .int .i64 u.a, .int .i64 u.b, .int .i64 u.c, .int .i64 u.d, .int .i64 u.e]) 34 = Value.pointer (some ⟨g2, 7, none⟩) from eq20]; rfl
    · intro d s w9 hd hA hC hF K hK
      have hB9 := hF.1.bel
      simp only [putL, putT, List.setIfInBounds_toArray, List.set_cons_zero, List.set_cons_succ]
      clear hB9
      as_aux_lemma =>
        have eq13 : s 27 = .bool false := hF.2 (13, 27, .bool false) (by simp) (hA.1)
        rw [eq13]
        go_simp
        refine hK.out (updS s 36 (Value.int .i64 now)) _ _ ?_ ⟨hF.1, hF.2.put 22 36 (Value.int .i64 now) rfl (by simp)⟩
        simp only [putL, putT, List.setIfInBounds_toArray, List.set_cons_zero, List.set_cons_succ]; rw [show updS s 36 (Value.int .i64 now) 27 = .bool false from eq13]; rfl
    · intro d s w9 hd hA hC hF K hK
      have hB9 := hF.1.bel
      simp only [putL, putT, List.setIfInBounds_toArray, List.set_cons_zero, List.set_cons_succ]
      clear hB9
      as_aux_lemma =>
        have eq17 : s 31 = Value.agg #[.int .i64 t.k, .int .i64 t.t, .int .i64 t.a, .int .i64 t.b, .int .i64 t.c, .int .i64 t.d, .int .i64 t.e] := hF.2 (17, 31, Value.agg #[.int .i64 t.k, .int .i64 t.t, .int .i64 t.a, .int .i64 t.b, .int .i64 t.c, .int .i64 t.d, .int .i64 t.e]) (by simp) (hA.1)
        have eq21 : s 35 = Value.agg #[.int .i64 u.k, .int .i64 u.t, .int .i64 u.a, .int .i64 u.b, .int .i64 u.c, .int .i64 u.d, .int .i64 u.e] := hF.2 (21, 35, Value.agg #[.int .i64 u.k, .int .i64 u.t, .int .i64 u.a, .int .i64 u.b, .int .i64 u.c, .int .i64 u.d, .int .i64 u.e]) (by simp) (hA.2.1)
        have eq22 : s 36 = Value.int .i64 now := hF.2 (22, 36, Value.int .i64 now) (by simp) (hA.2.2.1)
        have eq13 : s 27 = .bool false := hF.2 (13, 27, .bool false) (by simp) (hA.2.2.2.1)
        rw [eq17, eq21, eq22, eq13]
        go_simp
        refine (l11Shown_any t u 6 now _).mono ?_
        rintro r w8 ⟨rfl, b9⟩
        rw [← HSB.out]
        go_simp
        refine hK.out (updS s 37 (.bool sb)) _ _ ?_ ⟨St.grow b9 hF.1, hF.2.put 23 37 (.bool sb) rfl (by simp)⟩
        simp only [putL, putT, List.setIfInBounds_toArray, List.set_cons_zero, List.set_cons_succ]
        rw [← eq17, ← eq21, ← eq22, ← eq13]; rfl
    · intro d s w9 hd hA hC hF K hK
      have hB9 := hF.1.bel
      simp only [putL, putT, List.setIfInBounds_toArray, List.set_cons_zero, List.set_cons_succ]
      clear hB9
      as_aux_lemma =>
        have eq13 : s 27 = .bool false := hF.2 (13, 27, .bool false) (by simp) (hA.1)
        have eq23 : s 37 = .bool sb := hF.2 (23, 37, .bool sb) (by simp) (hA.2.1)
        rw [eq13, eq23]
        go_simp
        refine hK.out (updS s 38 (.bool (!sb))) _ _ ?_ ⟨hF.1, hF.2.put 24 38 (.bool (!sb)) rfl (by simp)⟩
        simp only [putL, putT, List.setIfInBounds_toArray, List.set_cons_zero, List.set_cons_succ]; rw [show updS s 38 (.bool (!sb)) 27 = .bool false from eq13, show updS s 38 (.bool (!sb)) 37 = .bool sb from eq23]; rfl
    · intro d s w9 hd hA hC hF K hK
      have hB9 := hF.1.bel
      simp only [putL, putT, List.setIfInBounds_toArray, List.set_cons_zero, List.set_cons_succ]
      clear hB9
      as_aux_lemma =>
        have eq13 : s 27 = .bool false := hF.2 (13, 27, .bool false) (by simp) (hA.1)
        have eq24 : s 38 = .bool (!sb) := hF.2 (24, 38, .bool (!sb)) (by simp) (hA.2.1)
        rw [eq13, eq24]
        go_simp
        refine hK.out (updS s 39 (.bool (!sb))) _ _ ?_ ⟨hF.1, hF.2.put 25 39 (.bool (!sb)) rfl (by simp)⟩
        simp only [putL, putT, List.setIfInBounds_toArray, List.set_cons_zero, List.set_cons_succ]; rw [show updS s 39 (.bool (!sb)) 27 = .bool false from eq13, show updS s 39 (.bool (!sb)) 38 = .bool (!sb) from eq24]; rfl
  · intro d s w3 hA hF
    have hS := hF.1
    have eq25 : s 39 = .bool (!sb) := hF.2 (25, 39, .bool (!sb)) (by simp) (hA.2.2.2.2.2.2.2.2.2.2.2.2.2.2.2.2.2.2.2.2.2.2.2.2.2.1)
    have HS2 : Hid (St w.heap.size w [⟨w.heap.size, 31, #[.int .i64 n, .slice a1 xs.length c1]⟩, ⟨w.heap.size + 1, 33, #[.int .i64 3, .int .i64 cl, .int .i64 sv, .int .i64 nc, .slice (some ⟨g2, 0, none⟩) ys.length cap]⟩, ⟨w.heap.size + 1 + 1, 31, #[.int .i64 0, .slice none 0 0]⟩, ⟨w.heap.size + 1 + 1 + 1, 33, #[.int .i64 0, .int .i64 0, .int .i64 0, .int .i64 0, .slice none 0 0]⟩] [] w3) := hS
    clear hS hF hA HS1
    simp only [putL, putT, List.setIfInBounds_toArray, List.set_cons_zero, List.set_cons_succ]
    rw [eq25]
    clear eq25
    clear u6 u4
    cases hsb : sb
    · skip
      rw [hsb] at HSB
      have EA : Hid (askK n xs 3 cl sv nc ys now = keepK n xs) := Hid.mk' (by rw [EG.out]; unfold giveK; rw [if_neg (by rw [← HSB.out]; simp)])
      have lt0 : w.heap.size < w3.heap.size := (HS2.out.lt 0 rfl).2
      have lt1 : w.heap.size + 1 < w3.heap.size := (HS2.out.lt 1 rfl).2
      have lt2 : w.heap.size + 1 + 1 < w3.heap.size := (HS2.out.lt 2 rfl).2
      have lt3 : w.heap.size + 1 + 1 + 1 < w3.heap.size := (HS2.out.lt 3 rfl).2
      have p0 := HS2.out.cell 0 rfl 0 (.int .i64 n) rfl
      have p1 := HS2.out.cell 0 rfl 1 (.slice a1 xs.length c1) rfl
      have z0 := HS2.out.cell 2 rfl 0 (.int .i64 0) rfl
      have zf0 := HS2.out.fro 2 rfl 0
      have z1 := HS2.out.cell 2 rfl 1 (.slice none 0 0) rfl
      have zf1 := HS2.out.fro 2 rfl 1
      have y0 := HS2.out.cell 3 rfl 0 (.int .i64 0) rfl
      have yf0 := HS2.out.fro 3 rfl 0
      have y1 := HS2.out.cell 3 rfl 1 (.int .i64 0) rfl
      have yf1 := HS2.out.fro 3 rfl 1
      have y2 := HS2.out.cell 3 rfl 2 (.int .i64 0) rfl
      have yf2 := HS2.out.fro 3 rfl 2
      have y3 := HS2.out.cell 3 rfl 3 (.int .i64 0) rfl
      have yf3 := HS2.out.fro 3 rfl 3
      have y4 := HS2.out.cell 3 rfl 4 (.slice none 0 0) rfl
      have yf4 := HS2.out.fro 3 rfl 4
      go_wp2_with fail
      clear lt0 lt1 lt2 lt3 p0 p1 z0 zf0 z1 zf1 y0 yf0 y1 yf1 y2 yf2 y3 yf3 y4 yf4
      obtain ⟨V, hX9, HS3⟩ : ∃ X, X = (((((((w3.setCell ⟨w.heap.size + 1 + 1, 0, none⟩ (.int .i64 n)).setCell ⟨w.heap.size + 1 + 1, 1, none⟩ (.slice a1 xs.length c1)).setCell ⟨w.heap.size + 1 + 1 + 1, 0, none⟩ (.int .i64 0)).setCell ⟨w.heap.size + 1 + 1 + 1, 1, none⟩ (.int .i64 0)).setCell ⟨w.heap.size + 1 + 1 + 1, 2, none⟩ (.int .i64 0)).setCell ⟨w.heap.size + 1 + 1 + 1, 3, none⟩ (.int .i64 0)).setCell ⟨w.heap.size + 1 + 1 + 1, 4, none⟩ (.slice none 0 0)) ∧ Hid (St w.heap.size w [⟨w.heap.size, 31, #[.int .i64 n, .slice a1 xs.length c1]⟩, ⟨w.heap.size + 1, 33, #[.int .i64 3, .int .i64 cl, .int .i64 sv, .int .i64 nc, .slice (some ⟨g2, 0, none⟩) ys.length cap]⟩, ⟨w.heap.size + 1 + 1, 31, #[.int .i64 n, .slice a1 xs.length c1]⟩, ⟨w.heap.size + 1 + 1 + 1, 33, #[.int .i64 0, .int .i64 0, .int .i64 0, .int .i64 0, .slice none 0 0]⟩] [] X) := ⟨_, rfl, Hid.mk' (by
        have h := (St.put5 3 (St.put2 2 HS2.out rfl rfl (.int .i64 n) (.slice a1 xs.length c1)) rfl rfl (.int .i64 0) (.int .i64 0) (.int .i64 0) (.int .i64 0) (.slice none 0 0))
        try simp only [World.size_alloc] at h
        try simp only [World.size_setCell] at h
        exact h)⟩
      rw [← hX9]
      clear hX9
      clear HS2
      have y0 := HS3.out.cell 2 rfl 0 (.int .i64 n) rfl
      have y1 := HS3.out.cell 2 rfl 1 (.slice a1 xs.length c1) rfl
      have z0 := HS3.out.cell 3 rfl 0 (.int .i64 0) rfl
      have z1 := HS3.out.cell 3 rfl 1 (.int .i64 0) rfl
      have z2 := HS3.out.cell 3 rfl 2 (.int .i64 0) rfl
      have z3 := HS3.out.cell 3 rfl 3 (.int .i64 0) rfl
      have z4 := HS3.out.cell 3 rfl 4 (.slice none 0 0) rfl
      refine bodyPost_ret (v := .tuple #[.agg #[.int .i64 n, .slice a1 xs.length c1], .agg #[.int .i64 0, .int .i64 0, .int .i64 0, .int .i64 0, .slice none 0 0], .bool false]) (by simp [results, Tryd.results27, go_sem, *]) rfl ?_
      rw [EA.out]
      exact ⟨⟨a1, c1, none, 0, B, V.heap.size, rfl, HH.out.2.2.later HS3.out.bel, OwnS.nil _ _, Nat.le_refl _, Nat.le_trans hB (HS3.out.bel).size, fun k hk => (OwnS.low (HH.out.2.2.later HS3.out.bel) k hk).2⟩, HS3.out.bel⟩
    rw [hsb] at HSB
    have hsh : shB t u 6 now = true := HSB.out.symm
    have hau := shB_auth hsh HY.out.2.2
    obtain ⟨L, hL⟩ : ∃ L, L = withL now xs u := ⟨_, rfl⟩
    obtain ⟨tb, htb⟩ : ∃ tb, tb = takes now xs u := ⟨_, rfl⟩
    have HC : Hid (takes now xs u = tb ∧ withL now xs u = L ∧ (0 ≤ u.b ∧ u.b ≤ 100)) := ⟨htb.symm, hL.symm, by obtain ⟨_, _, _, _, _, _, e1, e2, _⟩ := auth_parts hau; exact ⟨e1, e2⟩⟩
    have EG2 : Hid (askK n xs 3 cl sv nc ys now = if tb = true then ⟨n + 1, L, 4, t.a, 0, 0, [tick t.a sv n now t.e, part t.c sv n nc t.e], true⟩ else keepK n L) := Hid.mk' (by rw [EG.out, hL, htb]; unfold giveK; rw [if_pos hsh])
    clear hL htb hsh hau EG
    have lt0 : w.heap.size < w3.heap.size := (HS2.out.lt 0 rfl).2
    have lt1 : w.heap.size + 1 < w3.heap.size := (HS2.out.lt 1 rfl).2
    have lt2 : w.heap.size + 1 + 1 < w3.heap.size := (HS2.out.lt 2 rfl).2
    have lt3 : w.heap.size + 1 + 1 + 1 < w3.heap.size := (HS2.out.lt 3 rfl).2
    go_wp2_with fail
    clear lt0 lt1 lt2 lt3
    refine wp_region_walk [9, 10, 42, 43, 44, 45, 46, 47, 48, 49, 50, 51, 52] (fun d s W => St w.heap.size w [⟨w.heap.size, 31, #[.int .i64 n, .slice a1 xs.length c1]⟩, ⟨w.heap.size + 1, 33, #[.int .i64 3, .int .i64 cl, .int .i64 sv, .int .i64 nc, .slice (some ⟨g2, 0, none⟩) ys.length cap]⟩, ⟨w.heap.size + 1 + 1, 31, #[.int .i64 0, .slice none 0 0]⟩, ⟨w.heap.size + 1 + 1 + 1, 33, #[.int .i64 0, .int .i64 0, .int .i64 0, .int .i64 0, .slice none 0 0]⟩] [⟨(selT 64), fun W => TwS 7 8 9 11 50 42 51 9 d s tb w.heap.size L W⟩] W ∧ Looks [(0, 43, Value.pointer (some ⟨w.heap.size, 1, none⟩)), (1, 44, Value.slice a1 xs.length c1), (2, 45, Value.pointer (some ⟨w.heap.size + 1, 4, none⟩)), (3, 46, Value.slice (some ⟨g2, 0, none⟩) ys.length cap), (4, 47, Value.pointer (some ⟨g2, 7, none⟩)), (5, 48, Value.agg #[.int .i64 u.k, .int .i64 u.t, .int .i64 u.a, .int .i64 u.b, .int .i64 u.c, .int .i64 u.d, .int .i64 u.e]), (6, 49, Value.int .i64 now), (10, 52, .bool tb), (12, 10, .bool tb)] d s) [0, 1, 2, 3, 4, 5, 6, 7, 8, 9, 10, 11, 12] (by kernel_rfl) (by kernel_rfl) (by kernel_rfl) ?_ ?_ ?_
    · intro s
      exact ⟨St.add (selT 64) (TwS 7 8 9 11 50 42 51 9 (fun _ : Nat => false) s tb w.heap.size L) (keep_TwS 7 8 9 11 50 42 51 9 (fun _ : Nat => false) s tb w.heap.size L) ⟨undef, (fun e => by cases e), (fun e => by cases e), (fun e => by cases e), (fun e => by cases e)⟩ HS2.out.drew, Looks.none _ _⟩
    · refine StepsR.cons (k := 0) [] (by kernel_rfl) ?_ (StepsR.cons (k := 1) [0] (by kernel_rfl) ?_ (StepsR.cons (k := 2) [] (by kernel_rfl) ?_ (StepsR.cons (k := 3) [2] (by kernel_rfl) ?_ (StepsR.cons (k := 4) [3] (by kernel_rfl) ?_ (StepsR.cons (k := 5) [4] (by kernel_rfl) ?_ (StepsR.cons (k := 6) [] (by kernel_rfl) ?_ (StepsR.cons (k := 7) [1, 5, 6] (by kernel_rfl) ?_ (StepsR.cons (k := 8) [7] (by kernel_rfl) ?_ (StepsR.cons (k := 9) [8] (by kernel_rfl) ?_ (StepsR.cons (k := 10) [8] (by kernel_rfl) ?_ (StepsR.cons (k := 11) [9] (by kernel_rfl) ?_ (StepsR.cons (k := 12) [10] (by kernel_rfl) ?_ (StepsR.nil)))))))))))))
      · intro d s w9 hd hA hC hF K hK
        have hB9 := hF.1.bel
        simp only [putL, putT, List.setIfInBounds_toArray, List.set_cons_zero, List.set_cons_succ]
        clear hB9
        as_aux_lemma =>
          go_simp
          refine hK.out (updS s 43 (Value.pointer (some ⟨w.heap.size, 1, none⟩))) _ _ ?_ ⟨hF.1, hF.2.put 0 43 (Value.pointer (some ⟨w.heap.size, 1, none⟩)) rfl (by simp)⟩
          simp only [putL, putT, List.setIfInBounds_toArray, List.set_cons_zero, List.set_cons_succ]; rfl
      · intro d s w9 hd hA hC hF K hK
        have hB9 := hF.1.bel
        simp only [putL, putT, List.setIfInBounds_toArray, List.set_cons_zero, List.set_cons_succ]
        clear hB9
        as_aux_lemma =>
          have eq0 : s 43 = Value.pointer (some ⟨w.heap.size, 1, none⟩) := hF.2 (0, 43, Value.pointer (some ⟨w.heap.size, 1, none⟩)) (by simp) (hA.1)
          rw [eq0]
          have p1 := hF.1.cell 0 rfl 1 (.slice a1 xs.length c1) rfl
          go_simp
          clear p1
          refine hK.out (updS s 44 (Value.slice a1 xs.length c1)) _ _ ?_ ⟨hF.1, hF.2.put 1 44 (Value.slice a1 xs.length c1) rfl (by simp)⟩
          simp only [putL, putT, List.setIfInBounds_toArray, List.set_cons_zero, List.set_cons_succ]; rw [show updS s 44 (Value.slice a1 xs.length c1) 43 = Value.pointer (some ⟨w.heap.size, 1, none⟩) from eq0]; rfl
      · intro d s w9 hd hA hC hF K hK
        have hB9 := hF.1.bel
        simp only [putL, putT, List.setIfInBounds_toArray, List.set_cons_zero, List.set_cons_succ]
        clear hB9
        as_aux_lemma =>
          go_simp
          refine hK.out (updS s 45 (Value.pointer (some ⟨w.heap.size + 1, 4, none⟩))) _ _ ?_ ⟨hF.1, hF.2.put 2 45 (Value.pointer (some ⟨w.heap.size + 1, 4, none⟩)) rfl (by simp)⟩
          simp only [putL, putT, List.setIfInBounds_toArray, List.set_cons_zero, List.set_cons_succ]; rfl
      · intro d s w9 hd hA hC hF K hK
        have hB9 := hF.1.bel
        simp only [putL, putT, List.setIfInBounds_toArray, List.set_cons_zero, List.set_cons_succ]
        clear hB9
        as_aux_lemma =>
          have eq2 : s 45 = Value.pointer (some ⟨w.heap.size + 1, 4, none⟩) := hF.2 (2, 45, Value.pointer (some ⟨w.heap.size + 1, 4, none⟩)) (by simp) (hA.1)
          rw [eq2]
          have p4 := hF.1.cell 1 rfl 4 (.slice (some ⟨g2, 0, none⟩) ys.length cap) rfl
          go_simp
          clear p4
          refine hK.out (updS s 46 (Value.slice (some ⟨g2, 0, none⟩) ys.length cap)) _ _ ?_ ⟨hF.1, hF.2.put 3 46 (Value.slice (some ⟨g2, 0, none⟩) ys.length cap) rfl (by simp)⟩
          simp only [putL, putT, List.setIfInBounds_toArray, List.set_cons_zero, List.set_cons_succ]; rw [show updS s 46 (Value.slice (some ⟨g2, 0, none⟩) ys.length cap) 45 = Value.pointer (some ⟨w.heap.size + 1, 4, none⟩) from eq2]; rfl
      · intro d s w9 hd hA hC hF K hK
        have hB9 := hF.1.bel
        simp only [putL, putT, List.setIfInBounds_toArray, List.set_cons_zero, List.set_cons_succ]
        clear hB9
        as_aux_lemma =>
          have eq3 : s 46 = Value.slice (some ⟨g2, 0, none⟩) ys.length cap := hF.2 (3, 46, Value.slice (some ⟨g2, 0, none⟩) ys.length cap) (by simp) (hA.1)
          rw [eq3]
          go_simp
          refine hK.out (updS s 47 (Value.pointer (some ⟨g2, 7, none⟩))) _ _ ?_ ⟨hF.1, hF.2.put 4 47 (Value.pointer (some ⟨g2, 7, none⟩)) rfl (by simp)⟩
          simp only [putL, putT, List.setIfInBounds_toArray, List.set_cons_zero, List.set_cons_succ]; rw [show updS s 47 (Value.pointer (some ⟨g2, 7, none⟩)) 46 = Value.slice (some ⟨g2, 0, none⟩) ys.length cap from eq3]; rfl
      · intro d s w9 hd hA hC hF K hK
        have hB9 := hF.1.bel
        simp only [putL, putT, List.setIfInBounds_toArray, List.set_cons_zero, List.set_cons_succ]
        clear hB9
        as_aux_lemma =>
          have eq4 : s 47 = Value.pointer (some ⟨g2, 7, none⟩) := hF.2 (4, 47, Value.pointer (some ⟨g2, 7, none⟩)) (by simp) (hA.1)
          rw [eq4]
          obtain ⟨q0, q1, q2, q3, q4, q5, q6⟩ := (srow_two' (HH.out.2.1.later hF.1.bel) HY.out.1).2
          go_simp
          clear q0 q1 q2 q3 q4 q5 q6
          refine hK.out (updS s 48 (Value.agg #[.int .i64 u.k, .int .i64 u.t, .int .i64 u.a, .int .i64 u.b, .int .i64 u.c, .int .i64 u.d, .int .i64 u.e])) _ _ ?_ ⟨hF.1, hF.2.put 5 48 (Value.agg #[.int .i64 u.k, .int .i64 u.t, .int .i64 u.a, .int .i64 u.b, .int .i64 u.c, .int .i64 u.d, .int .i64 u.e]) rfl (by simp)⟩
          simp only [putL, putT, List.setIfInBounds_toArray, List.set_cons_zero, List.set_cons_succ]; rw [show updS s 48 (Value.agg #[.int .i64 u.k, .int .i64 u.t, .int .i64 u.a, .int .i64 u.b, .int .i64 u.c, .int .i64 u.d, .int .i64 u.e]) 47 = Value.pointer (some ⟨g2, 7, none⟩) from eq4]; rfl
      · intro d s w9 hd hA hC hF K hK
        have hB9 := hF.1.bel
        simp only [putL, putT, List.setIfInBounds_toArray, List.set_cons_zero, List.set_cons_succ]
        clear hB9
        as_aux_lemma =>
          go_simp
          refine hK.out (updS s 49 (Value.int .i64 now)) _ _ ?_ ⟨hF.1, hF.2.put 6 49 (Value.int .i64 now) rfl (by simp)⟩
          simp only [putL, putT, List.setIfInBounds_toArray, List.set_cons_zero, List.set_cons_succ]; rfl
      · intro d s w9 hd hA hC hF K hK
        have hB9 := hF.1.bel
        simp only [putL, putT, List.setIfInBounds_toArray, List.set_cons_zero, List.set_cons_succ]
        clear hB9
        as_aux_lemma =>
          have eq1 : s 44 = Value.slice a1 xs.length c1 := hF.2 (1, 44, Value.slice a1 xs.length c1) (by simp) (hA.1)
          have eq5 : s 48 = Value.agg #[.int .i64 u.k, .int .i64 u.t, .int .i64 u.a, .int .i64 u.b, .int .i64 u.c, .int .i64 u.d, .int .i64 u.e] := hF.2 (5, 48, Value.agg #[.int .i64 u.k, .int .i64 u.t, .int .i64 u.a, .int .i64 u.b, .int .i64 u.c, .int .i64 u.d, .int .i64 u.e]) (by simp) (hA.2.1)
          have eq6 : s 49 = Value.int .i64 now := hF.2 (6, 49, Value.int .i64 now) (by simp) (hA.2.2.1)
          rw [eq1, eq5, eq6]
          go_simp
          have hb8 := hF.1.bel.size
          refine (l11With_any a1 c1 xs u now _ (HH.out.1.later hF.1.bel) ⟨HL.out.1, HL.out.2.1⟩ hx HL.out.2.2 HC.out.2.2).mono ?_
          rintro r w8 ⟨⟨v, rfl, o8⟩, b9⟩
          rw [HC.out.2.1] at o8
          rw [HC.out.1]
          go_simp
          have d8 : d 8 = false := hC.off 8 7 (by kernel_rfl) hd
          have d9 : d 9 = false := hC.off 9 8 (by kernel_rfl) d8
          have d11 : d 11 = false := hC.off 11 9 (by kernel_rfl) d9
          refine hK.out (updS s 50 (Value.tuple #[v, .bool tb])) _ _ ?_ ⟨St.setR (St.grow b9 hF.1) 0 (selT 64) (TwS 7 8 9 11 50 42 51 9 (upd d 7) (updS s 50 (Value.tuple #[v, .bool tb])) tb w.heap.size L) (keep_TwS _ _ _ _ _ _ _ _ _ _ _ _ _) ⟨v, fun _ => ⟨rfl, OwnS.less o8 hb8⟩, (fun e => absurd (d8.symm.trans e) (by simp)), (fun e => absurd (d9.symm.trans e) (by simp)), (fun e => absurd (d11.symm.trans e) (by simp))⟩, hF.2.skipS 7 50 _ rfl⟩
          simp only [putL, putT, List.setIfInBounds_toArray, List.set_cons_zero, List.set_cons_succ]
          rw [← eq1, ← eq5, ← eq6]; rfl
      · intro d s w9 hd hA hC hF K hK
        have hB9 := hF.1.bel
        simp only [putL, putT, List.setIfInBounds_toArray, List.set_cons_zero, List.set_cons_succ]
        clear hB9
        as_aux_lemma =>
          obtain ⟨v, t1, t2, t3, t4⟩ := hF.1.of 0 rfl
          have e := (t1 hA.1).1
          rw [e]
          go_simp
          refine hK.out (updS s 42 (Value.tuple #[v, .bool tb])) _ _ ?_ ⟨St.setR hF.1 0 (selT 64) (TwS 7 8 9 11 50 42 51 9 (upd d 8) (updS s 42 (Value.tuple #[v, .bool tb])) tb w.heap.size L) (keep_TwS 7 8 9 11 50 42 51 9 (upd d 8) (updS s 42 (Value.tuple #[v, .bool tb])) tb w.heap.size L) ⟨v, t1, fun _ => rfl, t3, t4⟩, hF.2.skipS 8 42 _ rfl⟩
          simp only [putL, putT, List.setIfInBounds_toArray, List.set_cons_zero, List.set_cons_succ]
          rw [← e]; rfl
      · intro d s w9 hd hA hC hF K hK
        have hB9 := hF.1.bel
        simp only [putL, putT, List.setIfInBounds_toArray, List.set_cons_zero, List.set_cons_succ]
        clear hB9
        as_aux_lemma =>
          obtain ⟨v, t1, t2, t3, t4⟩ := hF.1.of 0 rfl
          have e := t2 hA.1
          rw [e]
          go_simp
          refine hK.out (updS s 51 v) _ _ ?_ ⟨St.setR hF.1 0 (selT 64) (TwS 7 8 9 11 50 42 51 9 (upd d 9) (updS s 51 v) tb w.heap.size L) (keep_TwS 7 8 9 11 50 42 51 9 (upd d 9) (updS s 51 v) tb w.heap.size L) ⟨v, t1, t2, fun _ => rfl, t4⟩, hF.2.skipS 9 51 _ rfl⟩
          simp only [putL, putT, List.setIfInBounds_toArray, List.set_cons_zero, List.set_cons_succ]
          rw [← e]; rfl
      · intro d s w9 hd hA hC hF K hK
        have hB9 := hF.1.bel
        simp only [putL, putT, List.setIfInBounds_toArray, List.set_cons_zero, List.set_cons_succ]
        clear hB9
        as_aux_lemma =>
          obtain ⟨v, t1, t2, t3, t4⟩ := hF.1.of 0 rfl
          have e := t2 hA.1
          rw [e]
          go_simp
          refine hK.out (updS s 52 (.bool tb)) _ _ ?_ ⟨hF.1, hF.2.put 10 52 (.bool tb) rfl (by simp)⟩
          simp only [putL, putT, List.setIfInBounds_toArray, List.set_cons_zero, List.set_cons_succ]
          rw [← e]; rfl
      · intro d s w9 hd hA hC hF K hK
        have hB9 := hF.1.bel
        simp only [putL, putT, List.setIfInBounds_toArray, List.set_cons_zero, List.set_cons_succ]
        clear hB9
        as_aux_lemma =>
          obtain ⟨v, t1, t2, t3, t4⟩ := hF.1.of 0 rfl
          have e := t3 hA.1
          rw [e]
          go_simp
          refine hK.out (updS s 9 v) _ _ ?_ ⟨St.setR hF.1 0 (selT 64) (TwS 7 8 9 11 50 42 51 9 (upd d 11) (updS s 9 v) tb w.heap.size L) (keep_TwS 7 8 9 11 50 42 51 9 (upd d 11) (updS s 9 v) tb w.heap.size L) ⟨v, t1, t2, t3, fun _ => rfl⟩, hF.2.skipS 11 9 _ rfl⟩
          simp only [putL, putT, List.setIfInBounds_toArray, List.set_cons_zero, List.set_cons_succ]
          rw [← e]; rfl
      · intro d s w9 hd hA hC hF K hK
        have hB9 := hF.1.bel
        simp only [putL, putT, List.setIfInBounds_toArray, List.set_cons_zero, List.set_cons_succ]
        clear hB9
        as_aux_lemma =>
          have eq10 : s 52 = .bool tb := hF.2 (10, 52, .bool tb) (by simp) (hA.1)
          rw [eq10]
          go_simp
          refine hK.out (updS s 10 (.bool tb)) _ _ ?_ ⟨hF.1, hF.2.put 12 10 (.bool tb) rfl (by simp)⟩
          simp only [putL, putT, List.setIfInBounds_toArray, List.set_cons_zero, List.set_cons_succ]; rw [show updS s 10 (.bool tb) 52 = .bool tb from eq10]; rfl
    · intro d s w5 hA hF
      have hS := hF.1
      have eq12 : s 10 = .bool tb := hF.2 (12, 10, .bool tb) (by simp) (hA.2.2.2.2.2.2.2.2.2.2.2.2.1)
      obtain ⟨v, t1, t2, t3, t4⟩ := hS.of 0 rfl
      have eB : s 9 = v := t4 (hA.2.2.2.2.2.2.2.2.2.2.2.1)
      have oC := (t1 (hA.2.2.2.2.2.2.2.1)).2
      have hS := St.setR hS 0 (selT 64) (fun W => OwnS W w.heap.size v L) (keep_owns _ _ _) oC
      clear t1 t2 t3 t4
      have HS3 : Hid (St w.heap.size w [⟨w.heap.size, 31, #[.int .i64 n, .slice a1 xs.length c1]⟩, ⟨w.heap.size + 1, 33, #[.int .i64 3, .int .i64 cl, .int .i64 sv, .int .i64 nc, .slice (some ⟨g2, 0, none⟩) ys.length cap]⟩, ⟨w.heap.size + 1 + 1, 31, #[.int .i64 0, .slice none 0 0]⟩, ⟨w.heap.size + 1 + 1 + 1, 33, #[.int .i64 0, .int .i64 0, .int .i64 0, .int .i64 0, .slice none 0 0]⟩] [⟨(selT 64), fun W => OwnS W w.heap.size v L⟩] w5) := hS
      clear hS hF hA HS2
      simp only [putL, putT, List.setIfInBounds_toArray, List.set_cons_zero, List.set_cons_succ]
      rw [eq12]
      clear eq12
      rw [eB]
      clear eB
      obtain ⟨av, cv, rfl, _⟩ := oC.row
      clear oC
      have lt0 : w.heap.size < w5.heap.size := (HS3.out.lt 0 rfl).2
      have lt1 : w.heap.size + 1 < w5.heap.size := (HS3.out.lt 1 rfl).2
      have lt2 : w.heap.size + 1 + 1 < w5.heap.size := (HS3.out.lt 2 rfl).2
      have lt3 : w.heap.size + 1 + 1 + 1 < w5.heap.size := (HS3.out.lt 3 rfl).2
      have p0 := HS3.out.cell 0 rfl 0 (.int .i64 n) rfl
      have pf0 := HS3.out.fro 0 rfl 0
      have p1 := HS3.out.cell 0 rfl 1 (.slice a1 xs.length c1) rfl
      have pf1 := HS3.out.fro 0 rfl 1
      cases tb
      · skip
        have EA : Hid (askK n xs 3 cl sv nc ys now = keepK n L) := Hid.mk' (by rw [EG2.out]; simp)
        have z0 := HS3.out.cell 2 rfl 0 (.int .i64 0) rfl
        have zf0 := HS3.out.fro 2 rfl 0
        have z1 := HS3.out.cell 2 rfl 1 (.slice none 0 0) rfl
        have zf1 := HS3.out.fro 2 rfl 1
        have y0 := HS3.out.cell 3 rfl 0 (.int .i64 0) rfl
        have yf0 := HS3.out.fro 3 rfl 0
        have y1 := HS3.out.cell 3 rfl 1 (.int .i64 0) rfl
        have yf1 := HS3.out.fro 3 rfl 1
        have y2 := HS3.out.cell 3 rfl 2 (.int .i64 0) rfl
        have yf2 := HS3.out.fro 3 rfl 2
        have y3 := HS3.out.cell 3 rfl 3 (.int .i64 0) rfl
        have yf3 := HS3.out.fro 3 rfl 3
        have y4 := HS3.out.cell 3 rfl 4 (.slice none 0 0) rfl
        have yf4 := HS3.out.fro 3 rfl 4
        go_wp2_with fail
        clear lt0 lt1 lt2 lt3 p0 pf0 p1 pf1 z0 zf0 z1 zf1 y0 yf0 y1 yf1 y2 yf2 y3 yf3 y4 yf4
        obtain ⟨V, hX9, HS4⟩ : ∃ X, X = ((((((((w5.setCell ⟨w.heap.size, 1, none⟩ (.slice av L.length cv)).setCell ⟨w.heap.size + 1 + 1, 0, none⟩ (.int .i64 n)).setCell ⟨w.heap.size + 1 + 1, 1, none⟩ (.slice av L.length cv)).setCell ⟨w.heap.size + 1 + 1 + 1, 0, none⟩ (.int .i64 0)).setCell ⟨w.heap.size + 1 + 1 + 1, 1, none⟩ (.int .i64 0)).setCell ⟨w.heap.size + 1 + 1 + 1, 2, none⟩ (.int .i64 0)).setCell ⟨w.heap.size + 1 + 1 + 1, 3, none⟩ (.int .i64 0)).setCell ⟨w.heap.size + 1 + 1 + 1, 4, none⟩ (.slice none 0 0)) ∧ Hid (St w.heap.size w [⟨w.heap.size, 31, #[.int .i64 n, .slice av L.length cv]⟩, ⟨w.heap.size + 1, 33, #[.int .i64 3, .int .i64 cl, .int .i64 sv, .int .i64 nc, .slice (some ⟨g2, 0, none⟩) ys.length cap]⟩, ⟨w.heap.size + 1 + 1, 31, #[.int .i64 n, .slice av L.length cv]⟩, ⟨w.heap.size + 1 + 1 + 1, 33, #[.int .i64 0, .int .i64 0, .int .i64 0, .int .i64 0, .slice none 0 0]⟩] [⟨(selT 64), fun W => OwnS W w.heap.size (.slice av L.length cv) L⟩] X) := ⟨_, rfl, Hid.mk' (by
          have h := (St.put5 3 (St.put2 2 (St.set 0 (q := 1) (v := .slice av L.length cv) HS3.out rfl rfl) rfl rfl (.int .i64 n) (.slice av L.length cv)) rfl rfl (.int .i64 0) (.int .i64 0) (.int .i64 0) (.int .i64 0) (.slice none 0 0))
          try simp only [World.size_alloc] at h
          try simp only [World.size_setCell] at h
          exact h)⟩
        rw [← hX9]
        clear hX9
        clear HS3
        have y0 := HS4.out.cell 2 rfl 0 (.int .i64 n) rfl
        have y1 := HS4.out.cell 2 rfl 1 (.slice av L.length cv) rfl
        have z0 := HS4.out.cell 3 rfl 0 (.int .i64 0) rfl
        have z1 := HS4.out.cell 3 rfl 1 (.int .i64 0) rfl
        have z2 := HS4.out.cell 3 rfl 2 (.int .i64 0) rfl
        have z3 := HS4.out.cell 3 rfl 3 (.int .i64 0) rfl
        have z4 := HS4.out.cell 3 rfl 4 (.slice none 0 0) rfl
        refine bodyPost_ret (v := .tuple #[.agg #[.int .i64 n, .slice av L.length cv], .agg #[.int .i64 0, .int .i64 0, .int .i64 0, .int .i64 0, .slice none 0 0], .bool false]) (by simp [results, Tryd.results27, go_sem, *]) rfl ?_
        rw [EA.out]
        exact ⟨⟨av, cv, none, 0, w.heap.size, V.heap.size, rfl, HS4.out.of 0 rfl, OwnS.nil _ _, hB, Nat.le_trans hB (HS4.out.bel).size, fun k hk => (OwnS.low (HS4.out.of 0 rfl) k hk).2⟩, HS4.out.bel⟩
      have EA : Hid (askK n xs 3 cl sv nc ys now = ⟨n + 1, L, 4, t.a, 0, 0, [tick t.a sv n now t.e, part t.c sv n nc t.e], true⟩) := Hid.mk' (by rw [EG2.out]; simp)
      have hw1 : wrap64 (n + 1) = n + 1 := by unfold wrap64; omega
      obtain ⟨r0, r1, r2, r3, r4, r5, r6⟩ := (srow_two' (HH.out.2.1.later HS3.out.bel) HY.out.1).1
      simp only [Nat.zero_add] at r0 r1 r2 r3 r4 r5 r6
      have hg2 := srow_lt HH.out.2.1 hy0
      have hg3 : ¬ w.heap.size = g2 := by omega
      have hg4 : ¬ g2 = w.heap.size := by omega
      have la1 : w.heap.size < w5.heap.size + 1 := by omega
      have la2 : w.heap.size < w5.heap.size + 1 + 1 := by omega
      have la3 : w.heap.size + 1 < w5.heap.size + 1 + 1 := by omega
      have la4 : ¬ w.heap.size = w5.heap.size + 1 + 1 := by omega
      have la5 : ¬ w.heap.size = w5.heap.size + 1 := by omega
      have la6 : ¬ w.heap.size = w5.heap.size := by omega
      have m0 := HS3.out.cell 1 rfl 0 (.int .i64 3) rfl
      have m1 := HS3.out.cell 1 rfl 1 (.int .i64 cl) rfl
      have m2 := HS3.out.cell 1 rfl 2 (.int .i64 sv) rfl
      have m3 := HS3.out.cell 1 rfl 3 (.int .i64 nc) rfl
      have m4 := HS3.out.cell 1 rfl 4 (.slice (some ⟨g2, 0, none⟩) ys.length cap) rfl
      go_wp2_with fail
      clear lt0 lt1 lt2 lt3 p0 pf0 p1 pf1 m0 m1 m2 m3 m4
      clear r0 r1 r2 r3 r4 r5 r6 hg2 hg3 hg4 la1 la2 la3 la4 la5 la6
      obtain ⟨w6, hX9, HS4⟩ : ∃ X, X = (((((w5.setCell ⟨w.heap.size, 1, none⟩ (.slice av L.length cv)).setCell ⟨w.heap.size, 0, none⟩ (.int .i64 (n + 1))).alloc (.cells #[.int .i64 t.k, .int .i64 t.t, .int .i64 t.a, .int .i64 t.b, .int .i64 t.c, .int .i64 t.d, .int .i64 t.e] 64)).alloc (.cells #[.int .i64 sv, .int .i64 1, .int .i64 t.a, .int .i64 sv, .int .i64 n, .int .i64 now, .int .i64 t.e] 64)).alloc (.cells #[.int .i64 t.c, .int .i64 2, .int .i64 sv, .int .i64 n, .int .i64 nc, .int .i64 t.e, .int .i64 0] 64)) ∧ Hid (St w.heap.size w [⟨w.heap.size, 31, #[.int .i64 (n + 1), .slice av L.length cv]⟩, ⟨w.heap.size + 1, 33, #[.int .i64 3, .int .i64 cl, .int .i64 sv, .int .i64 nc, .slice (some ⟨g2, 0, none⟩) ys.length cap]⟩, ⟨w.heap.size + 1 + 1, 31, #[.int .i64 0, .slice none 0 0]⟩, ⟨w.heap.size + 1 + 1 + 1, 33, #[.int .i64 0, .int .i64 0, .int .i64 0, .int .i64 0, .slice none 0 0]⟩, ⟨w5.heap.size, 64, #[.int .i64 t.k, .int .i64 t.t, .int .i64 t.a, .int .i64 t.b, .int .i64 t.c, .int .i64 t.d, .int .i64 t.e]⟩, ⟨w5.heap.size + 1, 64, #[.int .i64 sv, .int .i64 1, .int .i64 t.a, .int .i64 sv, .int .i64 n, .int .i64 now, .int .i64 t.e]⟩, ⟨w5.heap.size + 1 + 1, 64, #[.int .i64 t.c, .int .i64 2, .int .i64 sv, .int .i64 n, .int .i64 nc, .int .i64 t.e, .int .i64 0]⟩] [⟨(selT 64), fun W => OwnS W w.heap.size (.slice av L.length cv) L⟩] X) := ⟨_, rfl, Hid.mk' (by
        have h := (St.alloc #[.int .i64 t.c, .int .i64 2, .int .i64 sv, .int .i64 n, .int .i64 nc, .int .i64 t.e, .int .i64 0] 64 (St.alloc #[.int .i64 sv, .int .i64 1, .int .i64 t.a, .int .i64 sv, .int .i64 n, .int .i64 now, .int .i64 t.e] 64 (St.alloc #[.int .i64 t.k, .int .i64 t.t, .int .i64 t.a, .int .i64 t.b, .int .i64 t.c, .int .i64 t.d, .int .i64 t.e] 64 (St.set 0 (q := 0) (v := .int .i64 (n + 1)) (St.set 0 (q := 1) (v := .slice av L.length cv) HS3.out rfl rfl) rfl rfl))))
        try simp only [World.size_alloc] at h
        try simp only [World.size_setCell] at h
        exact h)⟩
      rw [← hX9]
      clear hX9
      clear HS3
      have hz6 : w.heap.size ≤ w6.heap.size := (HS4.out.bel).size
      have hlo : ∀ k, (Value.slice av L.length cv).ownBlock = some k → k < w6.heap.size := fun k hk => (OwnS.low (HS4.out.of 0 rfl) k hk).2
      have HZ : Hid (w.heap.size ≤ w6.heap.size ∧ ∀ k, (Value.slice av L.length cv).ownBlock = some k → k < w6.heap.size) := ⟨hz6, hlo⟩
      clear hz6 hlo
      refine wp_region_walk [8, 90, 91, 92, 93, 94, 95, 96] (fun d s W => St w.heap.size w [⟨w.heap.size, 31, #[.int .i64 (n + 1), .slice av L.length cv]⟩, ⟨w.heap.size + 1, 33, #[.int .i64 3, .int .i64 cl, .int .i64 sv, .int .i64 nc, .slice (some ⟨g2, 0, none⟩) ys.length cap]⟩, ⟨w.heap.size + 1 + 1, 31, bif d 7 then #[.int .i64 (n + 1), .slice av L.length cv] else #[.int .i64 0, .slice none 0 0]⟩, ⟨w.heap.size + 1 + 1 + 1, 33, bif d 8 then #[.int .i64 4, .int .i64 t.a, .int .i64 0, .int .i64 0, .slice (some ⟨w6.heap.size, 0, none⟩) 2 2] else #[.int .i64 0, .int .i64 0, .int .i64 0, .int .i64 0, .slice none 0 0]⟩, ⟨w5.heap.size, 64, #[.int .i64 t.k, .int .i64 t.t, .int .i64 t.a, .int .i64 t.b, .int .i64 t.c, .int .i64 t.d, .int .i64 t.e]⟩, ⟨w5.heap.size + 1, 64, #[.int .i64 sv, .int .i64 1, .int .i64 t.a, .int .i64 sv, .int .i64 n, .int .i64 now, .int .i64 t.e]⟩, ⟨w5.heap.size + 1 + 1, 64, #[.int .i64 t.c, .int .i64 2, .int .i64 sv, .int .i64 n, .int .i64 nc, .int .i64 t.e, .int .i64 0]⟩] [⟨(selT 64), fun W => OwnS W w.heap.size (.slice av L.length cv) L⟩, ⟨(selT 64), fun W => d 5 = true → OwnS W w6.heap.size (.slice (some ⟨w6.heap.size, 0, none⟩) 2 2) [tick t.a sv n now t.e, part t.c sv n nc t.e]⟩] W ∧ Looks [(0, 90, Value.agg #[.int .i64 (n + 1), .slice av L.length cv]), (1, 91, Value.pointer (some ⟨w5.heap.size, 2, none⟩)), (2, 92, Value.int .i64 t.a), (3, 93, Value.agg #[.int .i64 sv, .int .i64 1, .int .i64 t.a, .int .i64 sv, .int .i64 n, .int .i64 now, .int .i64 t.e]), (4, 94, Value.agg #[.int .i64 t.c, .int .i64 2, .int .i64 sv, .int .i64 n, .int .i64 nc, .int .i64 t.e, .int .i64 0]), (5, 95, Value.slice (some ⟨w6.heap.size, 0, none⟩) 2 2), (6, 96, Value.agg #[.int .i64 4, .int .i64 t.a, .int .i64 0, .int .i64 0, .slice (some ⟨w6.heap.size, 0, none⟩) 2 2]), (9, 8, .bool true)] d s ∧ (d 5 = false → W.heap.size = w6.heap.size)) [0, 1, 2, 3, 4, 5, 6, 7, 8, 9] (by kernel_rfl) (by kernel_rfl) (by kernel_rfl) ?_ ?_ ?_
      · intro s
        exact ⟨St.add (selT 64) (fun W => (fun _ : Nat => false) 5 = true → OwnS W w6.heap.size (.slice (some ⟨w6.heap.size, 0, none⟩) 2 2) [tick t.a sv n now t.e, part t.c sv n nc t.e]) (keep_imp _ (keep_owns _ _ _)) (fun e => by cases e) HS4.out.drew, Looks.none _ _, fun _ => rfl⟩
      · refine StepsR.cons (k := 0) [] (by kernel_rfl) ?_ (StepsR.cons (k := 1) [] (by kernel_rfl) ?_ (StepsR.cons (k := 2) [1] (by kernel_rfl) ?_ (StepsR.cons (k := 3) [] (by kernel_rfl) ?_ (StepsR.cons (k := 4) [] (by kernel_rfl) ?_ (StepsR.cons (k := 5) [3, 4] (by kernel_rfl) ?_ (StepsR.cons (k := 6) [2, 5] (by kernel_rfl) ?_ (StepsR.cons (k := 7) [0] (by kernel_rfl) ?_ (StepsR.cons (k := 8) [6] (by kernel_rfl) ?_ (StepsR.cons (k := 9) [] (by kernel_rfl) ?_ (StepsR.nil))))))))))
        · intro d s w9 hd hA hC hF K hK
          have hB9 := hF.1.bel
          simp only [putL, putT, List.setIfInBounds_toArray, List.set_cons_zero, List.set_cons_succ]
          clear hB9
          as_aux_lemma =>
            have p0 := hF.1.cell 0 rfl 0 (.int .i64 (n + 1)) rfl
            have p1 := hF.1.cell 0 rfl 1 (.slice av L.length cv) rfl
            go_simp
            clear p0 p1
            refine hK.out (updS s 90 (Value.agg #[.int .i64 (n + 1), .slice av L.length cv])) _ _ ?_ ⟨hF.1, hF.2.1.put 0 90 (Value.agg #[.int .i64 (n + 1), .slice av L.length cv]) rfl (by simp), hF.2.2⟩
            simp only [putL, putT, List.setIfInBounds_toArray, List.set_cons_zero, List.set_cons_succ]; rfl
        · intro d s w9 hd hA hC hF K hK
          have hB9 := hF.1.bel
          simp only [putL, putT, List.setIfInBounds_toArray, List.set_cons_zero, List.set_cons_succ]
          clear hB9
          as_aux_lemma =>
            go_simp
            refine hK.out (updS s 91 (Value.pointer (some ⟨w5.heap.size, 2, none⟩))) _ _ ?_ ⟨hF.1, hF.2.1.put 1 91 (Value.pointer (some ⟨w5.heap.size, 2, none⟩)) rfl (by simp), hF.2.2⟩
            simp only [putL, putT, List.setIfInBounds_toArray, List.set_cons_zero, List.set_cons_succ]; rfl
        · intro d s w9 hd hA hC hF K hK
          have hB9 := hF.1.bel
          simp only [putL, putT, List.setIfInBounds_toArray, List.set_cons_zero, List.set_cons_succ]
          clear hB9
          as_aux_lemma =>
            have eq1 : s 91 = Value.pointer (some ⟨w5.heap.size, 2, none⟩) := hF.2.1 (1, 91, Value.pointer (some ⟨w5.heap.size, 2, none⟩)) (by simp) (hA.1)
            rw [eq1]
            have p2 := hF.1.cell 4 rfl 2 (.int .i64 t.a) rfl
            go_simp
            clear p2
            refine hK.out (updS s 92 (Value.int .i64 t.a)) _ _ ?_ ⟨hF.1, hF.2.1.put 2 92 (Value.int .i64 t.a) rfl (by simp), hF.2.2⟩
            simp only [putL, putT, List.setIfInBounds_toArray, List.set_cons_zero, List.set_cons_succ]; rw [show updS s 92 (Value.int .i64 t.a) 91 = Value.pointer (some ⟨w5.heap.size, 2, none⟩) from eq1]; rfl
        · intro d s w9 hd hA hC hF K hK
          have hB9 := hF.1.bel
          simp only [putL, putT, List.setIfInBounds_toArray, List.set_cons_zero, List.set_cons_succ]
          clear hB9
          as_aux_lemma =>
            have p0 := hF.1.cell 5 rfl 0 (.int .i64 sv) rfl
            have p1 := hF.1.cell 5 rfl 1 (.int .i64 1) rfl
            have p2 := hF.1.cell 5 rfl 2 (.int .i64 t.a) rfl
            have p3 := hF.1.cell 5 rfl 3 (.int .i64 sv) rfl
            have p4 := hF.1.cell 5 rfl 4 (.int .i64 n) rfl
            have p5 := hF.1.cell 5 rfl 5 (.int .i64 now) rfl
            have p6 := hF.1.cell 5 rfl 6 (.int .i64 t.e) rfl
            go_simp
            clear p0 p1 p2 p3 p4 p5 p6
            refine hK.out (updS s 93 (Value.agg #[.int .i64 sv, .int .i64 1, .int .i64 t.a, .int .i64 sv, .int .i64 n, .int .i64 now, .int .i64 t.e])) _ _ ?_ ⟨hF.1, hF.2.1.put 3 93 (Value.agg #[.int .i64 sv, .int .i64 1, .int .i64 t.a, .int .i64 sv, .int .i64 n, .int .i64 now, .int .i64 t.e]) rfl (by simp), hF.2.2⟩
            simp only [putL, putT, List.setIfInBounds_toArray, List.set_cons_zero, List.set_cons_succ]; rfl
        · intro d s w9 hd hA hC hF K hK
          have hB9 := hF.1.bel
          simp only [putL, putT, List.setIfInBounds_toArray, List.set_cons_zero, List.set_cons_succ]
          clear hB9
          as_aux_lemma =>
            have p0 := hF.1.cell 6 rfl 0 (.int .i64 t.c) rfl
            have p1 := hF.1.cell 6 rfl 1 (.int .i64 2) rfl
            have p2 := hF.1.cell 6 rfl 2 (.int .i64 sv) rfl
            have p3 := hF.1.cell 6 rfl 3 (.int .i64 n) rfl
            have p4 := hF.1.cell 6 rfl 4 (.int .i64 nc) rfl
            have p5 := hF.1.cell 6 rfl 5 (.int .i64 t.e) rfl
            have p6 := hF.1.cell 6 rfl 6 (.int .i64 0) rfl
            go_simp
            clear p0 p1 p2 p3 p4 p5 p6
            refine hK.out (updS s 94 (Value.agg #[.int .i64 t.c, .int .i64 2, .int .i64 sv, .int .i64 n, .int .i64 nc, .int .i64 t.e, .int .i64 0])) _ _ ?_ ⟨hF.1, hF.2.1.put 4 94 (Value.agg #[.int .i64 t.c, .int .i64 2, .int .i64 sv, .int .i64 n, .int .i64 nc, .int .i64 t.e, .int .i64 0]) rfl (by simp), hF.2.2⟩
            simp only [putL, putT, List.setIfInBounds_toArray, List.set_cons_zero, List.set_cons_succ]; rfl
        · intro d s w9 hd hA hC hF K hK
          have hB9 := hF.1.bel
          simp only [putL, putT, List.setIfInBounds_toArray, List.set_cons_zero, List.set_cons_succ]
          clear hB9
          as_aux_lemma =>
            have eq3 : s 93 = Value.agg #[.int .i64 sv, .int .i64 1, .int .i64 t.a, .int .i64 sv, .int .i64 n, .int .i64 now, .int .i64 t.e] := hF.2.1 (3, 93, Value.agg #[.int .i64 sv, .int .i64 1, .int .i64 t.a, .int .i64 sv, .int .i64 n, .int .i64 now, .int .i64 t.e]) (by simp) (hA.1)
            have eq4 : s 94 = Value.agg #[.int .i64 t.c, .int .i64 2, .int .i64 sv, .int .i64 n, .int .i64 nc, .int .i64 t.e, .int .i64 0] := hF.2.1 (4, 94, Value.agg #[.int .i64 t.c, .int .i64 2, .int .i64 sv, .int .i64 n, .int .i64 nc, .int .i64 t.e, .int .i64 0]) (by simp) (hA.2.1)
            rw [eq3, eq4]
            have hz9 := hF.2.2 hd
            have hO2 := own_two w9 (B := w6.heap.size) (by omega) (tick t.a sv n now t.e) (part t.c sv n nc t.e)
            simp only [Region.wanted, if_true]
            refine wp_two (.tmp 93) (.tmp 94) rfl rfl rfl rfl ?_
            rw [hz9] at hO2 ⊢
            refine hK.out (updS s 95 (Value.slice (some ⟨w6.heap.size, 0, none⟩) 2 2)) _ _ ?_ ⟨St.setR (St.lay _ hF.1) 1 (selT 64) (fun W => (upd d 5) 5 = true → OwnS W w6.heap.size (.slice (some ⟨w6.heap.size, 0, none⟩) 2 2) [tick t.a sv n now t.e, part t.c sv n nc t.e]) (keep_imp _ (keep_owns _ _ _)) (fun _ => hO2), hF.2.1.put 5 95 (Value.slice (some ⟨w6.heap.size, 0, none⟩) 2 2) rfl (by simp), (fun e => by cases e)⟩
            simp only [putL, putT, List.setIfInBounds_toArray, List.set_cons_zero, List.set_cons_succ]
            rw [← eq3, ← eq4]; rfl
        · intro d s w9 hd hA hC hF K hK
          have hB9 := hF.1.bel
          simp only [putL, putT, List.setIfInBounds_toArray, List.set_cons_zero, List.set_cons_succ]
          clear hB9
          as_aux_lemma =>
            have eq2 : s 92 = Value.int .i64 t.a := hF.2.1 (2, 92, Value.int .i64 t.a) (by simp) (hA.1)
            have eq5 : s 95 = Value.slice (some ⟨w6.heap.size, 0, none⟩) 2 2 := hF.2.1 (5, 95, Value.slice (some ⟨w6.heap.size, 0, none⟩) 2 2) (by simp) (hA.2.1)
            rw [eq2, eq5]
            simp only [Region.wanted, if_true]
            refine wp_built 33 _ _ _ rfl (by simp only [List.map_toArray, List.map_cons, List.map_nil]; rfl) (bldMsgG w9 t.a w6.heap.size) ?_
            refine hK.out (updS s 96 (Value.agg #[.int .i64 4, .int .i64 t.a, .int .i64 0, .int .i64 0, .slice (some ⟨w6.heap.size, 0, none⟩) 2 2])) _ _ ?_ ⟨hF.1, hF.2.1.put 6 96 (Value.agg #[.int .i64 4, .int .i64 t.a, .int .i64 0, .int .i64 0, .slice (some ⟨w6.heap.size, 0, none⟩) 2 2]) rfl (by simp), hF.2.2⟩
            simp only [putL, putT, List.setIfInBounds_toArray, List.set_cons_zero, List.set_cons_succ]; rw [show updS s 96 (Value.agg #[.int .i64 4, .int .i64 t.a, .int .i64 0, .int .i64 0, .slice (some ⟨w6.heap.size, 0, none⟩) 2 2]) 92 = Value.int .i64 t.a from eq2, show updS s 96 (Value.agg #[.int .i64 4, .int .i64 t.a, .int .i64 0, .int .i64 0, .slice (some ⟨w6.heap.size, 0, none⟩) 2 2]) 95 = Value.slice (some ⟨w6.heap.size, 0, none⟩) 2 2 from eq5]; rfl
        · intro d s w9 hd hA hC hF K hK
          have hB9 := hF.1.bel
          simp only [putL, putT, List.setIfInBounds_toArray, List.set_cons_zero, List.set_cons_succ]
          clear hB9
          as_aux_lemma =>
            have eq0 : s 90 = Value.agg #[.int .i64 (n + 1), .slice av L.length cv] := hF.2.1 (0, 90, Value.agg #[.int .i64 (n + 1), .slice av L.length cv]) (by simp) (hA.1)
            rw [eq0]
            have hS := hF.1
            rw [hd] at hS
            simp only [cond_false] at hS
            have p0 := hS.cell 2 rfl 0 (.int .i64 0) rfl
            have pf0 := hS.fro 2 rfl 0
            have p1 := hS.cell 2 rfl 1 (.slice none 0 0) rfl
            have pf1 := hS.fro 2 rfl 1
            go_simp
            clear p0 pf0 p1 pf1
            refine hK.out s _ _ ?_ ⟨St.put2 2 hS rfl rfl (.int .i64 (n + 1)) (.slice av L.length cv), hF.2.1.skip 7 rfl, (fun e => by simp only [World.size_setCell]; exact hF.2.2 e)⟩
            simp only [putL, putT, List.setIfInBounds_toArray, List.set_cons_zero, List.set_cons_succ]; rw [eq0] <;> rfl
        · intro d s w9 hd hA hC hF K hK
          have hB9 := hF.1.bel
          simp only [putL, putT, List.setIfInBounds_toArray, List.set_cons_zero, List.set_cons_succ]
          clear hB9
          as_aux_lemma =>
            have eq6 : s 96 = Value.agg #[.int .i64 4, .int .i64 t.a, .int .i64 0, .int .i64 0, .slice (some ⟨w6.heap.size, 0, none⟩) 2 2] := hF.2.1 (6, 96, Value.agg #[.int .i64 4, .int .i64 t.a, .int .i64 0, .int .i64 0, .slice (some ⟨w6.heap.size, 0, none⟩) 2 2]) (by simp) (hA.1)
            rw [eq6]
            have hS := hF.1
            rw [hd] at hS
            simp only [cond_false] at hS
            have p0 := hS.cell 3 rfl 0 (.int .i64 0) rfl
            have pf0 := hS.fro 3 rfl 0
            have p1 := hS.cell 3 rfl 1 (.int .i64 0) rfl
            have pf1 := hS.fro 3 rfl 1
            have p2 := hS.cell 3 rfl 2 (.int .i64 0) rfl
            have pf2 := hS.fro 3 rfl 2
            have p3 := hS.cell 3 rfl 3 (.int .i64 0) rfl
            have pf3 := hS.fro 3 rfl 3
            have p4 := hS.cell 3 rfl 4 (.slice none 0 0) rfl
            have pf4 := hS.fro 3 rfl 4
            go_simp
            clear p0 pf0 p1 pf1 p2 pf2 p3 pf3 p4 pf4
            refine hK.out s _ _ ?_ ⟨St.put5 3 hS rfl rfl (.int .i64 4) (.int .i64 t.a) (.int .i64 0) (.int .i64 0) (.slice (some ⟨w6.heap.size, 0, none⟩) 2 2), hF.2.1.skip 8 rfl, (fun e => by simp only [World.size_setCell]; exact hF.2.2 e)⟩
            simp only [putL, putT, List.setIfInBounds_toArray, List.set_cons_zero, List.set_cons_succ]; rw [eq6] <;> rfl
        · intro d s w9 hd hA hC hF K hK
          have hB9 := hF.1.bel
          simp only [putL, putT, List.setIfInBounds_toArray, List.set_cons_zero, List.set_cons_succ]
          clear hB9
          as_aux_lemma =>
            go_simp
            refine hK.out (updS s 8 (.bool true)) _ _ ?_ ⟨hF.1, hF.2.1.put 9 8 (.bool true) rfl (by simp), hF.2.2⟩
            simp only [putL, putT, List.setIfInBounds_toArray, List.set_cons_zero, List.set_cons_succ]; rfl
      · intro d s w7 hA hF
        have hS := hF.1
        rw [hA.2.2.2.2.2.2.2.1, hA.2.2.2.2.2.2.2.2.1] at hS
        simp only [cond_true] at hS
        have eq9 : s 8 = .bool true := hF.2.1 (9, 8, .bool true) (by simp) (hA.2.2.2.2.2.2.2.2.2.1)
        have oW := hS.of 1 rfl (hA.2.2.2.2.2.1)
        have hS := St.setR hS 1 (selT 64) (fun W => OwnS W w6.heap.size (.slice (some ⟨w6.heap.size, 0, none⟩) 2 2) [tick t.a sv n now t.e, part t.c sv n nc t.e]) (keep_owns _ _ _) oW
        clear oW
        have HS5 : Hid (St w.heap.size w [⟨w.heap.size, 31, #[.int .i64 (n + 1), .slice av L.length cv]⟩, ⟨w.heap.size + 1, 33, #[.int .i64 3, .int .i64 cl, .int .i64 sv, .int .i64 nc, .slice (some ⟨g2, 0, none⟩) ys.length cap]⟩, ⟨w.heap.size + 1 + 1, 31, #[.int .i64 (n + 1), .slice av L.length cv]⟩, ⟨w.heap.size + 1 + 1 + 1, 33, #[.int .i64 4, .int .i64 t.a, .int .i64 0, .int .i64 0, .slice (some ⟨w6.heap.size, 0, none⟩) 2 2]⟩, ⟨w5.heap.size, 64, #[.int .i64 t.k, .int .i64 t.t, .int .i64 t.a, .int .i64 t.b, .int .i64 t.c, .int .i64 t.d, .int .i64 t.e]⟩, ⟨w5.heap.size + 1, 64, #[.int .i64 sv, .int .i64 1, .int .i64 t.a, .int .i64 sv, .int .i64 n, .int .i64 now, .int .i64 t.e]⟩, ⟨w5.heap.size + 1 + 1, 64, #[.int .i64 t.c, .int .i64 2, .int .i64 sv, .int .i64 n, .int .i64 nc, .int .i64 t.e, .int .i64 0]⟩] [⟨(selT 64), fun W => OwnS W w.heap.size (.slice av L.length cv) L⟩, ⟨(selT 64), fun W => OwnS W w6.heap.size (.slice (some ⟨w6.heap.size, 0, none⟩) 2 2) [tick t.a sv n now t.e, part t.c sv n nc t.e]⟩] w7) := hS
        clear hS hF hA HS4
        simp only [putL, putT, List.setIfInBounds_toArray, List.set_cons_zero, List.set_cons_succ]
        rw [eq9]
        clear eq9
        go_wp2_with fail
        have y0 := HS5.out.cell 2 rfl 0 (.int .i64 (n + 1)) rfl
        have y1 := HS5.out.cell 2 rfl 1 (.slice av L.length cv) rfl
        have z0 := HS5.out.cell 3 rfl 0 (.int .i64 4) rfl
        have z1 := HS5.out.cell 3 rfl 1 (.int .i64 t.a) rfl
        have z2 := HS5.out.cell 3 rfl 2 (.int .i64 0) rfl
        have z3 := HS5.out.cell 3 rfl 3 (.int .i64 0) rfl
        have z4 := HS5.out.cell 3 rfl 4 (.slice (some ⟨w6.heap.size, 0, none⟩) 2 2) rfl
        refine bodyPost_ret (v := .tuple #[.agg #[.int .i64 (n + 1), .slice av L.length cv], .agg #[.int .i64 4, .int .i64 t.a, .int .i64 0, .int .i64 0, .slice (some ⟨w6.heap.size, 0, none⟩) 2 2], .bool true]) (by simp [results, Tryd.results27, go_sem, *]) rfl ?_
        rw [EA.out]
        exact ⟨⟨av, cv, _, 2, w.heap.size, w6.heap.size, rfl, HS5.out.of 0 rfl, HS5.out.of 1 rfl, hB, Nat.le_trans hB HZ.out.1, HZ.out.2⟩, HS5.out.bel⟩

end Go.Proofs.YtghajmfjekfdpaaDoor
