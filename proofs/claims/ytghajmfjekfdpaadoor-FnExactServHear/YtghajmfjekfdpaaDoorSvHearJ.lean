/-
  A service that hears a word that it does not take (0), by the specification.
-/
import Derived.Test.YtghajmfjekfdpaaDoorSvHearM
namespace Go.Proofs.YtghajmfjekfdpaaDoor
open Go.RowKit
attribute [local go_sem ↓] Go.wp_at_zero Go.wp_at_succ

set_option maxHeartbeats 8000000 in
set_option maxRecDepth 100000 in
theorem l13Hear0 (B : Nat) (i s9 : Int) (a1 a2 : Option Addr) (c1 c2 : Nat) (xs : List Sl) (ts : List Ca) (m cl sv nc : Int) (g2 : Nat) (cap : Nat) (ys : List Sl) (now : Int) (w : World) (hB : B ≤ w.heap.size) (ho1 : OwnS w B (.slice a1 xs.length c1) xs) (ho2 : OwnN celC 90 w B (.slice a2 ts.length c2) ts) (h : SRow w (some ⟨g2, 0, none⟩) ys) (hgB : ys ≠ [] → g2 < B) (_hx : xs.length ≤ 1048576) (_ht : ts.length ≤ 1048576) (_hy : ys.length ≤ 1048576) (hn : 0 ≤ now ∧ now ≤ 100) (ha : ∀ u ∈ xs, 0 ≤ u.b ∧ u.b ≤ 100) (u3 : ¬ m = 5) :
    Calls Tryd.prog 42 #[.agg #[.int .i64 i, .int .i64 s9, .slice a1 xs.length c1, .slice a2 ts.length c2], .agg #[.int .i64 m, .int .i64 cl, .int .i64 sv, .int .i64 nc, .slice (some ⟨g2, 0, none⟩) ys.length cap], .int .i64 now] w fun r w' => HAns B w' (askH i s9 xs ts m cl sv nc ys now) r ∧ Below B w w' := by
  have HH : Hid (SRow w (some ⟨g2, 0, none⟩) ys ∧ (ys ≠ [] → g2 < B)) := ⟨h, hgB⟩
  clear h hgB
  have HL : Hid (0 ≤ now ∧ now ≤ 100 ∧ ∀ u ∈ xs, 0 ≤ u.b ∧ u.b ≤ 100) := ⟨hn.1, hn.2, ha⟩
  clear hn ha
  go_enter Tryd.func42, Tryd.ntmps42
  go_wp2_with fail
  obtain ⟨w1, hX9, HS1⟩ : ∃ X, X = ((((w.alloc (.cells #[.int .i64 i, .int .i64 s9, .slice a1 xs.length c1, .slice a2 ts.length c2] 49)).alloc (.cells #[.int .i64 m, .int .i64 cl, .int .i64 sv, .int .i64 nc, .slice (some ⟨g2, 0, none⟩) ys.length cap] 33)).alloc (.cells #[.int .i64 0, .int .i64 0, .slice none 0 0, .slice none 0 0] 49)).alloc (.cells #[.int .i64 0, .int .i64 0, .int .i64 0, .int .i64 0, .slice none 0 0] 33)) ∧ Hid (St B w [⟨w.heap.size, 49, #[.int .i64 i, .int .i64 s9, .slice a1 xs.length c1, .slice a2 ts.length c2]⟩, ⟨w.heap.size + 1, 33, #[.int .i64 m, .int .i64 cl, .int .i64 sv, .int .i64 nc, .slice (some ⟨g2, 0, none⟩) ys.length cap]⟩, ⟨w.heap.size + 1 + 1, 49, #[.int .i64 0, .int .i64 0, .slice none 0 0, .slice none 0 0]⟩, ⟨w.heap.size + 1 + 1 + 1, 33, #[.int .i64 0, .int .i64 0, .int .i64 0, .int .i64 0, .slice none 0 0]⟩] [⟨(selT 64), fun W => OwnS W B (.slice a1 xs.length c1) xs⟩, ⟨(selT 90), fun W => OwnN celC 90 W B (.slice a2 ts.length c2) ts⟩] X) := ⟨_, rfl, Hid.mk' (by
    have h := (St.alloc #[.int .i64 0, .int .i64 0, .int .i64 0, .int .i64 0, .slice none 0 0] 33 (St.alloc #[.int .i64 0, .int .i64 0, .slice none 0 0, .slice none 0 0] 49 (St.alloc #[.int .i64 m, .int .i64 cl, .int .i64 sv, .int .i64 nc, .slice (some ⟨g2, 0, none⟩) ys.length cap] 33 (St.alloc #[.int .i64 i, .int .i64 s9, .slice a1 xs.length c1, .slice a2 ts.length c2] 49 (St.add (selT 90) (fun W => OwnN celC 90 W B (.slice a2 ts.length c2) ts) (keep_own celC _ _ _ _) ho2 (St.add (selT 64) (fun W => OwnS W B (.slice a1 xs.length c1) xs) (keep_owns _ _ _) ho1 (St.newB hB)))))))
    try simp only [World.size_alloc] at h
    try simp only [World.size_setCell] at h
    exact h)⟩
  rw [← hX9]
  clear hX9
  clear ho1 ho2
  refine wp_region_walk [14, 15, 16, 17, 18, 19, 20, 21, 22, 23, 24, 25, 26, 27, 28, 29, 30, 31, 32, 33, 34, 35, 36, 37, 38, 39, 40, 41, 42, 43, 44, 45, 46, 47, 48, 49, 50, 51, 52, 53] (fun d s W => St B w [⟨w.heap.size, 49, #[.int .i64 i, .int .i64 s9, .slice a1 xs.length c1, .slice a2 ts.length c2]⟩, ⟨w.heap.size + 1, 33, #[.int .i64 m, .int .i64 cl, .int .i64 sv, .int .i64 nc, .slice (some ⟨g2, 0, none⟩) ys.length cap]⟩, ⟨w.heap.size + 1 + 1, 49, #[.int .i64 0, .int .i64 0, .slice none 0 0, .slice none 0 0]⟩, ⟨w.heap.size + 1 + 1 + 1, 33, #[.int .i64 0, .int .i64 0, .int .i64 0, .int .i64 0, .slice none 0 0]⟩] [⟨(selT 64), fun W => OwnS W B (.slice a1 xs.length c1) xs⟩, ⟨(selT 90), fun W => OwnN celC 90 W B (.slice a2 ts.length c2) ts⟩] W ∧ Looks [(0, 14, Value.pointer (some ⟨w.heap.size + 1, 0, none⟩)), (1, 15, Value.int .i64 m), (2, 16, .bool true), (3, 17, .bool true), (4, 18, undef), (5, 19, undef), (6, 20, undef), (7, 21, .bool true), (8, 22, .bool true), (9, 23, undef), (10, 24, undef), (11, 25, undef), (12, 26, undef), (13, 27, undef), (14, 28, .bool true), (15, 29, .bool true), (16, 30, undef), (17, 31, undef), (18, 32, undef), (19, 33, undef), (20, 34, undef), (21, 35, undef), (22, 36, undef), (23, 37, undef), (24, 38, undef), (25, 39, undef), (26, 40, undef), (27, 41, undef), (28, 42, undef), (29, 43, .bool true), (30, 44, .bool true), (31, 45, undef), (32, 46, undef), (33, 47, undef), (34, 48, undef), (35, 49, undef), (36, 50, undef), (37, 51, undef), (38, 52, undef), (39, 53, .bool true)] d s) [0, 1, 2, 3, 4, 5, 6, 7, 8, 9, 10, 11, 12, 13, 14, 15, 16, 17, 18, 19, 20, 21, 22, 23, 24, 25, 26, 27, 28, 29, 30, 31, 32, 33, 34, 35, 36, 37, 38, 39] (by kernel_rfl) (by kernel_rfl) (by kernel_rfl) ?_ ?_ ?_
  · intro s
    exact ⟨HS1.out.drew, Looks.none _ _⟩
  · refine StepsR.cons (k := 0) [] (by kernel_rfl) ?_ (StepsR.cons (k := 1) [0] (by kernel_rfl) ?_ (StepsR.cons (k := 2) [1] (by kernel_rfl) ?_ (StepsR.cons (k := 3) [2] (by kernel_rfl) ?_ (StepsR.cons (k := 4) [3] (by kernel_rfl) ?_ (StepsR.cons (k := 5) [3] (by kernel_rfl) ?_ (StepsR.cons (k := 6) [3] (by kernel_rfl) ?_ (StepsR.cons (k := 7) [3, 6] (by kernel_rfl) ?_ (StepsR.cons (k := 8) [7] (by kernel_rfl) ?_ (StepsR.cons (k := 9) [8] (by kernel_rfl) ?_ (StepsR.cons (k := 10) [8] (by kernel_rfl) ?_ (StepsR.cons (k := 11) [8] (by kernel_rfl) ?_ (StepsR.cons (k := 12) [8] (by kernel_rfl) ?_ (StepsR.cons (k := 13) [8] (by kernel_rfl) ?_ (StepsR.cons (k := 14) [8, 13] (by kernel_rfl) ?_ (StepsR.cons (k := 15) [14] (by kernel_rfl) ?_ (StepsR.cons (k := 16) [15] (by kernel_rfl) ?_ (StepsR.cons (k := 17) [15] (by kernel_rfl) ?_ (StepsR.cons (k := 18) [15] (by kernel_rfl) ?_ (StepsR.cons (k := 19) [15] (by kernel_rfl) ?_ (StepsR.cons (k := 20) [15] (by kernel_rfl) ?_ (StepsR.cons (k := 21) [15] (by kernel_rfl) ?_ (StepsR.cons (k := 22) [15] (by kernel_rfl) ?_ (StepsR.cons (k := 23) [15] (by kernel_rfl) ?_ (StepsR.cons (k := 24) [15] (by kernel_rfl) ?_ (StepsR.cons (k := 25) [15] (by kernel_rfl) ?_ (StepsR.cons (k := 26) [15] (by kernel_rfl) ?_ (StepsR.cons (k := 27) [15] (by kernel_rfl) ?_ (StepsR.cons (k := 28) [15] (by kernel_rfl) ?_ (StepsR.cons (k := 29) [15, 28] (by kernel_rfl) ?_ (StepsR.cons (k := 30) [29] (by kernel_rfl) ?_ (StepsR.cons (k := 31) [30] (by kernel_rfl) ?_ (StepsR.cons (k := 32) [30] (by kernel_rfl) ?_ (StepsR.cons (k := 33) [30] (by kernel_rfl) ?_ (StepsR.cons (k := 34) [30] (by kernel_rfl) ?_ (StepsR.cons (k := 35) [30] (by kernel_rfl) ?_ (StepsR.cons (k := 36) [30] (by kernel_rfl) ?_ (StepsR.cons (k := 37) [30] (by kernel_rfl) ?_ (StepsR.cons (k := 38) [30] (by kernel_rfl) ?_ (StepsR.cons (k := 39) [30, 38] (by kernel_rfl) ?_ (StepsR.nil))))))))))))))))))))))))))))))))))))))))
    · intro d s w9 hd hA hC hF K hK
      have hB9 := hF.1.bel
      simp only [putL, putT, List.setIfInBounds_toArray, List.set_cons_zero, List.set_cons_succ]
      clear hB9
      as_aux_lemma =>
        go_simp
        refine hK.out (updS s 14 (Value.pointer (some ⟨w.heap.size + 1, 0, none⟩))) _ _ ?_ ⟨hF.1, hF.2.put 0 14 (Value.pointer (some ⟨w.heap.size + 1, 0, none⟩)) rfl (by simp)⟩
        simp only [putL, putT, List.setIfInBounds_toArray, List.set_cons_zero, List.set_cons_succ]; rfl
    · intro d s w9 hd hA hC hF K hK
      have hB9 := hF.1.bel
      simp only [putL, putT, List.setIfInBounds_toArray, List.set_cons_zero, List.set_cons_succ]
      clear hB9
      as_aux_lemma =>
        have eq0 : s 14 = Value.pointer (some ⟨w.heap.size + 1, 0, none⟩) := hF.2 (0, 14, Value.pointer (some ⟨w.heap.size + 1, 0, none⟩)) (by simp) (hA.1)
        rw [eq0]
        have p0 := hF.1.cell 1 rfl 0 (.int .i64 m) rfl
        go_simp
        clear p0
        refine hK.out (updS s 15 (Value.int .i64 m)) _ _ ?_ ⟨hF.1, hF.2.put 1 15 (Value.int .i64 m) rfl (by simp)⟩
        simp only [putL, putT, List.setIfInBounds_toArray, List.set_cons_zero, List.set_cons_succ]; rw [show updS s 15 (Value.int .i64 m) 14 = Value.pointer (some ⟨w.heap.size + 1, 0, none⟩) from eq0]; rfl
    · intro d s w9 hd hA hC hF K hK
      have hB9 := hF.1.bel
      simp only [putL, putT, List.setIfInBounds_toArray, List.set_cons_zero, List.set_cons_succ]
      clear hB9
      as_aux_lemma =>
        have eq1 : s 15 = Value.int .i64 m := hF.2 (1, 15, Value.int .i64 m) (by simp) (hA.1)
        rw [eq1]
        have hne9 : (m != 5) = true := by simpa using u3
        go_simp
        try rw [hne9]
        refine hK.out (updS s 16 (.bool true)) _ _ ?_ ⟨hF.1, hF.2.put 2 16 (.bool true) rfl (by simp)⟩
        simp only [putL, putT, List.setIfInBounds_toArray, List.set_cons_zero, List.set_cons_succ]; rw [show updS s 16 (.bool true) 15 = Value.int .i64 m from eq1]; rfl
    · intro d s w9 hd hA hC hF K hK
      have hB9 := hF.1.bel
      simp only [putL, putT, List.setIfInBounds_toArray, List.set_cons_zero, List.set_cons_succ]
      clear hB9
      as_aux_lemma =>
        have eq2 : s 16 = .bool true := hF.2 (2, 16, .bool true) (by simp) (hA.1)
        rw [eq2]
        go_simp
        refine hK.out (updS s 17 (.bool true)) _ _ ?_ ⟨hF.1, hF.2.put 3 17 (.bool true) rfl (by simp)⟩
        simp only [putL, putT, List.setIfInBounds_toArray, List.set_cons_zero, List.set_cons_succ]; rw [show updS s 17 (.bool true) 16 = .bool true from eq2]; rfl
    · intro d s w9 hd hA hC hF K hK
      have hB9 := hF.1.bel
      simp only [putL, putT, List.setIfInBounds_toArray, List.set_cons_zero, List.set_cons_succ]
      clear hB9
      as_aux_lemma =>
        have eq3 : s 17 = .bool true := hF.2 (3, 17, .bool true) (by simp) (hA.1)
        rw [eq3]
        go_simp
        refine hK.out (updS s 18 (undef)) _ _ ?_ ⟨hF.1, hF.2.put 4 18 (undef) rfl (by simp)⟩
        simp only [putL, putT, List.setIfInBounds_toArray, List.set_cons_zero, List.set_cons_succ]; rw [show updS s 18 (undef) 17 = .bool true from eq3]; rfl
    · intro d s w9 hd hA hC hF K hK
      have hB9 := hF.1.bel
      simp only [putL, putT, List.setIfInBounds_toArray, List.set_cons_zero, List.set_cons_succ]
      clear hB9
      as_aux_lemma =>
        have eq3 : s 17 = .bool true := hF.2 (3, 17, .bool true) (by simp) (hA.1)
        rw [eq3]
        go_simp
        refine hK.out (updS s 19 (undef)) _ _ ?_ ⟨hF.1, hF.2.put 5 19 (undef) rfl (by simp)⟩
        simp only [putL, putT, List.setIfInBounds_toArray, List.set_cons_zero, List.set_cons_succ]; rw [show updS s 19 (undef) 17 = .bool true from eq3]; rfl
    · intro d s w9 hd hA hC hF K hK
      have hB9 := hF.1.bel
      simp only [putL, putT, List.setIfInBounds_toArray, List.set_cons_zero, List.set_cons_succ]
      clear hB9
      as_aux_lemma =>
        have eq3 : s 17 = .bool true := hF.2 (3, 17, .bool true) (by simp) (hA.1)
        rw [eq3]
        go_simp
        refine hK.out (updS s 20 (undef)) _ _ ?_ ⟨hF.1, hF.2.put 6 20 (undef) rfl (by simp)⟩
        simp only [putL, putT, List.setIfInBounds_toArray, List.set_cons_zero, List.set_cons_succ]; rw [show updS s 20 (undef) 17 = .bool true from eq3]; rfl
    · intro d s w9 hd hA hC hF K hK
      have hB9 := hF.1.bel
      simp only [putL, putT, List.setIfInBounds_toArray, List.set_cons_zero, List.set_cons_succ]
      clear hB9
      as_aux_lemma =>
        have eq3 : s 17 = .bool true := hF.2 (3, 17, .bool true) (by simp) (hA.1)
        rw [eq3]
        go_simp
        refine hK.out (updS s 21 (.bool true)) _ _ ?_ ⟨hF.1, hF.2.put 7 21 (.bool true) rfl (by simp)⟩
        simp only [putL, putT, List.setIfInBounds_toArray, List.set_cons_zero, List.set_cons_succ]; rw [show updS s 21 (.bool true) 17 = .bool true from eq3]; rfl
    · intro d s w9 hd hA hC hF K hK
      have hB9 := hF.1.bel
      simp only [putL, putT, List.setIfInBounds_toArray, List.set_cons_zero, List.set_cons_succ]
      clear hB9
      as_aux_lemma =>
        have eq7 : s 21 = .bool true := hF.2 (7, 21, .bool true) (by simp) (hA.1)
        rw [eq7]
        go_simp
        refine hK.out (updS s 22 (.bool true)) _ _ ?_ ⟨hF.1, hF.2.put 8 22 (.bool true) rfl (by simp)⟩
        simp only [putL, putT, List.setIfInBounds_toArray, List.set_cons_zero, List.set_cons_succ]; rw [show updS s 22 (.bool true) 21 = .bool true from eq7]; rfl
    · intro d s w9 hd hA hC hF K hK
      have hB9 := hF.1.bel
      simp only [putL, putT, List.setIfInBounds_toArray, List.set_cons_zero, List.set_cons_succ]
      clear hB9
      as_aux_lemma =>
        have eq8 : s 22 = .bool true := hF.2 (8, 22, .bool true) (by simp) (hA.1)
        rw [eq8]
        go_simp
        refine hK.out (updS s 23 (undef)) _ _ ?_ ⟨hF.1, hF.2.put 9 23 (undef) rfl (by simp)⟩
        simp only [putL, putT, List.setIfInBounds_toArray, List.set_cons_zero, List.set_cons_succ]; rw [show updS s 23 (undef) 22 = .bool true from eq8]; rfl
    · intro d s w9 hd hA hC hF K hK
      have hB9 := hF.1.bel
      simp only [putL, putT, List.setIfInBounds_toArray, List.set_cons_zero, List.set_cons_succ]
      clear hB9
      as_aux_lemma =>
        have eq8 : s 22 = .bool true := hF.2 (8, 22, .bool true) (by simp) (hA.1)
        rw [eq8]
        go_simp
        refine hK.out (updS s 24 (undef)) _ _ ?_ ⟨hF.1, hF.2.put 10 24 (undef) rfl (by simp)⟩
        simp only [putL, putT, List.setIfInBounds_toArray, List.set_cons_zero, List.set_cons_succ]; rw [show updS s 24 (undef) 22 = .bool true from eq8]; rfl
    · intro d s w9 hd hA hC hF K hK
      have hB9 := hF.1.bel
      simp only [putL, putT, List.setIfInBounds_toArray, List.set_cons_zero, List.set_cons_succ]
      clear hB9
      as_aux_lemma =>
        have eq8 : s 22 = .bool true := hF.2 (8, 22, .bool true) (by simp) (hA.1)
        rw [eq8]
        go_simp
        refine hK.out (updS s 25 (undef)) _ _ ?_ ⟨hF.1, hF.2.put 11 25 (undef) rfl (by simp)⟩
        simp only [putL, putT, List.setIfInBounds_toArray, List.set_cons_zero, List.set_cons_succ]; rw [show updS s 25 (undef) 22 = .bool true from eq8]; rfl
    · intro d s w9 hd hA hC hF K hK
      have hB9 := hF.1.bel
      simp only [putL, putT, List.setIfInBounds_toArray, List.set_cons_zero, List.set_cons_succ]
      clear hB9
      as_aux_lemma =>
        have eq8 : s 22 = .bool true := hF.2 (8, 22, .bool true) (by simp) (hA.1)
        rw [eq8]
        go_simp
        refine hK.out (updS s 26 (undef)) _ _ ?_ ⟨hF.1, hF.2.put 12 26 (undef) rfl (by simp)⟩
        simp only [putL, putT, List.setIfInBounds_toArray, List.set_cons_zero, List.set_cons_succ]; rw [show updS s 26 (undef) 22 = .bool true from eq8]; rfl
    · intro d s w9 hd hA hC hF K hK
      have hB9 := hF.1.bel
      simp only [putL, putT, List.setIfInBounds_toArray, List.set_cons_zero, List.set_cons_succ]
      clear hB9
      as_aux_lemma =>
        have eq8 : s 22 = .bool true := hF.2 (8, 22, .bool true) (by simp) (hA.1)
        rw [eq8]
        go_simp
        refine hK.out (updS s 27 (undef)) _ _ ?_ ⟨hF.1, hF.2.put 13 27 (undef) rfl (by simp)⟩
        simp only [putL, putT, List.setIfInBounds_toArray, List.set_cons_zero, List.set_cons_succ]; rw [show updS s 27 (undef) 22 = .bool true from eq8]; rfl
    · intro d s w9 hd hA hC hF K hK
      have hB9 := hF.1.bel
      simp only [putL, putT, List.setIfInBounds_toArray, List.set_cons_zero, List.set_cons_succ]
      clear hB9
      as_aux_lemma =>
        have eq8 : s 22 = .bool true := hF.2 (8, 22, .bool true) (by simp) (hA.1)
        rw [eq8]
        go_simp
        refine hK.out (updS s 28 (.bool true)) _ _ ?_ ⟨hF.1, hF.2.put 14 28 (.bool true) rfl (by simp)⟩
        simp only [putL, putT, List.setIfInBounds_toArray, List.set_cons_zero, List.set_cons_succ]; rw [show updS s 28 (.bool true) 22 = .bool true from eq8]; rfl
    · intro d s w9 hd hA hC hF K hK
      have hB9 := hF.1.bel
      simp only [putL, putT, List.setIfInBounds_toArray, List.set_cons_zero, List.set_cons_succ]
      clear hB9
      as_aux_lemma =>
        have eq14 : s 28 = .bool true := hF.2 (14, 28, .bool true) (by simp) (hA.1)
        rw [eq14]
        go_simp
        refine hK.out (updS s 29 (.bool true)) _ _ ?_ ⟨hF.1, hF.2.put 15 29 (.bool true) rfl (by simp)⟩
        simp only [putL, putT, List.setIfInBounds_toArray, List.set_cons_zero, List.set_cons_succ]; rw [show updS s 29 (.bool true) 28 = .bool true from eq14]; rfl
    · intro d s w9 hd hA hC hF K hK
      have hB9 := hF.1.bel
      simp only [putL, putT, List.setIfInBounds_toArray, List.set_cons_zero, List.set_cons_succ]
      clear hB9
      as_aux_lemma =>
        have eq15 : s 29 = .bool true := hF.2 (15, 29, .bool true) (by simp) (hA.1)
        rw [eq15]
        go_simp
        refine hK.out (updS s 30 (undef)) _ _ ?_ ⟨hF.1, hF.2.put 16 30 (undef) rfl (by simp)⟩
        simp only [putL, putT, List.setIfInBounds_toArray, List.set_cons_zero, List.set_cons_succ]; rw [show updS s 30 (undef) 29 = .bool true from eq15]; rfl
    · intro d s w9 hd hA hC hF K hK
      have hB9 := hF.1.bel
      simp only [putL, putT, List.setIfInBounds_toArray, List.set_cons_zero, List.set_cons_succ]
      clear hB9
      as_aux_lemma =>
        have eq15 : s 29 = .bool true := hF.2 (15, 29, .bool true) (by simp) (hA.1)
        rw [eq15]
        go_simp
        refine hK.out (updS s 31 (undef)) _ _ ?_ ⟨hF.1, hF.2.put 17 31 (undef) rfl (by simp)⟩
        simp only [putL, putT, List.setIfInBounds_toArray, List.set_cons_zero, List.set_cons_succ]; rw [show updS s 31 (undef) 29 = .bool true from eq15]; rfl
    · intro d s w9 hd hA hC hF K hK
      have hB9 := hF.1.bel
      simp only [putL, putT, List.setIfInBounds_toArray, List.set_cons_zero, List.set_cons_succ]
      clear hB9
      as_aux_lemma =>
        have eq15 : s 29 = .bool true := hF.2 (15, 29, .bool true) (by simp) (hA.1)
        rw [eq15]
        go_simp
        refine hK.out (updS s 32 (undef)) _ _ ?_ ⟨hF.1, hF.2.put 18 32 (undef) rfl (by simp)⟩
        simp only [putL, putT, List.setIfInBounds_toArray, List.set_cons_zero, List.set_cons_succ]; rw [show updS s 32 (undef) 29 = .bool true from eq15]; rfl
    · intro d s w9 hd hA hC hF K hK
      have hB9 := hF.1.bel
      simp only [putL, putT, List.setIfInBounds_toArray, List.set_cons_zero, List.set_cons_succ]
      clear hB9
      as_aux_lemma =>
        have eq15 : s 29 = .bool true := hF.2 (15, 29, .bool true) (by simp) (hA.1)
        rw [eq15]
        go_simp
        refine hK.out (updS s 33 (undef)) _ _ ?_ ⟨hF.1, hF.2.put 19 33 (undef) rfl (by simp)⟩
        simp only [putL, putT, List.setIfInBounds_toArray, List.set_cons_zero, List.set_cons_succ]; rw [show updS s 33 (undef) 29 = .bool true from eq15]; rfl
    · intro d s w9 hd hA hC hF K hK
      have hB9 := hF.1.bel
      simp only [putL, putT, List.setIfInBounds_toArray, List.set_cons_zero, List.set_cons_succ]
      clear hB9
      as_aux_lemma =>
        have eq15 : s 29 = .bool true := hF.2 (15, 29, .bool true) (by simp) (hA.1)
        rw [eq15]
        go_simp
        refine hK.out (updS s 34 (undef)) _ _ ?_ ⟨hF.1, hF.2.put 20 34 (undef) rfl (by simp)⟩
        simp only [putL, putT, List.setIfInBounds_toArray, List.set_cons_zero, List.set_cons_succ]; rw [show updS s 34 (undef) 29 = .bool true from eq15]; rfl
    · intro d s w9 hd hA hC hF K hK
      have hB9 := hF.1.bel
      simp only [putL, putT, List.setIfInBounds_toArray, List.set_cons_zero, List.set_cons_succ]
      clear hB9
      as_aux_lemma =>
        have eq15 : s 29 = .bool true := hF.2 (15, 29, .bool true) (by simp) (hA.1)
        rw [eq15]
        go_simp
        refine hK.out (updS s 35 (undef)) _ _ ?_ ⟨hF.1, hF.2.put 21 35 (undef) rfl (by simp)⟩
        simp only [putL, putT, List.setIfInBounds_toArray, List.set_cons_zero, List.set_cons_succ]; rw [show updS s 35 (undef) 29 = .bool true from eq15]; rfl
    · intro d s w9 hd hA hC hF K hK
      have hB9 := hF.1.bel
      simp only [putL, putT, List.setIfInBounds_toArray, List.set_cons_zero, List.set_cons_succ]
      clear hB9
      as_aux_lemma =>
        have eq15 : s 29 = .bool true := hF.2 (15, 29, .bool true) (by simp) (hA.1)
        rw [eq15]
        go_simp
        refine hK.out (updS s 36 (undef)) _ _ ?_ ⟨hF.1, hF.2.put 22 36 (undef) rfl (by simp)⟩
        simp only [putL, putT, List.setIfInBounds_toArray, List.set_cons_zero, List.set_cons_succ]; rw [show updS s 36 (undef) 29 = .bool true from eq15]; rfl
    · intro d s w9 hd hA hC hF K hK
      have hB9 := hF.1.bel
      simp only [putL, putT, List.setIfInBounds_toArray, List.set_cons_zero, List.set_cons_succ]
      clear hB9
      as_aux_lemma =>
        have eq15 : s 29 = .bool true := hF.2 (15, 29, .bool true) (by simp) (hA.1)
        rw [eq15]
        go_simp
        refine hK.out (updS s 37 (undef)) _ _ ?_ ⟨hF.1, hF.2.put 23 37 (undef) rfl (by simp)⟩
        simp only [putL, putT, List.setIfInBounds_toArray, List.set_cons_zero, List.set_cons_succ]; rw [show updS s 37 (undef) 29 = .bool true from eq15]; rfl
    · intro d s w9 hd hA hC hF K hK
      have hB9 := hF.1.bel
      simp only [putL, putT, List.setIfInBounds_toArray, List.set_cons_zero, List.set_cons_succ]
      clear hB9
      as_aux_lemma =>
        have eq15 : s 29 = .bool true := hF.2 (15, 29, .bool true) (by simp) (hA.1)
        rw [eq15]
        go_simp
        refine hK.out (updS s 38 (undef)) _ _ ?_ ⟨hF.1, hF.2.put 24 38 (undef) rfl (by simp)⟩
        simp only [putL, putT, List.setIfInBounds_toArray, List.set_cons_zero, List.set_cons_succ]; rw [show updS s 38 (undef) 29 = .bool true from eq15]; rfl
    · intro d s w9 hd hA hC hF K hK
      have hB9 := hF.1.bel
      simp only [putL, putT, List.setIfInBounds_toArray, List.set_cons_zero, List.set_cons_succ]
      clear hB9
      as_aux_lemma =>
        have eq15 : s 29 = .bool true := hF.2 (15, 29, .bool true) (by simp) (hA.1)
        rw [eq15]
        go_simp
        refine hK.out (updS s 39 (undef)) _ _ ?_ ⟨hF.1, hF.2.put 25 39 (undef) rfl (by simp)⟩
        simp only [putL, putT, List.setIfInBounds_toArray, List.set_cons_zero, List.set_cons_succ]; rw [show updS s 39 (undef) 29 = .bool true from eq15]; rfl
    · intro d s w9 hd hA hC hF K hK
      have hB9 := hF.1.bel
      simp only [putL, putT, List.setIfInBounds_toArray, List.set_cons_zero, List.set_cons_succ]
      clear hB9
      as_aux_lemma =>
        have eq15 : s 29 = .bool true := hF.2 (15, 29, .bool true) (by simp) (hA.1)
        rw [eq15]
        go_simp
        refine hK.out (updS s 40 (undef)) _ _ ?_ ⟨hF.1, hF.2.put 26 40 (undef) rfl (by simp)⟩
        simp only [putL, putT, List.setIfInBounds_toArray, List.set_cons_zero, List.set_cons_succ]; rw [show updS s 40 (undef) 29 = .bool true from eq15]; rfl
    · intro d s w9 hd hA hC hF K hK
      have hB9 := hF.1.bel
      simp only [putL, putT, List.setIfInBounds_toArray, List.set_cons_zero, List.set_cons_succ]
      clear hB9
      as_aux_lemma =>
        have eq15 : s 29 = .bool true := hF.2 (15, 29, .bool true) (by simp) (hA.1)
        rw [eq15]
        go_simp
        refine hK.out (updS s 41 (undef)) _ _ ?_ ⟨hF.1, hF.2.put 27 41 (undef) rfl (by simp)⟩
        simp only [putL, putT, List.setIfInBounds_toArray, List.set_cons_zero, List.set_cons_succ]; rw [show updS s 41 (undef) 29 = .bool true from eq15]; rfl
    · intro d s w9 hd hA hC hF K hK
      have hB9 := hF.1.bel
      simp only [putL, putT, List.setIfInBounds_toArray, List.set_cons_zero, List.set_cons_succ]
      clear hB9
      as_aux_lemma =>
        have eq15 : s 29 = .bool true := hF.2 (15, 29, .bool true) (by simp) (hA.1)
        rw [eq15]
        go_simp
        refine hK.out (updS s 42 (undef)) _ _ ?_ ⟨hF.1, hF.2.put 28 42 (undef) rfl (by simp)⟩
        simp only [putL, putT, List.setIfInBounds_toArray, List.set_cons_zero, List.set_cons_succ]; rw [show updS s 42 (undef) 29 = .bool true from eq15]; rfl
    · intro d s w9 hd hA hC hF K hK
      have hB9 := hF.1.bel
      simp only [putL, putT, List.setIfInBounds_toArray, List.set_cons_zero, List.set_cons_succ]
      clear hB9
      as_aux_lemma =>
        have eq15 : s 29 = .bool true := hF.2 (15, 29, .bool true) (by simp) (hA.1)
        rw [eq15]
        go_simp
        refine hK.out (updS s 43 (.bool true)) _ _ ?_ ⟨hF.1, hF.2.put 29 43 (.bool true) rfl (by simp)⟩
        simp only [putL, putT, List.setIfInBounds_toArray, List.set_cons_zero, List.set_cons_succ]; rw [show updS s 43 (.bool true) 29 = .bool true from eq15]; rfl
    · intro d s w9 hd hA hC hF K hK
      have hB9 := hF.1.bel
      simp only [putL, putT, List.setIfInBounds_toArray, List.set_cons_zero, List.set_cons_succ]
      clear hB9
      as_aux_lemma =>
        have eq29 : s 43 = .bool true := hF.2 (29, 43, .bool true) (by simp) (hA.1)
        rw [eq29]
        go_simp
        refine hK.out (updS s 44 (.bool true)) _ _ ?_ ⟨hF.1, hF.2.put 30 44 (.bool true) rfl (by simp)⟩
        simp only [putL, putT, List.setIfInBounds_toArray, List.set_cons_zero, List.set_cons_succ]; rw [show updS s 44 (.bool true) 43 = .bool true from eq29]; rfl
    · intro d s w9 hd hA hC hF K hK
      have hB9 := hF.1.bel
      simp only [putL, putT, List.setIfInBounds_toArray, List.set_cons_zero, List.set_cons_succ]
      clear hB9
      as_aux_lemma =>
        have eq30 : s 44 = .bool true := hF.2 (30, 44, .bool true) (by simp) (hA.1)
        rw [eq30]
        go_simp
        refine hK.out (updS s 45 (undef)) _ _ ?_ ⟨hF.1, hF.2.put 31 45 (undef) rfl (by simp)⟩
        simp only [putL, putT, List.setIfInBounds_toArray, List.set_cons_zero, List.set_cons_succ]; rw [show updS s 45 (undef) 44 = .bool true from eq30]; rfl
    · intro d s w9 hd hA hC hF K hK
      have hB9 := hF.1.bel
      simp only [putL, putT, List.setIfInBounds_toArray, List.set_cons_zero, List.set_cons_succ]
      clear hB9
      as_aux_lemma =>
        have eq30 : s 44 = .bool true := hF.2 (30, 44, .bool true) (by simp) (hA.1)
        rw [eq30]
        go_simp
        refine hK.out (updS s 46 (undef)) _ _ ?_ ⟨hF.1, hF.2.put 32 46 (undef) rfl (by simp)⟩
        simp only [putL, putT, List.setIfInBounds_toArray, List.set_cons_zero, List.set_cons_succ]; rw [show updS s 46 (undef) 44 = .bool true from eq30]; rfl
    · intro d s w9 hd hA hC hF K hK
      have hB9 := hF.1.bel
      simp only [putL, putT, List.setIfInBounds_toArray, List.set_cons_zero, List.set_cons_succ]
      clear hB9
      as_aux_lemma =>
        have eq30 : s 44 = .bool true := hF.2 (30, 44, .bool true) (by simp) (hA.1)
        rw [eq30]
        go_simp
        refine hK.out (updS s 47 (undef)) _ _ ?_ ⟨hF.1, hF.2.put 33 47 (undef) rfl (by simp)⟩
        simp only [putL, putT, List.setIfInBounds_toArray, List.set_cons_zero, List.set_cons_succ]; rw [show updS s 47 (undef) 44 = .bool true from eq30]; rfl
    · intro d s w9 hd hA hC hF K hK
      have hB9 := hF.1.bel
      simp only [putL, putT, List.setIfInBounds_toArray, List.set_cons_zero, List.set_cons_succ]
      clear hB9
      as_aux_lemma =>
        have eq30 : s 44 = .bool true := hF.2 (30, 44, .bool true) (by simp) (hA.1)
        rw [eq30]
        go_simp
        refine hK.out (updS s 48 (undef)) _ _ ?_ ⟨hF.1, hF.2.put 34 48 (undef) rfl (by simp)⟩
        simp only [putL, putT, List.setIfInBounds_toArray, List.set_cons_zero, List.set_cons_succ]; rw [show updS s 48 (undef) 44 = .bool true from eq30]; rfl
    · intro d s w9 hd hA hC hF K hK
      have hB9 := hF.1.bel
      simp only [putL, putT, List.setIfInBounds_toArray, List.set_cons_zero, List.set_cons_succ]
      clear hB9
      as_aux_lemma =>
        have eq30 : s 44 = .bool true := hF.2 (30, 44, .bool true) (by simp) (hA.1)
        rw [eq30]
        go_simp
        refine hK.out (updS s 49 (undef)) _ _ ?_ ⟨hF.1, hF.2.put 35 49 (undef) rfl (by simp)⟩
        simp only [putL, putT, List.setIfInBounds_toArray, List.set_cons_zero, List.set_cons_succ]; rw [show updS s 49 (undef) 44 = .bool true from eq30]; rfl
    · intro d s w9 hd hA hC hF K hK
      have hB9 := hF.1.bel
      simp only [putL, putT, List.setIfInBounds_toArray, List.set_cons_zero, List.set_cons_succ]
      clear hB9
      as_aux_lemma =>
        have eq30 : s 44 = .bool true := hF.2 (30, 44, .bool true) (by simp) (hA.1)
        rw [eq30]
        go_simp
        refine hK.out (updS s 50 (undef)) _ _ ?_ ⟨hF.1, hF.2.put 36 50 (undef) rfl (by simp)⟩
        simp only [putL, putT, List.setIfInBounds_toArray, List.set_cons_zero, List.set_cons_succ]; rw [show updS s 50 (undef) 44 = .bool true from eq30]; rfl
    · intro d s w9 hd hA hC hF K hK
      have hB9 := hF.1.bel
      simp only [putL, putT, List.setIfInBounds_toArray, List.set_cons_zero, List.set_cons_succ]
      clear hB9
      as_aux_lemma =>
        have eq30 : s 44 = .bool true := hF.2 (30, 44, .bool true) (by simp) (hA.1)
        rw [eq30]
        go_simp
        refine hK.out (updS s 51 (undef)) _ _ ?_ ⟨hF.1, hF.2.put 37 51 (undef) rfl (by simp)⟩
        simp only [putL, putT, List.setIfInBounds_toArray, List.set_cons_zero, List.set_cons_succ]; rw [show updS s 51 (undef) 44 = .bool true from eq30]; rfl
    · intro d s w9 hd hA hC hF K hK
      have hB9 := hF.1.bel
      simp only [putL, putT, List.setIfInBounds_toArray, List.set_cons_zero, List.set_cons_succ]
      clear hB9
      as_aux_lemma =>
        have eq30 : s 44 = .bool true := hF.2 (30, 44, .bool true) (by simp) (hA.1)
        rw [eq30]
        go_simp
        refine hK.out (updS s 52 (undef)) _ _ ?_ ⟨hF.1, hF.2.put 38 52 (undef) rfl (by simp)⟩
        simp only [putL, putT, List.setIfInBounds_toArray, List.set_cons_zero, List.set_cons_succ]; rw [show updS s 52 (undef) 44 = .bool true from eq30]; rfl
    · intro d s w9 hd hA hC hF K hK
      have hB9 := hF.1.bel
      simp only [putL, putT, List.setIfInBounds_toArray, List.set_cons_zero, List.set_cons_succ]
      clear hB9
      as_aux_lemma =>
        have eq30 : s 44 = .bool true := hF.2 (30, 44, .bool true) (by simp) (hA.1)
        rw [eq30]
        go_simp
        refine hK.out (updS s 53 (.bool true)) _ _ ?_ ⟨hF.1, hF.2.put 39 53 (.bool true) rfl (by simp)⟩
        simp only [putL, putT, List.setIfInBounds_toArray, List.set_cons_zero, List.set_cons_succ]; rw [show updS s 53 (.bool true) 44 = .bool true from eq30]; rfl
  · intro d s w3 hA hF
    have hS := hF.1
    have eq39 : s 53 = .bool true := hF.2 (39, 53, .bool true) (by simp) (hA.2.2.2.2.2.2.2.2.2.2.2.2.2.2.2.2.2.2.2.2.2.2.2.2.2.2.2.2.2.2.2.2.2.2.2.2.2.2.2.1)
    have HS2 : Hid (St B w [⟨w.heap.size, 49, #[.int .i64 i, .int .i64 s9, .slice a1 xs.length c1, .slice a2 ts.length c2]⟩, ⟨w.heap.size + 1, 33, #[.int .i64 m, .int .i64 cl, .int .i64 sv, .int .i64 nc, .slice (some ⟨g2, 0, none⟩) ys.length cap]⟩, ⟨w.heap.size + 1 + 1, 49, #[.int .i64 0, .int .i64 0, .slice none 0 0, .slice none 0 0]⟩, ⟨w.heap.size + 1 + 1 + 1, 33, #[.int .i64 0, .int .i64 0, .int .i64 0, .int .i64 0, .slice none 0 0]⟩] [⟨(selT 64), fun W => OwnS W B (.slice a1 xs.length c1) xs⟩, ⟨(selT 90), fun W => OwnN celC 90 W B (.slice a2 ts.length c2) ts⟩] w3) := hS
    clear hS hF hA HS1
    simp only [putL, putT, List.setIfInBounds_toArray, List.set_cons_zero, List.set_cons_succ]
    rw [eq39]
    clear eq39
    have EA : Hid (askH i s9 xs ts m cl sv nc ys now = keepH i s9 xs ts) := Hid.mk' (by unfold askH; rw [if_neg (by simp [u3])])
    have lt0 : w.heap.size < w3.heap.size := (HS2.out.lt 0 rfl).2
    have lt1 : w.heap.size + 1 < w3.heap.size := (HS2.out.lt 1 rfl).2
    have lt2 : w.heap.size + 1 + 1 < w3.heap.size := (HS2.out.lt 2 rfl).2
    have lt3 : w.heap.size + 1 + 1 + 1 < w3.heap.size := (HS2.out.lt 3 rfl).2
    have p0 := HS2.out.cell 0 rfl 0 (.int .i64 i) rfl
    have p1 := HS2.out.cell 0 rfl 1 (.int .i64 s9) rfl
    have p2 := HS2.out.cell 0 rfl 2 (.slice a1 xs.length c1) rfl
    have p3 := HS2.out.cell 0 rfl 3 (.slice a2 ts.length c2) rfl
    have z0 := HS2.out.cell 2 rfl 0 (.int .i64 0) rfl
    have zf0 := HS2.out.fro 2 rfl 0
    have z1 := HS2.out.cell 2 rfl 1 (.int .i64 0) rfl
    have zf1 := HS2.out.fro 2 rfl 1
    have z2 := HS2.out.cell 2 rfl 2 (.slice none 0 0) rfl
    have zf2 := HS2.out.fro 2 rfl 2
    have z3 := HS2.out.cell 2 rfl 3 (.slice none 0 0) rfl
    have zf3 := HS2.out.fro 2 rfl 3
    have y0 := HS2.out.cell 3 rfl 0 (.int .i64 0) rfl
    have yf0 := HS2.out.fro 3 rfl 0
    have y1 := HS2.out.cell 3 rfl 1 (.int .i64 0) rfl
    have yf1 := HS2.out.fro 3 rfl 1
    have y2 := HS2.out.cell 3 rfl 2 (.int .i64 0) rfl
    have yf2 := HS2.out.fro 3 rfl 2
    have y3 := HS2.out.cell 3 rfl 3 (.int .i64 0) rfl
    have yf3 := HS2.out.fro 3 rfl 3
    have y4 := HS2.out.cell 3 rfl 4 (.slice none 0 0) rfl
    have yf4 := HS2.out.fro 3 rfl 4
    go_wp2_with fail
    clear lt0 lt1 lt2 lt3 p0 p1 p2 p3 z0 zf0 z1 zf1 z2 zf2 z3 zf3 y0 yf0 y1 yf1 y2 yf2 y3 yf3 y4 yf4
    obtain ⟨V, hX9, HS3⟩ : ∃ X, X = (((((((((w3.setCell ⟨w.heap.size + 1 + 1, 0, none⟩ (.int .i64 i)).setCell ⟨w.heap.size + 1 + 1, 1, none⟩ (.int .i64 s9)).setCell ⟨w.heap.size + 1 + 1, 2, none⟩ (.slice a1 xs.length c1)).setCell ⟨w.heap.size + 1 + 1, 3, none⟩ (.slice a2 ts.length c2)).setCell ⟨w.heap.size + 1 + 1 + 1, 0, none⟩ (.int .i64 0)).setCell ⟨w.heap.size + 1 + 1 + 1, 1, none⟩ (.int .i64 0)).setCell ⟨w.heap.size + 1 + 1 + 1, 2, none⟩ (.int .i64 0)).setCell ⟨w.heap.size + 1 + 1 + 1, 3, none⟩ (.int .i64 0)).setCell ⟨w.heap.size + 1 + 1 + 1, 4, none⟩ (.slice none 0 0)) ∧ Hid (St B w [⟨w.heap.size, 49, #[.int .i64 i, .int .i64 s9, .slice a1 xs.length c1, .slice a2 ts.length c2]⟩, ⟨w.heap.size + 1, 33, #[.int .i64 m, .int .i64 cl, .int .i64 sv, .int .i64 nc, .slice (some ⟨g2, 0, none⟩) ys.length cap]⟩, ⟨w.heap.size + 1 + 1, 49, #[.int .i64 i, .int .i64 s9, .slice a1 xs.length c1, .slice a2 ts.length c2]⟩, ⟨w.heap.size + 1 + 1 + 1, 33, #[.int .i64 0, .int .i64 0, .int .i64 0, .int .i64 0, .slice none 0 0]⟩] [⟨(selT 64), fun W => OwnS W B (.slice a1 xs.length c1) xs⟩, ⟨(selT 90), fun W => OwnN celC 90 W B (.slice a2 ts.length c2) ts⟩] X) := ⟨_, rfl, Hid.mk' (by
      have h := (St.put5 3 (St.put4 2 HS2.out rfl rfl (.int .i64 i) (.int .i64 s9) (.slice a1 xs.length c1) (.slice a2 ts.length c2)) rfl rfl (.int .i64 0) (.int .i64 0) (.int .i64 0) (.int .i64 0) (.slice none 0 0))
      try simp only [World.size_alloc] at h
      try simp only [World.size_setCell] at h
      exact h)⟩
    rw [← hX9]
    clear hX9
    clear HS2
    have y0 := HS3.out.cell 2 rfl 0 (.int .i64 i) rfl
    have y1 := HS3.out.cell 2 rfl 1 (.int .i64 s9) rfl
    have y2 := HS3.out.cell 2 rfl 2 (.slice a1 xs.length c1) rfl
    have y3 := HS3.out.cell 2 rfl 3 (.slice a2 ts.length c2) rfl
    have z0 := HS3.out.cell 3 rfl 0 (.int .i64 0) rfl
    have z1 := HS3.out.cell 3 rfl 1 (.int .i64 0) rfl
    have z2 := HS3.out.cell 3 rfl 2 (.int .i64 0) rfl
    have z3 := HS3.out.cell 3 rfl 3 (.int .i64 0) rfl
    have z4 := HS3.out.cell 3 rfl 4 (.slice none 0 0) rfl
    refine bodyPost_ret (v := .tuple #[.agg #[.int .i64 i, .int .i64 s9, .slice a1 xs.length c1, .slice a2 ts.length c2], .agg #[.int .i64 0, .int .i64 0, .int .i64 0, .int .i64 0, .slice none 0 0], .bool false]) (by simp [results, Tryd.results42, go_sem, *]) rfl ?_
    rw [EA.out]
    exact ⟨⟨a1, c1, a2, c2, none, 0, V.heap.size, rfl, HS3.out.of 0 rfl, HS3.out.of 1 rfl, OwnS.nil _ _, HS3.out.sz, fun k hk => (OwnS.low (HS3.out.of 0 rfl) k hk).2⟩, HS3.out.bel⟩

end Go.Proofs.YtghajmfjekfdpaaDoor

namespace Go.Proofs.YtghajmfjekfdpaaDoor
open Go.RowKit
attribute [local go_sem ↓] Go.wp_at_zero Go.wp_at_succ

set_option maxHeartbeats 8000000 in
set_option maxRecDepth 100000 in
theorem l13Hear1 (B : Nat) (i s9 : Int) (a1 a2 : Option Addr) (c1 c2 : Nat) (xs : List Sl) (ts : List Ca) (cl sv nc : Int) (g2 : Nat) (cap : Nat) (ys : List Sl) (now : Int) (w : World) (hB : B ≤ w.heap.size) (ho1 : OwnS w B (.slice a1 xs.length c1) xs) (ho2 : OwnN celC 90 w B (.slice a2 ts.length c2) ts) (h : SRow w (some ⟨g2, 0, none⟩) ys) (hgB : ys ≠ [] → g2 < B) (_hx : xs.length ≤ 1048576) (_ht : ts.length ≤ 1048576) (hy : ys.length ≤ 1048576) (hn : 0 ≤ now ∧ now ≤ 100) (ha : ∀ u ∈ xs, 0 ≤ u.b ∧ u.b ≤ 100) (u4 : msgB 5 cl sv nc ys = false) :
    Calls Tryd.prog 42 #[.agg #[.int .i64 i, .int .i64 s9, .slice a1 xs.length c1, .slice a2 ts.length c2], .agg #[.int .i64 5, .int .i64 cl, .int .i64 sv, .int .i64 nc, .slice (some ⟨g2, 0, none⟩) ys.length cap], .int .i64 now] w fun r w' => HAns B w' (askH i s9 xs ts 5 cl sv nc ys now) r ∧ Below B w w' := by
  have HH : Hid (SRow w (some ⟨g2, 0, none⟩) ys ∧ (ys ≠ [] → g2 < B)) := ⟨h, hgB⟩
  clear h hgB
  have HL : Hid (0 ≤ now ∧ now ≤ 100 ∧ ∀ u ∈ xs, 0 ≤ u.b ∧ u.b ≤ 100) := ⟨hn.1, hn.2, ha⟩
  clear hn ha
  go_enter Tryd.func42, Tryd.ntmps42
  go_wp2_with fail
  obtain ⟨w1, hX9, HS1⟩ : ∃ X, X = ((((w.alloc (.cells #[.int .i64 i, .int .i64 s9, .slice a1 xs.length c1, .slice a2 ts.length c2] 49)).alloc (.cells #[.int .i64 5, .int .i64 cl, .int .i64 sv, .int .i64 nc, .slice (some ⟨g2, 0, none⟩) ys.length cap] 33)).alloc (.cells #[.int .i64 0, .int .i64 0, .slice none 0 0, .slice none 0 0] 49)).alloc (.cells #[.int .i64 0, .int .i64 0, .int .i64 0, .int .i64 0, .slice none 0 0] 33)) ∧ Hid (St B w [⟨w.heap.size, 49, #[.int .i64 i, .int .i64 s9, .slice a1 xs.length c1, .slice a2 ts.length c2]⟩, ⟨w.heap.size + 1, 33, #[.int .i64 5, .int .i64 cl, .int .i64 sv, .int .i64 nc, .slice (some ⟨g2, 0, none⟩) ys.length cap]⟩, ⟨w.heap.size + 1 + 1, 49, #[.int .i64 0, .int .i64 0, .slice none 0 0, .slice none 0 0]⟩, ⟨w.heap.size + 1 + 1 + 1, 33, #[.int .i64 0, .int .i64 0, .int .i64 0, .int .i64 0, .slice none 0 0]⟩] [⟨(selT 64), fun W => OwnS W B (.slice a1 xs.length c1) xs⟩, ⟨(selT 90), fun W => OwnN celC 90 W B (.slice a2 ts.length c2) ts⟩] X) := ⟨_, rfl, Hid.mk' (by
    have h := (St.alloc #[.int .i64 0, .int .i64 0, .int .i64 0, .int .i64 0, .slice none 0 0] 33 (St.alloc #[.int .i64 0, .int .i64 0, .slice none 0 0, .slice none 0 0] 49 (St.alloc #[.int .i64 5, .int .i64 cl, .int .i64 sv, .int .i64 nc, .slice (some ⟨g2, 0, none⟩) ys.length cap] 33 (St.alloc #[.int .i64 i, .int .i64 s9, .slice a1 xs.length c1, .slice a2 ts.length c2] 49 (St.add (selT 90) (fun W => OwnN celC 90 W B (.slice a2 ts.length c2) ts) (keep_own celC _ _ _ _) ho2 (St.add (selT 64) (fun W => OwnS W B (.slice a1 xs.length c1) xs) (keep_owns _ _ _) ho1 (St.newB hB)))))))
    try simp only [World.size_alloc] at h
    try simp only [World.size_setCell] at h
    exact h)⟩
  rw [← hX9]
  clear hX9
  clear ho1 ho2
  refine wp_region_walk [14, 15, 16, 17, 18, 19, 20, 21, 22, 23, 24, 25, 26, 27, 28, 29, 30, 31, 32, 33, 34, 35, 36, 37, 38, 39, 40, 41, 42, 43, 44, 45, 46, 47, 48, 49, 50, 51, 52, 53] (fun d s W => St B w [⟨w.heap.size, 49, #[.int .i64 i, .int .i64 s9, .slice a1 xs.length c1, .slice a2 ts.length c2]⟩, ⟨w.heap.size + 1, 33, #[.int .i64 5, .int .i64 cl, .int .i64 sv, .int .i64 nc, .slice (some ⟨g2, 0, none⟩) ys.length cap]⟩, ⟨w.heap.size + 1 + 1, 49, #[.int .i64 0, .int .i64 0, .slice none 0 0, .slice none 0 0]⟩, ⟨w.heap.size + 1 + 1 + 1, 33, #[.int .i64 0, .int .i64 0, .int .i64 0, .int .i64 0, .slice none 0 0]⟩] [⟨(selT 64), fun W => OwnS W B (.slice a1 xs.length c1) xs⟩, ⟨(selT 90), fun W => OwnN celC 90 W B (.slice a2 ts.length c2) ts⟩] W ∧ Looks [(0, 14, Value.pointer (some ⟨w.heap.size + 1, 0, none⟩)), (1, 15, Value.int .i64 5), (2, 16, .bool false), (3, 17, .bool false), (4, 18, Value.agg #[.int .i64 5, .int .i64 cl, .int .i64 sv, .int .i64 nc, .slice (some ⟨g2, 0, none⟩) ys.length cap]), (5, 19, .bool false), (6, 20, .bool true), (7, 21, .bool true), (8, 22, .bool true), (9, 23, undef), (10, 24, undef), (11, 25, undef), (12, 26, undef), (13, 27, undef), (14, 28, .bool true), (15, 29, .bool true), (16, 30, undef), (17, 31, undef), (18, 32, undef), (19, 33, undef), (20, 34, undef), (21, 35, undef), (22, 36, undef), (23, 37, undef), (24, 38, undef), (25, 39, undef), (26, 40, undef), (27, 41, undef), (28, 42, undef), (29, 43, .bool true), (30, 44, .bool true), (31, 45, undef), (32, 46, undef), (33, 47, undef), (34, 48, undef), (35, 49, undef), (36, 50, undef), (37, 51, undef), (38, 52, undef), (39, 53, .bool true)] d s) [0, 1, 2, 3, 4, 5, 6, 7, 8, 9, 10, 11, 12, 13, 14, 15, 16, 17, 18, 19, 20, 21, 22, 23, 24, 25, 26, 27, 28, 29, 30, 31, 32, 33, 34, 35, 36, 37, 38, 39] (by kernel_rfl) (by kernel_rfl) (by kernel_rfl) ?_ ?_ ?_
  · intro s
    exact ⟨HS1.out.drew, Looks.none _ _⟩
  · refine StepsR.cons (k := 0) [] (by kernel_rfl) ?_ (StepsR.cons (k := 1) [0] (by kernel_rfl) ?_ (StepsR.cons (k := 2) [1] (by kernel_rfl) ?_ (StepsR.cons (k := 3) [2] (by kernel_rfl) ?_ (StepsR.cons (k := 4) [3] (by kernel_rfl) ?_ (StepsR.cons (k := 5) [4, 3] (by kernel_rfl) ?_ (StepsR.cons (k := 6) [3, 5] (by kernel_rfl) ?_ (StepsR.cons (k := 7) [3, 6] (by kernel_rfl) ?_ (StepsR.cons (k := 8) [7] (by kernel_rfl) ?_ (StepsR.cons (k := 9) [8] (by kernel_rfl) ?_ (StepsR.cons (k := 10) [8] (by kernel_rfl) ?_ (StepsR.cons (k := 11) [8] (by kernel_rfl) ?_ (StepsR.cons (k := 12) [8] (by kernel_rfl) ?_ (StepsR.cons (k := 13) [8] (by kernel_rfl) ?_ (StepsR.cons (k := 14) [8, 13] (by kernel_rfl) ?_ (StepsR.cons (k := 15) [14] (by kernel_rfl) ?_ (StepsR.cons (k := 16) [15] (by kernel_rfl) ?_ (StepsR.cons (k := 17) [15] (by kernel_rfl) ?_ (StepsR.cons (k := 18) [15] (by kernel_rfl) ?_ (StepsR.cons (k := 19) [15] (by kernel_rfl) ?_ (StepsR.cons (k := 20) [15] (by kernel_rfl) ?_ (StepsR.cons (k := 21) [15] (by kernel_rfl) ?_ (StepsR.cons (k := 22) [15] (by kernel_rfl) ?_ (StepsR.cons (k := 23) [15] (by kernel_rfl) ?_ (StepsR.cons (k := 24) [15] (by kernel_rfl) ?_ (StepsR.cons (k := 25) [15] (by kernel_rfl) ?_ (StepsR.cons (k := 26) [15] (by kernel_rfl) ?_ (StepsR.cons (k := 27) [15] (by kernel_rfl) ?_ (StepsR.cons (k := 28) [15] (by kernel_rfl) ?_ (StepsR.cons (k := 29) [15, 28] (by kernel_rfl) ?_ (StepsR.cons (k := 30) [29] (by kernel_rfl) ?_ (StepsR.cons (k := 31) [30] (by kernel_rfl) ?_ (StepsR.cons (k := 32) [30] (by kernel_rfl) ?_ (StepsR.cons (k := 33) [30] (by kernel_rfl) ?_ (StepsR.cons (k := 34) [30] (by kernel_rfl) ?_ (StepsR.cons (k := 35) [30] (by kernel_rfl) ?_ (StepsR.cons (k := 36) [30] (by kernel_rfl) ?_ (StepsR.cons (k := 37) [30] (by kernel_rfl) ?_ (StepsR.cons (k := 38) [30] (by kernel_rfl) ?_ (StepsR.cons (k := 39) [30, 38] (by kernel_rfl) ?_ (StepsR.nil))))))))))))))))))))))))))))))))))))))))
    · intro d s w9 hd hA hC hF K hK
      have hB9 := hF.1.bel
      simp only [putL, putT, List.setIfInBounds_toArray, List.set_cons_zero, List.set_cons_succ]
      clear hB9
      as_aux_lemma =>
        go_simp
        refine hK.out (updS s 14 (Value.pointer (some ⟨w.heap.size + 1, 0, none⟩))) _ _ ?_ ⟨hF.1, hF.2.put 0 14 (Value.pointer (some ⟨w.heap.size + 1, 0, none⟩)) rfl (by simp)⟩
        simp only [putL, putT, List.setIfInBounds_toArray, List.set_cons_zero, List.set_cons_succ]; rfl
    · intro d s w9 hd hA hC hF K hK
      have hB9 := hF.1.bel
      simp only [putL, putT, List.setIfInBounds_toArray, List.set_cons_zero, List.set_cons_succ]
      clear hB9
      as_aux_lemma =>
        have eq0 : s 14 = Value.pointer (some ⟨w.heap.size + 1, 0, none⟩) := hF.2 (0, 14, Value.pointer (some ⟨w.heap.size + 1, 0, none⟩)) (by simp) (hA.1)
        rw [eq0]
        have p0 := hF.1.cell 1 rfl 0 (.int .i64 5) rfl
        go_simp
        clear p0
        refine hK.out (updS s 15 (Value.int .i64 5)) _ _ ?_ ⟨hF.1, hF.2.put 1 15 (Value.int .i64 5) rfl (by simp)⟩
        simp only [putL, putT, List.setIfInBounds_toArray, List.set_cons_zero, List.set_cons_succ]; rw [show updS s 15 (Value.int .i64 5) 14 = Value.pointer (some ⟨w.heap.size + 1, 0, none⟩) from eq0]; rfl
    · intro d s w9 hd hA hC hF K hK
      have hB9 := hF.1.bel
      simp only [putL, putT, List.setIfInBounds_toArray, List.set_cons_zero, List.set_cons_succ]
      clear hB9
      as_aux_lemma =>
        have eq1 : s 15 = Value.int .i64 5 := hF.2 (1, 15, Value.int .i64 5) (by simp) (hA.1)
        rw [eq1]
        go_simp
        refine hK.out (updS s 16 (.bool false)) _ _ ?_ ⟨hF.1, hF.2.put 2 16 (.bool false) rfl (by simp)⟩
        simp only [putL, putT, List.setIfInBounds_toArray, List.set_cons_zero, List.set_cons_succ]; rw [show updS s 16 (.bool false) 15 = Value.int .i64 5 from eq1]; rfl
    · intro d s w9 hd hA hC hF K hK
      have hB9 := hF.1.bel
      simp only [putL, putT, List.setIfInBounds_toArray, List.set_cons_zero, List.set_cons_succ]
      clear hB9
      as_aux_lemma =>
        have eq2 : s 16 = .bool false := hF.2 (2, 16, .bool false) (by simp) (hA.1)
        rw [eq2]
        go_simp
        refine hK.out (updS s 17 (.bool false)) _ _ ?_ ⟨hF.1, hF.2.put 3 17 (.bool false) rfl (by simp)⟩
        simp only [putL, putT, List.setIfInBounds_toArray, List.set_cons_zero, List.set_cons_succ]; rw [show updS s 17 (.bool false) 16 = .bool false from eq2]; rfl
    · intro d s w9 hd hA hC hF K hK
      have hB9 := hF.1.bel
      simp only [putL, putT, List.setIfInBounds_toArray, List.set_cons_zero, List.set_cons_succ]
      clear hB9
      as_aux_lemma =>
        have eq3 : s 17 = .bool false := hF.2 (3, 17, .bool false) (by simp) (hA.1)
        rw [eq3]
        have p0 := hF.1.cell 1 rfl 0 (.int .i64 5) rfl
        have p1 := hF.1.cell 1 rfl 1 (.int .i64 cl) rfl
        have p2 := hF.1.cell 1 rfl 2 (.int .i64 sv) rfl
        have p3 := hF.1.cell 1 rfl 3 (.int .i64 nc) rfl
        have p4 := hF.1.cell 1 rfl 4 (.slice (some ⟨g2, 0, none⟩) ys.length cap) rfl
        go_simp
        clear p0 p1 p2 p3 p4
        refine hK.out (updS s 18 (Value.agg #[.int .i64 5, .int .i64 cl, .int .i64 sv, .int .i64 nc, .slice (some ⟨g2, 0, none⟩) ys.length cap])) _ _ ?_ ⟨hF.1, hF.2.put 4 18 (Value.agg #[.int .i64 5, .int .i64 cl, .int .i64 sv, .int .i64 nc, .slice (some ⟨g2, 0, none⟩) ys.length cap]) rfl (by simp)⟩
        simp only [putL, putT, List.setIfInBounds_toArray, List.set_cons_zero, List.set_cons_succ]; rw [show updS s 18 (Value.agg #[.int .i64 5, .int .i64 cl, .int .i64 sv, .int .i64 nc, .slice (some ⟨g2, 0, none⟩) ys.length cap]) 17 = .bool false from eq3]; rfl
    · intro d s w9 hd hA hC hF K hK
      have hB9 := hF.1.bel
      simp only [putL, putT, List.setIfInBounds_toArray, List.set_cons_zero, List.set_cons_succ]
      clear hB9
      as_aux_lemma =>
        have eq4 : s 18 = Value.agg #[.int .i64 5, .int .i64 cl, .int .i64 sv, .int .i64 nc, .slice (some ⟨g2, 0, none⟩) ys.length cap] := hF.2 (4, 18, Value.agg #[.int .i64 5, .int .i64 cl, .int .i64 sv, .int .i64 nc, .slice (some ⟨g2, 0, none⟩) ys.length cap]) (by simp) (hA.1)
        have eq3 : s 17 = .bool false := hF.2 (3, 17, .bool false) (by simp) (hA.2.1)
        rw [eq4, eq3]
        go_simp
        refine (specMsg_any 5 cl sv nc _ _ ys _ (srow_base HH.out.1 HH.out.2 hF.1.bel) (by omega)).mono ?_
        rintro r w8 ⟨rfl, b9⟩
        rw [u4]
        go_simp
        refine hK.out (updS s 19 (.bool false)) _ _ ?_ ⟨St.grow b9 hF.1, hF.2.put 5 19 (.bool false) rfl (by simp)⟩
        simp only [putL, putT, List.setIfInBounds_toArray, List.set_cons_zero, List.set_cons_succ]
        rw [show updS s 19 (.bool false) 18 = Value.agg #[.int .i64 5, .int .i64 cl, .int .i64 sv, .int .i64 nc, .slice (some ⟨g2, 0, none⟩) ys.length cap] from eq4, show updS s 19 (.bool false) 17 = .bool false from eq3] <;> rfl
    · intro d s w9 hd hA hC hF K hK
      have hB9 := hF.1.bel
      simp only [putL, putT, List.setIfInBounds_toArray, List.set_cons_zero, List.set_cons_succ]
      clear hB9
      as_aux_lemma =>
        have eq3 : s 17 = .bool false := hF.2 (3, 17, .bool false) (by simp) (hA.1)
        have eq5 : s 19 = .bool false := hF.2 (5, 19, .bool false) (by simp) (hA.2.1)
        rw [eq3, eq5]
        go_simp
        refine hK.out (updS s 20 (.bool true)) _ _ ?_ ⟨hF.1, hF.2.put 6 20 (.bool true) rfl (by simp)⟩
        simp only [putL, putT, List.setIfInBounds_toArray, List.set_cons_zero, List.set_cons_succ]; rw [show updS s 20 (.bool true) 17 = .bool false from eq3, show updS s 20 (.bool true) 19 = .bool false from eq5]; rfl
    · intro d s w9 hd hA hC hF K hK
      have hB9 := hF.1.bel
      simp only [putL, putT, List.setIfInBounds_toArray, List.set_cons_zero, List.set_cons_succ]
      clear hB9
      as_aux_lemma =>
        have eq3 : s 17 = .bool false := hF.2 (3, 17, .bool false) (by simp) (hA.1)
        have eq6 : s 20 = .bool true := hF.2 (6, 20, .bool true) (by simp) (hA.2.1)
        rw [eq3, eq6]
        go_simp
        refine hK.out (updS s 21 (.bool true)) _ _ ?_ ⟨hF.1, hF.2.put 7 21 (.bool true) rfl (by simp)⟩
        simp only [putL, putT, List.setIfInBounds_toArray, List.set_cons_zero, List.set_cons_succ]; rw [show updS s 21 (.bool true) 17 = .bool false from eq3, show updS s 21 (.bool true) 20 = .bool true from eq6]; rfl
    · intro d s w9 hd hA hC hF K hK
      have hB9 := hF.1.bel
      simp only [putL, putT, List.setIfInBounds_toArray, List.set_cons_zero, List.set_cons_succ]
      clear hB9
      as_aux_lemma =>
        have eq7 : s 21 = .bool true := hF.2 (7, 21, .bool true) (by simp) (hA.1)
        rw [eq7]
        go_simp
        refine hK.out (updS s 22 (.bool true)) _ _ ?_ ⟨hF.1, hF.2.put 8 22 (.bool true) rfl (by simp)⟩
        simp only [putL, putT, List.setIfInBounds_toArray, List.set_cons_zero, List.set_cons_succ]; rw [show updS s 22 (.bool true) 21 = .bool true from eq7]; rfl
    · intro d s w9 hd hA hC hF K hK
      have hB9 := hF.1.bel
      simp only [putL, putT, List.setIfInBounds_toArray, List.set_cons_zero, List.set_cons_succ]
      clear hB9
      as_aux_lemma =>
        have eq8 : s 22 = .bool true := hF.2 (8, 22, .bool true) (by simp) (hA.1)
        rw [eq8]
        go_simp
        refine hK.out (updS s 23 (undef)) _ _ ?_ ⟨hF.1, hF.2.put 9 23 (undef) rfl (by simp)⟩
        simp only [putL, putT, List.setIfInBounds_toArray, List.set_cons_zero, List.set_cons_succ]; rw [show updS s 23 (undef) 22 = .bool true from eq8]; rfl
    · intro d s w9 hd hA hC hF K hK
      have hB9 := hF.1.bel
      simp only [putL, putT, List.setIfInBounds_toArray, List.set_cons_zero, List.set_cons_succ]
      clear hB9
      as_aux_lemma =>
        have eq8 : s 22 = .bool true := hF.2 (8, 22, .bool true) (by simp) (hA.1)
        rw [eq8]
        go_simp
        refine hK.out (updS s 24 (undef)) _ _ ?_ ⟨hF.1, hF.2.put 10 24 (undef) rfl (by simp)⟩
        simp only [putL, putT, List.setIfInBounds_toArray, List.set_cons_zero, List.set_cons_succ]; rw [show updS s 24 (undef) 22 = .bool true from eq8]; rfl
    · intro d s w9 hd hA hC hF K hK
      have hB9 := hF.1.bel
      simp only [putL, putT, List.setIfInBounds_toArray, List.set_cons_zero, List.set_cons_succ]
      clear hB9
      as_aux_lemma =>
        have eq8 : s 22 = .bool true := hF.2 (8, 22, .bool true) (by simp) (hA.1)
        rw [eq8]
        go_simp
        refine hK.out (updS s 25 (undef)) _ _ ?_ ⟨hF.1, hF.2.put 11 25 (undef) rfl (by simp)⟩
        simp only [putL, putT, List.setIfInBounds_toArray, List.set_cons_zero, List.set_cons_succ]; rw [show updS s 25 (undef) 22 = .bool true from eq8]; rfl
    · intro d s w9 hd hA hC hF K hK
      have hB9 := hF.1.bel
      simp only [putL, putT, List.setIfInBounds_toArray, List.set_cons_zero, List.set_cons_succ]
      clear hB9
      as_aux_lemma =>
        have eq8 : s 22 = .bool true := hF.2 (8, 22, .bool true) (by simp) (hA.1)
        rw [eq8]
        go_simp
        refine hK.out (updS s 26 (undef)) _ _ ?_ ⟨hF.1, hF.2.put 12 26 (undef) rfl (by simp)⟩
        simp only [putL, putT, List.setIfInBounds_toArray, List.set_cons_zero, List.set_cons_succ]; rw [show updS s 26 (undef) 22 = .bool true from eq8]; rfl
    · intro d s w9 hd hA hC hF K hK
      have hB9 := hF.1.bel
      simp only [putL, putT, List.setIfInBounds_toArray, List.set_cons_zero, List.set_cons_succ]
      clear hB9
      as_aux_lemma =>
        have eq8 : s 22 = .bool true := hF.2 (8, 22, .bool true) (by simp) (hA.1)
        rw [eq8]
        go_simp
        refine hK.out (updS s 27 (undef)) _ _ ?_ ⟨hF.1, hF.2.put 13 27 (undef) rfl (by simp)⟩
        simp only [putL, putT, List.setIfInBounds_toArray, List.set_cons_zero, List.set_cons_succ]; rw [show updS s 27 (undef) 22 = .bool true from eq8]; rfl
    · intro d s w9 hd hA hC hF K hK
      have hB9 := hF.1.bel
      simp only [putL, putT, List.setIfInBounds_toArray, List.set_cons_zero, List.set_cons_succ]
      clear hB9
      as_aux_lemma =>
        have eq8 : s 22 = .bool true := hF.2 (8, 22, .bool true) (by simp) (hA.1)
        rw [eq8]
        go_simp
        refine hK.out (updS s 28 (.bool true)) _ _ ?_ ⟨hF.1, hF.2.put 14 28 (.bool true) rfl (by simp)⟩
        simp only [putL, putT, List.setIfInBounds_toArray, List.set_cons_zero, List.set_cons_succ]; rw [show updS s 28 (.bool true) 22 = .bool true from eq8]; rfl
    · intro d s w9 hd hA hC hF K hK
      have hB9 := hF.1.bel
      simp only [putL, putT, List.setIfInBounds_toArray, List.set_cons_zero, List.set_cons_succ]
      clear hB9
      as_aux_lemma =>
        have eq14 : s 28 = .bool true := hF.2 (14, 28, .bool true) (by simp) (hA.1)
        rw [eq14]
        go_simp
        refine hK.out (updS s 29 (.bool true)) _ _ ?_ ⟨hF.1, hF.2.put 15 29 (.bool true) rfl (by simp)⟩
        simp only [putL, putT, List.setIfInBounds_toArray, List.set_cons_zero, List.set_cons_succ]; rw [show updS s 29 (.bool true) 28 = .bool true from eq14]; rfl
    · intro d s w9 hd hA hC hF K hK
      have hB9 := hF.1.bel
      simp only [putL, putT, List.setIfInBounds_toArray, List.set_cons_zero, List.set_cons_succ]
      clear hB9
      as_aux_lemma =>
        have eq15 : s 29 = .bool true := hF.2 (15, 29, .bool true) (by simp) (hA.1)
        rw [eq15]
        go_simp
        refine hK.out (updS s 30 (undef)) _ _ ?_ ⟨hF.1, hF.2.put 16 30 (undef) rfl (by simp)⟩
        simp only [putL, putT, List.setIfInBounds_toArray, List.set_cons_zero, List.set_cons_succ]; rw [show updS s 30 (undef) 29 = .bool true from eq15]; rfl
    · intro d s w9 hd hA hC hF K hK
      have hB9 := hF.1.bel
      simp only [putL, putT, List.setIfInBounds_toArray, List.set_cons_zero, List.set_cons_succ]
      clear hB9
      as_aux_lemma =>
        have eq15 : s 29 = .bool true := hF.2 (15, 29, .bool true) (by simp) (hA.1)
        rw [eq15]
        go_simp
        refine hK.out (updS s 31 (undef)) _ _ ?_ ⟨hF.1, hF.2.put 17 31 (undef) rfl (by simp)⟩
        simp only [putL, putT, List.setIfInBounds_toArray, List.set_cons_zero, List.set_cons_succ]; rw [show updS s 31 (undef) 29 = .bool true from eq15]; rfl
    · intro d s w9 hd hA hC hF K hK
      have hB9 := hF.1.bel
      simp only [putL, putT, List.setIfInBounds_toArray, List.set_cons_zero, List.set_cons_succ]
      clear hB9
      as_aux_lemma =>
        have eq15 : s 29 = .bool true := hF.2 (15, 29, .bool true) (by simp) (hA.1)
        rw [eq15]
        go_simp
        refine hK.out (updS s 32 (undef)) _ _ ?_ ⟨hF.1, hF.2.put 18 32 (undef) rfl (by simp)⟩
        simp only [putL, putT, List.setIfInBounds_toArray, List.set_cons_zero, List.set_cons_succ]; rw [show updS s 32 (undef) 29 = .bool true from eq15]; rfl
    · intro d s w9 hd hA hC hF K hK
      have hB9 := hF.1.bel
      simp only [putL, putT, List.setIfInBounds_toArray, List.set_cons_zero, List.set_cons_succ]
      clear hB9
      as_aux_lemma =>
        have eq15 : s 29 = .bool true := hF.2 (15, 29, .bool true) (by simp) (hA.1)
        rw [eq15]
        go_simp
        refine hK.out (updS s 33 (undef)) _ _ ?_ ⟨hF.1, hF.2.put 19 33 (undef) rfl (by simp)⟩
        simp only [putL, putT, List.setIfInBounds_toArray, List.set_cons_zero, List.set_cons_succ]; rw [show updS s 33 (undef) 29 = .bool true from eq15]; rfl
    · intro d s w9 hd hA hC hF K hK
      have hB9 := hF.1.bel
      simp only [putL, putT, List.setIfInBounds_toArray, List.set_cons_zero, List.set_cons_succ]
      clear hB9
      as_aux_lemma =>
        have eq15 : s 29 = .bool true := hF.2 (15, 29, .bool true) (by simp) (hA.1)
        rw [eq15]
        go_simp
        refine hK.out (updS s 34 (undef)) _ _ ?_ ⟨hF.1, hF.2.put 20 34 (undef) rfl (by simp)⟩
        simp only [putL, putT, List.setIfInBounds_toArray, List.set_cons_zero, List.set_cons_succ]; rw [show updS s 34 (undef) 29 = .bool true from eq15]; rfl
    · intro d s w9 hd hA hC hF K hK
      have hB9 := hF.1.bel
      simp only [putL, putT, List.setIfInBounds_toArray, List.set_cons_zero, List.set_cons_succ]
      clear hB9
      as_aux_lemma =>
        have eq15 : s 29 = .bool true := hF.2 (15, 29, .bool true) (by simp) (hA.1)
        rw [eq15]
        go_simp
        refine hK.out (updS s 35 (undef)) _ _ ?_ ⟨hF.1, hF.2.put 21 35 (undef) rfl (by simp)⟩
        simp only [putL, putT, List.setIfInBounds_toArray, List.set_cons_zero, List.set_cons_succ]; rw [show updS s 35 (undef) 29 = .bool true from eq15]; rfl
    · intro d s w9 hd hA hC hF K hK
      have hB9 := hF.1.bel
      simp only [putL, putT, List.setIfInBounds_toArray, List.set_cons_zero, List.set_cons_succ]
      clear hB9
      as_aux_lemma =>
        have eq15 : s 29 = .bool true := hF.2 (15, 29, .bool true) (by simp) (hA.1)
        rw [eq15]
        go_simp
        refine hK.out (updS s 36 (undef)) _ _ ?_ ⟨hF.1, hF.2.put 22 36 (undef) rfl (by simp)⟩
        simp only [putL, putT, List.setIfInBounds_toArray, List.set_cons_zero, List.set_cons_succ]; rw [show updS s 36 (undef) 29 = .bool true from eq15]; rfl
    · intro d s w9 hd hA hC hF K hK
      have hB9 := hF.1.bel
      simp only [putL, putT, List.setIfInBounds_toArray, List.set_cons_zero, List.set_cons_succ]
      clear hB9
      as_aux_lemma =>
        have eq15 : s 29 = .bool true := hF.2 (15, 29, .bool true) (by simp) (hA.1)
        rw [eq15]
        go_simp
        refine hK.out (updS s 37 (undef)) _ _ ?_ ⟨hF.1, hF.2.put 23 37 (undef) rfl (by simp)⟩
        simp only [putL, putT, List.setIfInBounds_toArray, List.set_cons_zero, List.set_cons_succ]; rw [show updS s 37 (undef) 29 = .bool true from eq15]; rfl
    · intro d s w9 hd hA hC hF K hK
      have hB9 := hF.1.bel
      simp only [putL, putT, List.setIfInBounds_toArray, List.set_cons_zero, List.set_cons_succ]
      clear hB9
      as_aux_lemma =>
        have eq15 : s 29 = .bool true := hF.2 (15, 29, .bool true) (by simp) (hA.1)
        rw [eq15]
        go_simp
        refine hK.out (updS s 38 (undef)) _ _ ?_ ⟨hF.1, hF.2.put 24 38 (undef) rfl (by simp)⟩
        simp only [putL, putT, List.setIfInBounds_toArray, List.set_cons_zero, List.set_cons_succ]; rw [show updS s 38 (undef) 29 = .bool true from eq15]; rfl
    · intro d s w9 hd hA hC hF K hK
      have hB9 := hF.1.bel
      simp only [putL, putT, List.setIfInBounds_toArray, List.set_cons_zero, List.set_cons_succ]
      clear hB9
      as_aux_lemma =>
        have eq15 : s 29 = .bool true := hF.2 (15, 29, .bool true) (by simp) (hA.1)
        rw [eq15]
        go_simp
        refine hK.out (updS s 39 (undef)) _ _ ?_ ⟨hF.1, hF.2.put 25 39 (undef) rfl (by simp)⟩
        simp only [putL, putT, List.setIfInBounds_toArray, List.set_cons_zero, List.set_cons_succ]; rw [show updS s 39 (undef) 29 = .bool true from eq15]; rfl
    · intro d s w9 hd hA hC hF K hK
      have hB9 := hF.1.bel
      simp only [putL, putT, List.setIfInBounds_toArray, List.set_cons_zero, List.set_cons_succ]
      clear hB9
      as_aux_lemma =>
        have eq15 : s 29 = .bool true := hF.2 (15, 29, .bool true) (by simp) (hA.1)
        rw [eq15]
        go_simp
        refine hK.out (updS s 40 (undef)) _ _ ?_ ⟨hF.1, hF.2.put 26 40 (undef) rfl (by simp)⟩
        simp only [putL, putT, List.setIfInBounds_toArray, List.set_cons_zero, List.set_cons_succ]; rw [show updS s 40 (undef) 29 = .bool true from eq15]; rfl
    · intro d s w9 hd hA hC hF K hK
      have hB9 := hF.1.bel
      simp only [putL, putT, List.setIfInBounds_toArray, List.set_cons_zero, List.set_cons_succ]
      clear hB9
      as_aux_lemma =>
        have eq15 : s 29 = .bool true := hF.2 (15, 29, .bool true) (by simp) (hA.1)
        rw [eq15]
        go_simp
        refine hK.out (updS s 41 (undef)) _ _ ?_ ⟨hF.1, hF.2.put 27 41 (undef) rfl (by simp)⟩
        simp only [putL, putT, List.setIfInBounds_toArray, List.set_cons_zero, List.set_cons_succ]; rw [show updS s 41 (undef) 29 = .bool true from eq15]; rfl
    · intro d s w9 hd hA hC hF K hK
      have hB9 := hF.1.bel
      simp only [putL, putT, List.setIfInBounds_toArray, List.set_cons_zero, List.set_cons_succ]
      clear hB9
      as_aux_lemma =>
        have eq15 : s 29 = .bool true := hF.2 (15, 29, .bool true) (by simp) (hA.1)
        rw [eq15]
        go_simp
        refine hK.out (updS s 42 (undef)) _ _ ?_ ⟨hF.1, hF.2.put 28 42 (undef) rfl (by simp)⟩
        simp only [putL, putT, List.setIfInBounds_toArray, List.set_cons_zero, List.set_cons_succ]; rw [show updS s 42 (undef) 29 = .bool true from eq15]; rfl
    · intro d s w9 hd hA hC hF K hK
      have hB9 := hF.1.bel
      simp only [putL, putT, List.setIfInBounds_toArray, List.set_cons_zero, List.set_cons_succ]
      clear hB9
      as_aux_lemma =>
        have eq15 : s 29 = .bool true := hF.2 (15, 29, .bool true) (by simp) (hA.1)
        rw [eq15]
        go_simp
        refine hK.out (updS s 43 (.bool true)) _ _ ?_ ⟨hF.1, hF.2.put 29 43 (.bool true) rfl (by simp)⟩
        simp only [putL, putT, List.setIfInBounds_toArray, List.set_cons_zero, List.set_cons_succ]; rw [show updS s 43 (.bool true) 29 = .bool true from eq15]; rfl
    · intro d s w9 hd hA hC hF K hK
      have hB9 := hF.1.bel
      simp only [putL, putT, List.setIfInBounds_toArray, List.set_cons_zero, List.set_cons_succ]
      clear hB9
      as_aux_lemma =>
        have eq29 : s 43 = .bool true := hF.2 (29, 43, .bool true) (by simp) (hA.1)
        rw [eq29]
        go_simp
        refine hK.out (updS s 44 (.bool true)) _ _ ?_ ⟨hF.1, hF.2.put 30 44 (.bool true) rfl (by simp)⟩
        simp only [putL, putT, List.setIfInBounds_toArray, List.set_cons_zero, List.set_cons_succ]; rw [show updS s 44 (.bool true) 43 = .bool true from eq29]; rfl
    · intro d s w9 hd hA hC hF K hK
      have hB9 := hF.1.bel
      simp only [putL, putT, List.setIfInBounds_toArray, List.set_cons_zero, List.set_cons_succ]
      clear hB9
      as_aux_lemma =>
        have eq30 : s 44 = .bool true := hF.2 (30, 44, .bool true) (by simp) (hA.1)
        rw [eq30]
        go_simp
        refine hK.out (updS s 45 (undef)) _ _ ?_ ⟨hF.1, hF.2.put 31 45 (undef) rfl (by simp)⟩
        simp only [putL, putT, List.setIfInBounds_toArray, List.set_cons_zero, List.set_cons_succ]; rw [show updS s 45 (undef) 44 = .bool true from eq30]; rfl
    · intro d s w9 hd hA hC hF K hK
      have hB9 := hF.1.bel
      simp only [putL, putT, List.setIfInBounds_toArray, List.set_cons_zero, List.set_cons_succ]
      clear hB9
      as_aux_lemma =>
        have eq30 : s 44 = .bool true := hF.2 (30, 44, .bool true) (by simp) (hA.1)
        rw [eq30]
        go_simp
        refine hK.out (updS s 46 (undef)) _ _ ?_ ⟨hF.1, hF.2.put 32 46 (undef) rfl (by simp)⟩
        simp only [putL, putT, List.setIfInBounds_toArray, List.set_cons_zero, List.set_cons_succ]; rw [show updS s 46 (undef) 44 = .bool true from eq30]; rfl
    · intro d s w9 hd hA hC hF K hK
      have hB9 := hF.1.bel
      simp only [putL, putT, List.setIfInBounds_toArray, List.set_cons_zero, List.set_cons_succ]
      clear hB9
      as_aux_lemma =>
        have eq30 : s 44 = .bool true := hF.2 (30, 44, .bool true) (by simp) (hA.1)
        rw [eq30]
        go_simp
        refine hK.out (updS s 47 (undef)) _ _ ?_ ⟨hF.1, hF.2.put 33 47 (undef) rfl (by simp)⟩
        simp only [putL, putT, List.setIfInBounds_toArray, List.set_cons_zero, List.set_cons_succ]; rw [show updS s 47 (undef) 44 = .bool true from eq30]; rfl
    · intro d s w9 hd hA hC hF K hK
      have hB9 := hF.1.bel
      simp only [putL, putT, List.setIfInBounds_toArray, List.set_cons_zero, List.set_cons_succ]
      clear hB9
      as_aux_lemma =>
        have eq30 : s 44 = .bool true := hF.2 (30, 44, .bool true) (by simp) (hA.1)
        rw [eq30]
        go_simp
        refine hK.out (updS s 48 (undef)) _ _ ?_ ⟨hF.1, hF.2.put 34 48 (undef) rfl (by simp)⟩
        simp only [putL, putT, List.setIfInBounds_toArray, List.set_cons_zero, List.set_cons_succ]; rw [show updS s 48 (undef) 44 = .bool true from eq30]; rfl
    · intro d s w9 hd hA hC hF K hK
      have hB9 := hF.1.bel
      simp only [putL, putT, List.setIfInBounds_toArray, List.set_cons_zero, List.set_cons_succ]
      clear hB9
      as_aux_lemma =>
        have eq30 : s 44 = .bool true := hF.2 (30, 44, .bool true) (by simp) (hA.1)
        rw [eq30]
        go_simp
        refine hK.out (updS s 49 (undef)) _ _ ?_ ⟨hF.1, hF.2.put 35 49 (undef) rfl (by simp)⟩
        simp only [putL, putT, List.setIfInBounds_toArray, List.set_cons_zero, List.set_cons_succ]; rw [show updS s 49 (undef) 44 = .bool true from eq30]; rfl
    · intro d s w9 hd hA hC hF K hK
      have hB9 := hF.1.bel
      simp only [putL, putT, List.setIfInBounds_toArray, List.set_cons_zero, List.set_cons_succ]
      clear hB9
      as_aux_lemma =>
        have eq30 : s 44 = .bool true := hF.2 (30, 44, .bool true) (by simp) (hA.1)
        rw [eq30]
        go_simp
        refine hK.out (updS s 50 (undef)) _ _ ?_ ⟨hF.1, hF.2.put 36 50 (undef) rfl (by simp)⟩
        simp only [putL, putT, List.setIfInBounds_toArray, List.set_cons_zero, List.set_cons_succ]; rw [show updS s 50 (undef) 44 = .bool true from eq30]; rfl
    · intro d s w9 hd hA hC hF K hK
      have hB9 := hF.1.bel
      simp only [putL, putT, List.setIfInBounds_toArray, List.set_cons_zero, List.set_cons_succ]
      clear hB9
      as_aux_lemma =>
        have eq30 : s 44 = .bool true := hF.2 (30, 44, .bool true) (by simp) (hA.1)
        rw [eq30]
        go_simp
        refine hK.out (updS s 51 (undef)) _ _ ?_ ⟨hF.1, hF.2.put 37 51 (undef) rfl (by simp)⟩
        simp only [putL, putT, List.setIfInBounds_toArray, List.set_cons_zero, List.set_cons_succ]; rw [show updS s 51 (undef) 44 = .bool true from eq30]; rfl
    · intro d s w9 hd hA hC hF K hK
      have hB9 := hF.1.bel
      simp only [putL, putT, List.setIfInBounds_toArray, List.set_cons_zero, List.set_cons_succ]
      clear hB9
      as_aux_lemma =>
        have eq30 : s 44 = .bool true := hF.2 (30, 44, .bool true) (by simp) (hA.1)
        rw [eq30]
        go_simp
        refine hK.out (updS s 52 (undef)) _ _ ?_ ⟨hF.1, hF.2.put 38 52 (undef) rfl (by simp)⟩
        simp only [putL, putT, List.setIfInBounds_toArray, List.set_cons_zero, List.set_cons_succ]; rw [show updS s 52 (undef) 44 = .bool true from eq30]; rfl
    · intro d s w9 hd hA hC hF K hK
      have hB9 := hF.1.bel
      simp only [putL, putT, List.setIfInBounds_toArray, List.set_cons_zero, List.set_cons_succ]
      clear hB9
      as_aux_lemma =>
        have eq30 : s 44 = .bool true := hF.2 (30, 44, .bool true) (by simp) (hA.1)
        rw [eq30]
        go_simp
        refine hK.out (updS s 53 (.bool true)) _ _ ?_ ⟨hF.1, hF.2.put 39 53 (.bool true) rfl (by simp)⟩
        simp only [putL, putT, List.setIfInBounds_toArray, List.set_cons_zero, List.set_cons_succ]; rw [show updS s 53 (.bool true) 44 = .bool true from eq30]; rfl
  · intro d s w3 hA hF
    have hS := hF.1
    have eq39 : s 53 = .bool true := hF.2 (39, 53, .bool true) (by simp) (hA.2.2.2.2.2.2.2.2.2.2.2.2.2.2.2.2.2.2.2.2.2.2.2.2.2.2.2.2.2.2.2.2.2.2.2.2.2.2.2.1)
    have HS2 : Hid (St B w [⟨w.heap.size, 49, #[.int .i64 i, .int .i64 s9, .slice a1 xs.length c1, .slice a2 ts.length c2]⟩, ⟨w.heap.size + 1, 33, #[.int .i64 5, .int .i64 cl, .int .i64 sv, .int .i64 nc, .slice (some ⟨g2, 0, none⟩) ys.length cap]⟩, ⟨w.heap.size + 1 + 1, 49, #[.int .i64 0, .int .i64 0, .slice none 0 0, .slice none 0 0]⟩, ⟨w.heap.size + 1 + 1 + 1, 33, #[.int .i64 0, .int .i64 0, .int .i64 0, .int .i64 0, .slice none 0 0]⟩] [⟨(selT 64), fun W => OwnS W B (.slice a1 xs.length c1) xs⟩, ⟨(selT 90), fun W => OwnN celC 90 W B (.slice a2 ts.length c2) ts⟩] w3) := hS
    clear hS hF hA HS1
    simp only [putL, putT, List.setIfInBounds_toArray, List.set_cons_zero, List.set_cons_succ]
    rw [eq39]
    clear eq39
    have EA : Hid (askH i s9 xs ts 5 cl sv nc ys now = keepH i s9 xs ts) := Hid.mk' (by unfold askH; rw [if_neg (by simp [u4])])
    have lt0 : w.heap.size < w3.heap.size := (HS2.out.lt 0 rfl).2
    have lt1 : w.heap.size + 1 < w3.heap.size := (HS2.out.lt 1 rfl).2
    have lt2 : w.heap.size + 1 + 1 < w3.heap.size := (HS2.out.lt 2 rfl).2
    have lt3 : w.heap.size + 1 + 1 + 1 < w3.heap.size := (HS2.out.lt 3 rfl).2
    have p0 := HS2.out.cell 0 rfl 0 (.int .i64 i) rfl
    have p1 := HS2.out.cell 0 rfl 1 (.int .i64 s9) rfl
    have p2 := HS2.out.cell 0 rfl 2 (.slice a1 xs.length c1) rfl
    have p3 := HS2.out.cell 0 rfl 3 (.slice a2 ts.length c2) rfl
    have z0 := HS2.out.cell 2 rfl 0 (.int .i64 0) rfl
    have zf0 := HS2.out.fro 2 rfl 0
    have z1 := HS2.out.cell 2 rfl 1 (.int .i64 0) rfl
    have zf1 := HS2.out.fro 2 rfl 1
    have z2 := HS2.out.cell 2 rfl 2 (.slice none 0 0) rfl
    have zf2 := HS2.out.fro 2 rfl 2
    have z3 := HS2.out.cell 2 rfl 3 (.slice none 0 0) rfl
    have zf3 := HS2.out.fro 2 rfl 3
    have y0 := HS2.out.cell 3 rfl 0 (.int .i64 0) rfl
    have yf0 := HS2.out.fro 3 rfl 0
    have y1 := HS2.out.cell 3 rfl 1 (.int .i64 0) rfl
    have yf1 := HS2.out.fro 3 rfl 1
    have y2 := HS2.out.cell 3 rfl 2 (.int .i64 0) rfl
    have yf2 := HS2.out.fro 3 rfl 2
    have y3 := HS2.out.cell 3 rfl 3 (.int .i64 0) rfl
    have yf3 := HS2.out.fro 3 rfl 3
    have y4 := HS2.out.cell 3 rfl 4 (.slice none 0 0) rfl
    have yf4 := HS2.out.fro 3 rfl 4
    go_wp2_with fail
    clear lt0 lt1 lt2 lt3 p0 p1 p2 p3 z0 zf0 z1 zf1 z2 zf2 z3 zf3 y0 yf0 y1 yf1 y2 yf2 y3 yf3 y4 yf4
    obtain ⟨V, hX9, HS3⟩ : ∃ X, X = (((((((((w3.setCell ⟨w.heap.size + 1 + 1, 0, none⟩ (.int .i64 i)).setCell ⟨w.heap.size + 1 + 1, 1, none⟩ (.int .i64 s9)).setCell ⟨w.heap.size + 1 + 1, 2, none⟩ (.slice a1 xs.length c1)).setCell ⟨w.heap.size + 1 + 1, 3, none⟩ (.slice a2 ts.length c2)).setCell ⟨w.heap.size + 1 + 1 + 1, 0, none⟩ (.int .i64 0)).setCell ⟨w.heap.size + 1 + 1 + 1, 1, none⟩ (.int .i64 0)).setCell ⟨w.heap.size + 1 + 1 + 1, 2, none⟩ (.int .i64 0)).setCell ⟨w.heap.size + 1 + 1 + 1, 3, none⟩ (.int .i64 0)).setCell ⟨w.heap.size + 1 + 1 + 1, 4, none⟩ (.slice none 0 0)) ∧ Hid (St B w [⟨w.heap.size, 49, #[.int .i64 i, .int .i64 s9, .slice a1 xs.length c1, .slice a2 ts.length c2]⟩, ⟨w.heap.size + 1, 33, #[.int .i64 5, .int .i64 cl, .int .i64 sv, .int .i64 nc, .slice (some ⟨g2, 0, none⟩) ys.length cap]⟩, ⟨w.heap.size + 1 + 1, 49, #[.int .i64 i, .int .i64 s9, .slice a1 xs.length c1, .slice a2 ts.length c2]⟩, ⟨w.heap.size + 1 + 1 + 1, 33, #[.int .i64 0, .int .i64 0, .int .i64 0, .int .i64 0, .slice none 0 0]⟩] [⟨(selT 64), fun W => OwnS W B (.slice a1 xs.length c1) xs⟩, ⟨(selT 90), fun W => OwnN celC 90 W B (.slice a2 ts.length c2) ts⟩] X) := ⟨_, rfl, Hid.mk' (by
      have h := (St.put5 3 (St.put4 2 HS2.out rfl rfl (.int .i64 i) (.int .i64 s9) (.slice a1 xs.length c1) (.slice a2 ts.length c2)) rfl rfl (.int .i64 0) (.int .i64 0) (.int .i64 0) (.int .i64 0) (.slice none 0 0))
      try simp only [World.size_alloc] at h
      try simp only [World.size_setCell] at h
      exact h)⟩
    rw [← hX9]
    clear hX9
    clear HS2
    have y0 := HS3.out.cell 2 rfl 0 (.int .i64 i) rfl
    have y1 := HS3.out.cell 2 rfl 1 (.int .i64 s9) rfl
    have y2 := HS3.out.cell 2 rfl 2 (.slice a1 xs.length c1) rfl
    have y3 := HS3.out.cell 2 rfl 3 (.slice a2 ts.length c2) rfl
    have z0 := HS3.out.cell 3 rfl 0 (.int .i64 0) rfl
    have z1 := HS3.out.cell 3 rfl 1 (.int .i64 0) rfl
    have z2 := HS3.out.cell 3 rfl 2 (.int .i64 0) rfl
    have z3 := HS3.out.cell 3 rfl 3 (.int .i64 0) rfl
    have z4 := HS3.out.cell 3 rfl 4 (.slice none 0 0) rfl
    refine bodyPost_ret (v := .tuple #[.agg #[.int .i64 i, .int .i64 s9, .slice a1 xs.length c1, .slice a2 ts.length c2], .agg #[.int .i64 0, .int .i64 0, .int .i64 0, .int .i64 0, .slice none 0 0], .bool false]) (by simp [results, Tryd.results42, go_sem, *]) rfl ?_
    rw [EA.out]
    exact ⟨⟨a1, c1, a2, c2, none, 0, V.heap.size, rfl, HS3.out.of 0 rfl, HS3.out.of 1 rfl, OwnS.nil _ _, HS3.out.sz, fun k hk => (OwnS.low (HS3.out.of 0 rfl) k hk).2⟩, HS3.out.bel⟩

end Go.Proofs.YtghajmfjekfdpaaDoor

namespace Go.Proofs.YtghajmfjekfdpaaDoor
open Go.RowKit
attribute [local go_sem ↓] Go.wp_at_zero Go.wp_at_succ

set_option maxHeartbeats 8000000 in
set_option maxRecDepth 100000 in
theorem l13Hear2 (B : Nat) (i s9 : Int) (a1 a2 : Option Addr) (c1 c2 : Nat) (xs : List Sl) (ts : List Ca) (cl sv nc : Int) (g2 : Nat) (cap : Nat) (ys : List Sl) (now : Int) (w : World) (hB : B ≤ w.heap.size) (ho1 : OwnS w B (.slice a1 xs.length c1) xs) (ho2 : OwnN celC 90 w B (.slice a2 ts.length c2) ts) (h : SRow w (some ⟨g2, 0, none⟩) ys) (hgB : ys ≠ [] → g2 < B) (_hx : xs.length ≤ 1048576) (_ht : ts.length ≤ 1048576) (hy : ys.length ≤ 1048576) (hn : 0 ≤ now ∧ now ≤ 100) (ha : ∀ u ∈ xs, 0 ≤ u.b ∧ u.b ≤ 100) (u4 : msgB 5 cl sv nc ys = true) (u5 : ¬ sv = i) :
    Calls Tryd.prog 42 #[.agg #[.int .i64 i, .int .i64 s9, .slice a1 xs.length c1, .slice a2 ts.length c2], .agg #[.int .i64 5, .int .i64 cl, .int .i64 sv, .int .i64 nc, .slice (some ⟨g2, 0, none⟩) ys.length cap], .int .i64 now] w fun r w' => HAns B w' (askH i s9 xs ts 5 cl sv nc ys now) r ∧ Below B w w' := by
  have HH : Hid (SRow w (some ⟨g2, 0, none⟩) ys ∧ (ys ≠ [] → g2 < B)) := ⟨h, hgB⟩
  clear h hgB
  have HL : Hid (0 ≤ now ∧ now ≤ 100 ∧ ∀ u ∈ xs, 0 ≤ u.b ∧ u.b ≤ 100) := ⟨hn.1, hn.2, ha⟩
  clear hn ha
  go_enter Tryd.func42, Tryd.ntmps42
  go_wp2_with fail
  obtain ⟨w1, hX9, HS1⟩ : ∃ X, X = ((((w.alloc (.cells #[.int .i64 i, .int .i64 s9, .slice a1 xs.length c1, .slice a2 ts.length c2] 49)).alloc (.cells #[.int .i64 5, .int .i64 cl, .int .i64 sv, .int .i64 nc, .slice (some ⟨g2, 0, none⟩) ys.length cap] 33)).alloc (.cells #[.int .i64 0, .int .i64 0, .slice none 0 0, .slice none 0 0] 49)).alloc (.cells #[.int .i64 0, .int .i64 0, .int .i64 0, .int .i64 0, .slice none 0 0] 33)) ∧ Hid (St B w [⟨w.heap.size, 49, #[.int .i64 i, .int .i64 s9, .slice a1 xs.length c1, .slice a2 ts.length c2]⟩, ⟨w.heap.size + 1, 33, #[.int .i64 5, .int .i64 cl, .int .i64 sv, .int .i64 nc, .slice (some ⟨g2, 0, none⟩) ys.length cap]⟩, ⟨w.heap.size + 1 + 1, 49, #[.int .i64 0, .int .i64 0, .slice none 0 0, .slice none 0 0]⟩, ⟨w.heap.size + 1 + 1 + 1, 33, #[.int .i64 0, .int .i64 0, .int .i64 0, .int .i64 0, .slice none 0 0]⟩] [⟨(selT 64), fun W => OwnS W B (.slice a1 xs.length c1) xs⟩, ⟨(selT 90), fun W => OwnN celC 90 W B (.slice a2 ts.length c2) ts⟩] X) := ⟨_, rfl, Hid.mk' (by
    have h := (St.alloc #[.int .i64 0, .int .i64 0, .int .i64 0, .int .i64 0, .slice none 0 0] 33 (St.alloc #[.int .i64 0, .int .i64 0, .slice none 0 0, .slice none 0 0] 49 (St.alloc #[.int .i64 5, .int .i64 cl, .int .i64 sv, .int .i64 nc, .slice (some ⟨g2, 0, none⟩) ys.length cap] 33 (St.alloc #[.int .i64 i, .int .i64 s9, .slice a1 xs.length c1, .slice a2 ts.length c2] 49 (St.add (selT 90) (fun W => OwnN celC 90 W B (.slice a2 ts.length c2) ts) (keep_own celC _ _ _ _) ho2 (St.add (selT 64) (fun W => OwnS W B (.slice a1 xs.length c1) xs) (keep_owns _ _ _) ho1 (St.newB hB)))))))
    try simp only [World.size_alloc] at h
    try simp only [World.size_setCell] at h
    exact h)⟩
  rw [← hX9]
  clear hX9
  clear ho1 ho2
  refine wp_region_walk [14, 15, 16, 17, 18, 19, 20, 21, 22, 23, 24, 25, 26, 27, 28, 29, 30, 31, 32, 33, 34, 35, 36, 37, 38, 39, 40, 41, 42, 43, 44, 45, 46, 47, 48, 49, 50, 51, 52, 53] (fun d s W => St B w [⟨w.heap.size, 49, #[.int .i64 i, .int .i64 s9, .slice a1 xs.length c1, .slice a2 ts.length c2]⟩, ⟨w.heap.size + 1, 33, #[.int .i64 5, .int .i64 cl, .int .i64 sv, .int .i64 nc, .slice (some ⟨g2, 0, none⟩) ys.length cap]⟩, ⟨w.heap.size + 1 + 1, 49, #[.int .i64 0, .int .i64 0, .slice none 0 0, .slice none 0 0]⟩, ⟨w.heap.size + 1 + 1 + 1, 33, #[.int .i64 0, .int .i64 0, .int .i64 0, .int .i64 0, .slice none 0 0]⟩] [⟨(selT 64), fun W => OwnS W B (.slice a1 xs.length c1) xs⟩, ⟨(selT 90), fun W => OwnN celC 90 W B (.slice a2 ts.length c2) ts⟩] W ∧ Looks [(0, 14, Value.pointer (some ⟨w.heap.size + 1, 0, none⟩)), (1, 15, Value.int .i64 5), (2, 16, .bool false), (3, 17, .bool false), (4, 18, Value.agg #[.int .i64 5, .int .i64 cl, .int .i64 sv, .int .i64 nc, .slice (some ⟨g2, 0, none⟩) ys.length cap]), (5, 19, .bool true), (6, 20, .bool false), (7, 21, .bool false), (8, 22, .bool false), (9, 23, Value.pointer (some ⟨w.heap.size + 1, 2, none⟩)), (10, 24, Value.int .i64 sv), (11, 25, Value.pointer (some ⟨w.heap.size, 0, none⟩)), (12, 26, Value.int .i64 i), (13, 27, .bool true), (14, 28, .bool true), (15, 29, .bool true), (16, 30, undef), (17, 31, undef), (18, 32, undef), (19, 33, undef), (20, 34, undef), (21, 35, undef), (22, 36, undef), (23, 37, undef), (24, 38, undef), (25, 39, undef), (26, 40, undef), (27, 41, undef), (28, 42, undef), (29, 43, .bool true), (30, 44, .bool true), (31, 45, undef), (32, 46, undef), (33, 47, undef), (34, 48, undef), (35, 49, undef), (36, 50, undef), (37, 51, undef), (38, 52, undef), (39, 53, .bool true)] d s) [0, 1, 2, 3, 4, 5, 6, 7, 8, 9, 10, 11, 12, 13, 14, 15, 16, 17, 18, 19, 20, 21, 22, 23, 24, 25, 26, 27, 28, 29, 30, 31, 32, 33, 34, 35, 36, 37, 38, 39] (by kernel_rfl) (by kernel_rfl) (by kernel_rfl) ?_ ?_ ?_
  · intro s
    exact ⟨HS1.out.drew, Looks.none _ _⟩
  · refine StepsR.cons (k := 0) [] (by kernel_rfl) ?_ (StepsR.cons (k := 1) [0] (by kernel_rfl) ?_ (StepsR.cons (k := 2) [1] (by kernel_rfl) ?_ (StepsR.cons (k := 3) [2] (by kernel_rfl) ?_ (StepsR.cons (k := 4) [3] (by kernel_rfl) ?_ (StepsR.cons (k := 5) [4, 3] (by kernel_rfl) ?_ (StepsR.cons (k := 6) [3, 5] (by kernel_rfl) ?_ (StepsR.cons (k := 7) [3, 6] (by kernel_rfl) ?_ (StepsR.cons (k := 8) [7] (by kernel_rfl) ?_ (StepsR.cons (k := 9) [8] (by kernel_rfl) ?_ (StepsR.cons (k := 10) [8, 9] (by kernel_rfl) ?_ (StepsR.cons (k := 11) [8] (by kernel_rfl) ?_ (StepsR.cons (k := 12) [8, 11] (by kernel_rfl) ?_ (StepsR.cons (k := 13) [8, 10, 12] (by kernel_rfl) ?_ (StepsR.cons (k := 14) [8, 13] (by kernel_rfl) ?_ (StepsR.cons (k := 15) [14] (by kernel_rfl) ?_ (StepsR.cons (k := 16) [15] (by kernel_rfl) ?_ (StepsR.cons (k := 17) [15] (by kernel_rfl) ?_ (StepsR.cons (k := 18) [15] (by kernel_rfl) ?_ (StepsR.cons (k := 19) [15] (by kernel_rfl) ?_ (StepsR.cons (k := 20) [15] (by kernel_rfl) ?_ (StepsR.cons (k := 21) [15] (by kernel_rfl) ?_ (StepsR.cons (k := 22) [15] (by kernel_rfl) ?_ (StepsR.cons (k := 23) [15] (by kernel_rfl) ?_ (StepsR.cons (k := 24) [15] (by kernel_rfl) ?_ (StepsR.cons (k := 25) [15] (by kernel_rfl) ?_ (StepsR.cons (k := 26) [15] (by kernel_rfl) ?_ (StepsR.cons (k := 27) [15] (by kernel_rfl) ?_ (StepsR.cons (k := 28) [15] (by kernel_rfl) ?_ (StepsR.cons (k := 29) [15, 28] (by kernel_rfl) ?_ (StepsR.cons (k := 30) [29] (by kernel_rfl) ?_ (StepsR.cons (k := 31) [30] (by kernel_rfl) ?_ (StepsR.cons (k := 32) [30] (by kernel_rfl) ?_ (StepsR.cons (k := 33) [30] (by kernel_rfl) ?_ (StepsR.cons (k := 34) [30] (by kernel_rfl) ?_ (StepsR.cons (k := 35) [30] (by kernel_rfl) ?_ (StepsR.cons (k := 36) [30] (by kernel_rfl) ?_ (StepsR.cons (k := 37) [30] (by kernel_rfl) ?_ (StepsR.cons (k := 38) [30] (by kernel_rfl) ?_ (StepsR.cons (k := 39) [30, 38] (by kernel_rfl) ?_ (StepsR.nil))))))))))))))))))))))))))))))))))))))))
    · intro d s w9 hd hA hC hF K hK
      have hB9 := hF.1.bel
      simp only [putL, putT, List.setIfInBounds_toArray, List.set_cons_zero, List.set_cons_succ]
      clear hB9
      as_aux_lemma =>
        go_simp
        refine hK.out (updS s 14 (Value.pointer (some ⟨w.heap.size + 1, 0, none⟩))) _ _ ?_ ⟨hF.1, hF.2.put 0 14 (Value.pointer (some ⟨w.heap.size + 1, 0, none⟩)) rfl (by simp)⟩
        simp only [putL, putT, List.setIfInBounds_toArray, List.set_cons_zero, List.set_cons_succ]; rfl
    · intro d s w9 hd hA hC hF K hK
      have hB9 := hF.1.bel
      simp only [putL, putT, List.setIfInBounds_toArray, List.set_cons_zero, List.set_cons_succ]
      clear hB9
      as_aux_lemma =>
        have eq0 : s 14 = Value.pointer (some ⟨w.heap.size + 1, 0, none⟩) := hF.2 (0, 14, Value.pointer (some ⟨w.heap.size + 1, 0, none⟩)) (by simp) (hA.1)
        rw [eq0]
        have p0 := hF.1.cell 1 rfl 0 (.int .i64 5) rfl
        go_simp
        clear p0
        refine hK.out (updS s 15 (Value.int .i64 5)) _ _ ?_ ⟨hF.1, hF.2.put 1 15 (Value.int .i64 5) rfl (by simp)⟩
        simp only [putL, putT, List.setIfInBounds_toArray, List.set_cons_zero, List.set_cons_succ]; rw [show updS s 15 (Value.int .i64 5) 14 = Value.pointer (some ⟨w.heap.size + 1, 0, none⟩) from eq0]; rfl
    · intro d s w9 hd hA hC hF K hK
      have hB9 := hF.1.bel
      simp only [putL, putT, List.setIfInBounds_toArray, List.set_cons_zero, List.set_cons_succ]
      clear hB9
      as_aux_lemma =>
        have eq1 : s 15 = Value.int .i64 5 := hF.2 (1, 15, Value.int .i64 5) (by simp) (hA.1)
        rw [eq1]
        go_simp
        refine hK.out (updS s 16 (.bool false)) _ _ ?_ ⟨hF.1, hF.2.put 2 16 (.bool false) rfl (by simp)⟩
        simp only [putL, putT, List.setIfInBounds_toArray, List.set_cons_zero, List.set_cons_succ]; rw [show updS s 16 (.bool false) 15 = Value.int .i64 5 from eq1]; rfl
    · intro d s w9 hd hA hC hF K hK
      have hB9 := hF.1.bel
      simp only [putL, putT, List.setIfInBounds_toArray, List.set_cons_zero, List.set_cons_succ]
      clear hB9
      as_aux_lemma =>
        have eq2 : s 16 = .bool false := hF.2 (2, 16, .bool false) (by simp) (hA.1)
        rw [eq2]
        go_simp
        refine hK.out (updS s 17 (.bool false)) _ _ ?_ ⟨hF.1, hF.2.put 3 17 (.bool false) rfl (by simp)⟩
        simp only [putL, putT, List.setIfInBounds_toArray, List.set_cons_zero, List.set_cons_succ]; rw [show updS s 17 (.bool false) 16 = .bool false from eq2]; rfl
    · intro d s w9 hd hA hC hF K hK
      have hB9 := hF.1.bel
      simp only [putL, putT, List.setIfInBounds_toArray, List.set_cons_zero, List.set_cons_succ]
      clear hB9
      as_aux_lemma =>
        have eq3 : s 17 = .bool false := hF.2 (3, 17, .bool false) (by simp) (hA.1)
        rw [eq3]
        have p0 := hF.1.cell 1 rfl 0 (.int .i64 5) rfl
        have p1 := hF.1.cell 1 rfl 1 (.int .i64 cl) rfl
        have p2 := hF.1.cell 1 rfl 2 (.int .i64 sv) rfl
        have p3 := hF.1.cell 1 rfl 3 (.int .i64 nc) rfl
        have p4 := hF.1.cell 1 rfl 4 (.slice (some ⟨g2, 0, none⟩) ys.length cap) rfl
        go_simp
        clear p0 p1 p2 p3 p4
        refine hK.out (updS s 18 (Value.agg #[.int .i64 5, .int .i64 cl, .int .i64 sv, .int .i64 nc, .slice (some ⟨g2, 0, none⟩) ys.length cap])) _ _ ?_ ⟨hF.1, hF.2.put 4 18 (Value.agg #[.int .i64 5, .int .i64 cl, .int .i64 sv, .int .i64 nc, .slice (some ⟨g2, 0, none⟩) ys.length cap]) rfl (by simp)⟩
        simp only [putL, putT, List.setIfInBounds_toArray, List.set_cons_zero, List.set_cons_succ]; rw [show updS s 18 (Value.agg #[.int .i64 5, .int .i64 cl, .int .i64 sv, .int .i64 nc, .slice (some ⟨g2, 0, none⟩) ys.length cap]) 17 = .bool false from eq3]; rfl
    · intro d s w9 hd hA hC hF K hK
      have hB9 := hF.1.bel
      simp only [putL, putT, List.setIfInBounds_toArray, List.set_cons_zero, List.set_cons_succ]
      clear hB9
      as_aux_lemma =>
        have eq4 : s 18 = Value.agg #[.int .i64 5, .int .i64 cl, .int .i64 sv, .int .i64 nc, .slice (some ⟨g2, 0, none⟩) ys.length cap] := hF.2 (4, 18, Value.agg #[.int .i64 5, .int .i64 cl, .int .i64 sv, .int .i64 nc, .slice (some ⟨g2, 0, none⟩) ys.length cap]) (by simp) (hA.1)
        have eq3 : s 17 = .bool false := hF.2 (3, 17, .bool false) (by simp) (hA.2.1)
        rw [eq4, eq3]
        go_simp
        refine (specMsg_any 5 cl sv nc _ _ ys _ (srow_base HH.out.1 HH.out.2 hF.1.bel) (by omega)).mono ?_
        rintro r w8 ⟨rfl, b9⟩
        rw [u4]
        go_simp
        refine hK.out (updS s 19 (.bool true)) _ _ ?_ ⟨St.grow b9 hF.1, hF.2.put 5 19 (.bool true) rfl (by simp)⟩
        simp only [putL, putT, List.setIfInBounds_toArray, List.set_cons_zero, List.set_cons_succ]
        rw [show updS s 19 (.bool true) 18 = Value.agg #[.int .i64 5, .int .i64 cl, .int .i64 sv, .int .i64 nc, .slice (some ⟨g2, 0, none⟩) ys.length cap] from eq4, show updS s 19 (.bool true) 17 = .bool false from eq3] <;> rfl
    · intro d s w9 hd hA hC hF K hK
      have hB9 := hF.1.bel
      simp only [putL, putT, List.setIfInBounds_toArray, List.set_cons_zero, List.set_cons_succ]
      clear hB9
      as_aux_lemma =>
        have eq3 : s 17 = .bool false := hF.2 (3, 17, .bool false) (by simp) (hA.1)
        have eq5 : s 19 = .bool true := hF.2 (5, 19, .bool true) (by simp) (hA.2.1)
        rw [eq3, eq5]
        go_simp
        refine hK.out (updS s 20 (.bool false)) _ _ ?_ ⟨hF.1, hF.2.put 6 20 (.bool false) rfl (by simp)⟩
        simp only [putL, putT, List.setIfInBounds_toArray, List.set_cons_zero, List.set_cons_succ]; rw [show updS s 20 (.bool false) 17 = .bool false from eq3, show updS s 20 (.bool false) 19 = .bool true from eq5]; rfl
    · intro d s w9 hd hA hC hF K hK
      have hB9 := hF.1.bel
      simp only [putL, putT, List.setIfInBounds_toArray, List.set_cons_zero, List.set_cons_succ]
      clear hB9
      as_aux_lemma =>
        have eq3 : s 17 = .bool false := hF.2 (3, 17, .bool false) (by simp) (hA.1)
        have eq6 : s 20 = .bool false := hF.2 (6, 20, .bool false) (by simp) (hA.2.1)
        rw [eq3, eq6]
        go_simp
        refine hK.out (updS s 21 (.bool false)) _ _ ?_ ⟨hF.1, hF.2.put 7 21 (.bool false) rfl (by simp)⟩
        simp only [putL, putT, List.setIfInBounds_toArray, List.set_cons_zero, List.set_cons_succ]; rw [show updS s 21 (.bool false) 17 = .bool false from eq3, show updS s 21 (.bool false) 20 = .bool false from eq6]; rfl
    · intro d s w9 hd hA hC hF K hK
      have hB9 := hF.1.bel
      simp only [putL, putT, List.setIfInBounds_toArray, List.set_cons_zero, List.set_cons_succ]
      clear hB9
      as_aux_lemma =>
        have eq7 : s 21 = .bool false := hF.2 (7, 21, .bool false) (by simp) (hA.1)
        rw [eq7]
        go_simp
        refine hK.out (updS s 22 (.bool false)) _ _ ?_ ⟨hF.1, hF.2.put 8 22 (.bool false) rfl (by simp)⟩
        simp only [putL, putT, List.setIfInBounds_toArray, List.set_cons_zero, List.set_cons_succ]; rw [show updS s 22 (.bool false) 21 = .bool false from eq7]; rfl
    · intro d s w9 hd hA hC hF K hK
      have hB9 := hF.1.bel
      simp only [putL, putT, List.setIfInBounds_toArray, List.set_cons_zero, List.set_cons_succ]
      clear hB9
      as_aux_lemma =>
        have eq8 : s 22 = .bool false := hF.2 (8, 22, .bool false) (by simp) (hA.1)
        rw [eq8]
        go_simp
        refine hK.out (updS s 23 (Value.pointer (some ⟨w.heap.size + 1, 2, none⟩))) _ _ ?_ ⟨hF.1, hF.2.put 9 23 (Value.pointer (some ⟨w.heap.size + 1, 2, none⟩)) rfl (by simp)⟩
        simp only [putL, putT, List.setIfInBounds_toArray, List.set_cons_zero, List.set_cons_succ]; rw [show updS s 23 (Value.pointer (some ⟨w.heap.size + 1, 2, none⟩)) 22 = .bool false from eq8]; rfl
    · intro d s w9 hd hA hC hF K hK
      have hB9 := hF.1.bel
      simp only [putL, putT, List.setIfInBounds_toArray, List.set_cons_zero, List.set_cons_succ]
      clear hB9
      as_aux_lemma =>
        have eq8 : s 22 = .bool false := hF.2 (8, 22, .bool false) (by simp) (hA.1)
        have eq9 : s 23 = Value.pointer (some ⟨w.heap.size + 1, 2, none⟩) := hF.2 (9, 23, Value.pointer (some ⟨w.heap.size + 1, 2, none⟩)) (by simp) (hA.2.1)
        rw [eq8, eq9]
        have p2 := hF.1.cell 1 rfl 2 (.int .i64 sv) rfl
        go_simp
        clear p2
        refine hK.out (updS s 24 (Value.int .i64 sv)) _ _ ?_ ⟨hF.1, hF.2.put 10 24 (Value.int .i64 sv) rfl (by simp)⟩
        simp only [putL, putT, List.setIfInBounds_toArray, List.set_cons_zero, List.set_cons_succ]; rw [show updS s 24 (Value.int .i64 sv) 22 = .bool false from eq8, show updS s 24 (Value.int .i64 sv) 23 = Value.pointer (some ⟨w.heap.size + 1, 2, none⟩) from eq9]; rfl
    · intro d s w9 hd hA hC hF K hK
      have hB9 := hF.1.bel
      simp only [putL, putT, List.setIfInBounds_toArray, List.set_cons_zero, List.set_cons_succ]
      clear hB9
      as_aux_lemma =>
        have eq8 : s 22 = .bool false := hF.2 (8, 22, .bool false) (by simp) (hA.1)
        rw [eq8]
        go_simp
        refine hK.out (updS s 25 (Value.pointer (some ⟨w.heap.size, 0, none⟩))) _ _ ?_ ⟨hF.1, hF.2.put 11 25 (Value.pointer (some ⟨w.heap.size, 0, none⟩)) rfl (by simp)⟩
        simp only [putL, putT, List.setIfInBounds_toArray, List.set_cons_zero, List.set_cons_succ]; rw [show updS s 25 (Value.pointer (some ⟨w.heap.size, 0, none⟩)) 22 = .bool false from eq8]; rfl
    · intro d s w9 hd hA hC hF K hK
      have hB9 := hF.1.bel
      simp only [putL, putT, List.setIfInBounds_toArray, List.set_cons_zero, List.set_cons_succ]
      clear hB9
      as_aux_lemma =>
        have eq8 : s 22 = .bool false := hF.2 (8, 22, .bool false) (by simp) (hA.1)
        have eq11 : s 25 = Value.pointer (some ⟨w.heap.size, 0, none⟩) := hF.2 (11, 25, Value.pointer (some ⟨w.heap.size, 0, none⟩)) (by simp) (hA.2.1)
        rw [eq8, eq11]
        have p0 := hF.1.cell 0 rfl 0 (.int .i64 i) rfl
        go_simp
        clear p0
        refine hK.out (updS s 26 (Value.int .i64 i)) _ _ ?_ ⟨hF.1, hF.2.put 12 26 (Value.int .i64 i) rfl (by simp)⟩
        simp only [putL, putT, List.setIfInBounds_toArray, List.set_cons_zero, List.set_cons_succ]; rw [show updS s 26 (Value.int .i64 i) 22 = .bool false from eq8, show updS s 26 (Value.int .i64 i) 25 = Value.pointer (some ⟨w.heap.size, 0, none⟩) from eq11]; rfl
    · intro d s w9 hd hA hC hF K hK
      have hB9 := hF.1.bel
      simp only [putL, putT, List.setIfInBounds_toArray, List.set_cons_zero, List.set_cons_succ]
      clear hB9
      as_aux_lemma =>
        have eq8 : s 22 = .bool false := hF.2 (8, 22, .bool false) (by simp) (hA.1)
        have eq10 : s 24 = Value.int .i64 sv := hF.2 (10, 24, Value.int .i64 sv) (by simp) (hA.2.1)
        have eq12 : s 26 = Value.int .i64 i := hF.2 (12, 26, Value.int .i64 i) (by simp) (hA.2.2.1)
        rw [eq8, eq10, eq12]
        have hne9 : (sv != i) = true := by simpa using u5
        go_simp
        try rw [hne9]
        refine hK.out (updS s 27 (.bool true)) _ _ ?_ ⟨hF.1, hF.2.put 13 27 (.bool true) rfl (by simp)⟩
        simp only [putL, putT, List.setIfInBounds_toArray, List.set_cons_zero, List.set_cons_succ]; rw [show updS s 27 (.bool true) 22 = .bool false from eq8, show updS s 27 (.bool true) 24 = Value.int .i64 sv from eq10, show updS s 27 (.bool true) 26 = Value.int .i64 i from eq12]; rfl
    · intro d s w9 hd hA hC hF K hK
      have hB9 := hF.1.bel
      simp only [putL, putT, List.setIfInBounds_toArray, List.set_cons_zero, List.set_cons_succ]
      clear hB9
      as_aux_lemma =>
        have eq8 : s 22 = .bool false := hF.2 (8, 22, .bool false) (by simp) (hA.1)
        have eq13 : s 27 = .bool true := hF.2 (13, 27, .bool true) (by simp) (hA.2.1)
        rw [eq8, eq13]
        go_simp
        refine hK.out (updS s 28 (.bool true)) _ _ ?_ ⟨hF.1, hF.2.put 14 28 (.bool true) rfl (by simp)⟩
        simp only [putL, putT, List.setIfInBounds_toArray, List.set_cons_zero, List.set_cons_succ]; rw [show updS s 28 (.bool true) 22 = .bool false from eq8, show updS s 28 (.bool true) 27 = .bool true from eq13]; rfl
    · intro d s w9 hd hA hC hF K hK
      have hB9 := hF.1.bel
      simp only [putL, putT, List.setIfInBounds_toArray, List.set_cons_zero, List.set_cons_succ]
      clear hB9
      as_aux_lemma =>
        have eq14 : s 28 = .bool true := hF.2 (14, 28, .bool true) (by simp) (hA.1)
        rw [eq14]
        go_simp
        refine hK.out (updS s 29 (.bool true)) _ _ ?_ ⟨hF.1, hF.2.put 15 29 (.bool true) rfl (by simp)⟩
        simp only [putL, putT, List.setIfInBounds_toArray, List.set_cons_zero, List.set_cons_succ]; rw [show updS s 29 (.bool true) 28 = .bool true from eq14]; rfl
    · intro d s w9 hd hA hC hF K hK
      have hB9 := hF.1.bel
      simp only [putL, putT, List.setIfInBounds_toArray, List.set_cons_zero, List.set_cons_succ]
      clear hB9
      as_aux_lemma =>
        have eq15 : s 29 = .bool true := hF.2 (15, 29, .bool true) (by simp) (hA.1)
        rw [eq15]
        go_simp
        refine hK.out (updS s 30 (undef)) _ _ ?_ ⟨hF.1, hF.2.put 16 30 (undef) rfl (by simp)⟩
        simp only [putL, putT, List.setIfInBounds_toArray, List.set_cons_zero, List.set_cons_succ]; rw [show updS s 30 (undef) 29 = .bool true from eq15]; rfl
    · intro d s w9 hd hA hC hF K hK
      have hB9 := hF.1.bel
      simp only [putL, putT, List.setIfInBounds_toArray, List.set_cons_zero, List.set_cons_succ]
      clear hB9
      as_aux_lemma =>
        have eq15 : s 29 = .bool true := hF.2 (15, 29, .bool true) (by simp) (hA.1)
        rw [eq15]
        go_simp
        refine hK.out (updS s 31 (undef)) _ _ ?_ ⟨hF.1, hF.2.put 17 31 (undef) rfl (by simp)⟩
        simp only [putL, putT, List.setIfInBounds_toArray, List.set_cons_zero, List.set_cons_succ]; rw [show updS s 31 (undef) 29 = .bool true from eq15]; rfl
    · intro d s w9 hd hA hC hF K hK
      have hB9 := hF.1.bel
      simp only [putL, putT, List.setIfInBounds_toArray, List.set_cons_zero, List.set_cons_succ]
      clear hB9
      as_aux_lemma =>
        have eq15 : s 29 = .bool true := hF.2 (15, 29, .bool true) (by simp) (hA.1)
        rw [eq15]
        go_simp
        refine hK.out (updS s 32 (undef)) _ _ ?_ ⟨hF.1, hF.2.put 18 32 (undef) rfl (by simp)⟩
        simp only [putL, putT, List.setIfInBounds_toArray, List.set_cons_zero, List.set_cons_succ]; rw [show updS s 32 (undef) 29 = .bool true from eq15]; rfl
    · intro d s w9 hd hA hC hF K hK
      have hB9 := hF.1.bel
      simp only [putL, putT, List.setIfInBounds_toArray, List.set_cons_zero, List.set_cons_succ]
      clear hB9
      as_aux_lemma =>
        have eq15 : s 29 = .bool true := hF.2 (15, 29, .bool true) (by simp) (hA.1)
        rw [eq15]
        go_simp
        refine hK.out (updS s 33 (undef)) _ _ ?_ ⟨hF.1, hF.2.put 19 33 (undef) rfl (by simp)⟩
        simp only [putL, putT, List.setIfInBounds_toArray, List.set_cons_zero, List.set_cons_succ]; rw [show updS s 33 (undef) 29 = .bool true from eq15]; rfl
    · intro d s w9 hd hA hC hF K hK
      have hB9 := hF.1.bel
      simp only [putL, putT, List.setIfInBounds_toArray, List.set_cons_zero, List.set_cons_succ]
      clear hB9
      as_aux_lemma =>
        have eq15 : s 29 = .bool true := hF.2 (15, 29, .bool true) (by simp) (hA.1)
        rw [eq15]
        go_simp
        refine hK.out (updS s 34 (undef)) _ _ ?_ ⟨hF.1, hF.2.put 20 34 (undef) rfl (by simp)⟩
        simp only [putL, putT, List.setIfInBounds_toArray, List.set_cons_zero, List.set_cons_succ]; rw [show updS s 34 (undef) 29 = .bool true from eq15]; rfl
    · intro d s w9 hd hA hC hF K hK
      have hB9 := hF.1.bel
      simp only [putL, putT, List.setIfInBounds_toArray, List.set_cons_zero, List.set_cons_succ]
      clear hB9
      as_aux_lemma =>
        have eq15 : s 29 = .bool true := hF.2 (15, 29, .bool true) (by simp) (hA.1)
        rw [eq15]
        go_simp
        refine hK.out (updS s 35 (undef)) _ _ ?_ ⟨hF.1, hF.2.put 21 35 (undef) rfl (by simp)⟩
        simp only [putL, putT, List.setIfInBounds_toArray, List.set_cons_zero, List.set_cons_succ]; rw [show updS s 35 (undef) 29 = .bool true from eq15]; rfl
    · intro d s w9 hd hA hC hF K hK
      have hB9 := hF.1.bel
      simp only [putL, putT, List.setIfInBounds_toArray, List.set_cons_zero, List.set_cons_succ]
      clear hB9
      as_aux_lemma =>
        have eq15 : s 29 = .bool true := hF.2 (15, 29, .bool true) (by simp) (hA.1)
        rw [eq15]
        go_simp
        refine hK.out (updS s 36 (undef)) _ _ ?_ ⟨hF.1, hF.2.put 22 36 (undef) rfl (by simp)⟩
        simp only [putL, putT, List.setIfInBounds_toArray, List.set_cons_zero, List.set_cons_succ]; rw [show updS s 36 (undef) 29 = .bool true from eq15]; rfl
    · intro d s w9 hd hA hC hF K hK
      have hB9 := hF.1.bel
      simp only [putL, putT, List.setIfInBounds_toArray, List.set_cons_zero, List.set_cons_succ]
      clear hB9
      as_aux_lemma =>
        have eq15 : s 29 = .bool true := hF.2 (15, 29, .bool true) (by simp) (hA.1)
        rw [eq15]
        go_simp
        refine hK.out (updS s 37 (undef)) _ _ ?_ ⟨hF.1, hF.2.put 23 37 (undef) rfl (by simp)⟩
        simp only [putL, putT, List.setIfInBounds_toArray, List.set_cons_zero, List.set_cons_succ]; rw [show updS s 37 (undef) 29 = .bool true from eq15]; rfl
    · intro d s w9 hd hA hC hF K hK
      have hB9 := hF.1.bel
      simp only [putL, putT, List.setIfInBounds_toArray, List.set_cons_zero, List.set_cons_succ]
      clear hB9
      as_aux_lemma =>
        have eq15 : s 29 = .bool true := hF.2 (15, 29, .bool true) (by simp) (hA.1)
        rw [eq15]
        go_simp
        refine hK.out (updS s 38 (undef)) _ _ ?_ ⟨hF.1, hF.2.put 24 38 (undef) rfl (by simp)⟩
        simp only [putL, putT, List.setIfInBounds_toArray, List.set_cons_zero, List.set_cons_succ]; rw [show updS s 38 (undef) 29 = .bool true from eq15]; rfl
    · intro d s w9 hd hA hC hF K hK
      have hB9 := hF.1.bel
      simp only [putL, putT, List.setIfInBounds_toArray, List.set_cons_zero, List.set_cons_succ]
      clear hB9
      as_aux_lemma =>
        have eq15 : s 29 = .bool true := hF.2 (15, 29, .bool true) (by simp) (hA.1)
        rw [eq15]
        go_simp
        refine hK.out (updS s 39 (undef)) _ _ ?_ ⟨hF.1, hF.2.put 25 39 (undef) rfl (by simp)⟩
        simp only [putL, putT, List.setIfInBounds_toArray, List.set_cons_zero, List.set_cons_succ]; rw [show updS s 39 (undef) 29 = .bool true from eq15]; rfl
    · intro d s w9 hd hA hC hF K hK
      have hB9 := hF.1.bel
      simp only [putL, putT, List.setIfInBounds_toArray, List.set_cons_zero, List.set_cons_succ]
      clear hB9
      as_aux_lemma =>
        have eq15 : s 29 = .bool true := hF.2 (15, 29, .bool true) (by simp) (hA.1)
        rw [eq15]
        go_simp
        refine hK.out (updS s 40 (undef)) _ _ ?_ ⟨hF.1, hF.2.put 26 40 (undef) rfl (by simp)⟩
        simp only [putL, putT, List.setIfInBounds_toArray, List.set_cons_zero, List.set_cons_succ]; rw [show updS s 40 (undef) 29 = .bool true from eq15]; rfl
    · intro d s w9 hd hA hC hF K hK
      have hB9 := hF.1.bel
      simp only [putL, putT, List.setIfInBounds_toArray, List.set_cons_zero, List.set_cons_succ]
      clear hB9
      as_aux_lemma =>
        have eq15 : s 29 = .bool true := hF.2 (15, 29, .bool true) (by simp) (hA.1)
        rw [eq15]
        go_simp
        refine hK.out (updS s 41 (undef)) _ _ ?_ ⟨hF.1, hF.2.put 27 41 (undef) rfl (by simp)⟩
        simp only [putL, putT, List.setIfInBounds_toArray, List.set_cons_zero, List.set_cons_succ]; rw [show updS s 41 (undef) 29 = .bool true from eq15]; rfl
    · intro d s w9 hd hA hC hF K hK
      have hB9 := hF.1.bel
      simp only [putL, putT, List.setIfInBounds_toArray, List.set_cons_zero, List.set_cons_succ]
      clear hB9
      as_aux_lemma =>
        have eq15 : s 29 = .bool true := hF.2 (15, 29, .bool true) (by simp) (hA.1)
        rw [eq15]
        go_simp
        refine hK.out (updS s 42 (undef)) _ _ ?_ ⟨hF.1, hF.2.put 28 42 (undef) rfl (by simp)⟩
        simp only [putL, putT, List.setIfInBounds_toArray, List.set_cons_zero, List.set_cons_succ]; rw [show updS s 42 (undef) 29 = .bool true from eq15]; rfl
    · intro d s w9 hd hA hC hF K hK
      have hB9 := hF.1.bel
      simp only [putL, putT, List.setIfInBounds_toArray, List.set_cons_zero, List.set_cons_succ]
      clear hB9
      as_aux_lemma =>
        have eq15 : s 29 = .bool true := hF.2 (15, 29, .bool true) (by simp) (hA.1)
        rw [eq15]
        go_simp
        refine hK.out (updS s 43 (.bool true)) _ _ ?_ ⟨hF.1, hF.2.put 29 43 (.bool true) rfl (by simp)⟩
        simp only [putL, putT, List.setIfInBounds_toArray, List.set_cons_zero, List.set_cons_succ]; rw [show updS s 43 (.bool true) 29 = .bool true from eq15]; rfl
    · intro d s w9 hd hA hC hF K hK
      have hB9 := hF.1.bel
      simp only [putL, putT, List.setIfInBounds_toArray, List.set_cons_zero, List.set_cons_succ]
      clear hB9
      as_aux_lemma =>
        have eq29 : s 43 = .bool true := hF.2 (29, 43, .bool true) (by simp) (hA.1)
        rw [eq29]
        go_simp
        refine hK.out (updS s 44 (.bool true)) _ _ ?_ ⟨hF.1, hF.2.put 30 44 (.bool true) rfl (by simp)⟩
        simp only [putL, putT, List.setIfInBounds_toArray, List.set_cons_zero, List.set_cons_succ]; rw [show updS s 44 (.bool true) 43 = .bool true from eq29]; rfl
    · intro d s w9 hd hA hC hF K hK
      have hB9 := hF.1.bel
      simp only [putL, putT, List.setIfInBounds_toArray, List.set_cons_zero, List.set_cons_succ]
      clear hB9
      as_aux_lemma =>
        have eq30 : s 44 = .bool true := hF.2 (30, 44, .bool true) (by simp) (hA.1)
        rw [eq30]
        go_simp
        refine hK.out (updS s 45 (undef)) _ _ ?_ ⟨hF.1, hF.2.put 31 45 (undef) rfl (by simp)⟩
        simp only [putL, putT, List.setIfInBounds_toArray, List.set_cons_zero, List.set_cons_succ]; rw [show updS s 45 (undef) 44 = .bool true from eq30]; rfl
    · intro d s w9 hd hA hC hF K hK
      have hB9 := hF.1.bel
      simp only [putL, putT, List.setIfInBounds_toArray, List.set_cons_zero, List.set_cons_succ]
      clear hB9
      as_aux_lemma =>
        have eq30 : s 44 = .bool true := hF.2 (30, 44, .bool true) (by simp) (hA.1)
        rw [eq30]
        go_simp
        refine hK.out (updS s 46 (undef)) _ _ ?_ ⟨hF.1, hF.2.put 32 46 (undef) rfl (by simp)⟩
        simp only [putL, putT, List.setIfInBounds_toArray, List.set_cons_zero, List.set_cons_succ]; rw [show updS s 46 (undef) 44 = .bool true from eq30]; rfl
    · intro d s w9 hd hA hC hF K hK
      have hB9 := hF.1.bel
      simp only [putL, putT, List.setIfInBounds_toArray, List.set_cons_zero, List.set_cons_succ]
      clear hB9
      as_aux_lemma =>
        have eq30 : s 44 = .bool true := hF.2 (30, 44, .bool true) (by simp) (hA.1)
        rw [eq30]
        go_simp
        refine hK.out (updS s 47 (undef)) _ _ ?_ ⟨hF.1, hF.2.put 33 47 (undef) rfl (by simp)⟩
        simp only [putL, putT, List.setIfInBounds_toArray, List.set_cons_zero, List.set_cons_succ]; rw [show updS s 47 (undef) 44 = .bool true from eq30]; rfl
    · intro d s w9 hd hA hC hF K hK
      have hB9 := hF.1.bel
      simp only [putL, putT, List.setIfInBounds_toArray, List.set_cons_zero, List.set_cons_succ]
      clear hB9
      as_aux_lemma =>
        have eq30 : s 44 = .bool true := hF.2 (30, 44, .bool true) (by simp) (hA.1)
        rw [eq30]
        go_simp
        refine hK.out (updS s 48 (undef)) _ _ ?_ ⟨hF.1, hF.2.put 34 48 (undef) rfl (by simp)⟩
        simp only [putL, putT, List.setIfInBounds_toArray, List.set_cons_zero, List.set_cons_succ]; rw [show updS s 48 (undef) 44 = .bool true from eq30]; rfl
    · intro d s w9 hd hA hC hF K hK
      have hB9 := hF.1.bel
      simp only [putL, putT, List.setIfInBounds_toArray, List.set_cons_zero, List.set_cons_succ]
      clear hB9
      as_aux_lemma =>
        have eq30 : s 44 = .bool true := hF.2 (30, 44, .bool true) (by simp) (hA.1)
        rw [eq30]
        go_simp
        refine hK.out (updS s 49 (undef)) _ _ ?_ ⟨hF.1, hF.2.put 35 49 (undef) rfl (by simp)⟩
        simp only [putL, putT, List.setIfInBounds_toArray, List.set_cons_zero, List.set_cons_succ]; rw [show updS s 49 (undef) 44 = .bool true from eq30]; rfl
    · intro d s w9 hd hA hC hF K hK
      have hB9 := hF.1.bel
      simp only [putL, putT, List.setIfInBounds_toArray, List.set_cons_zero, List.set_cons_succ]
      clear hB9
      as_aux_lemma =>
        have eq30 : s 44 = .bool true := hF.2 (30, 44, .bool true) (by simp) (hA.1)
        rw [eq30]
        go_simp
        refine hK.out (updS s 50 (undef)) _ _ ?_ ⟨hF.1, hF.2.put 36 50 (undef) rfl (by simp)⟩
        simp only [putL, putT, List.setIfInBounds_toArray, List.set_cons_zero, List.set_cons_succ]; rw [show updS s 50 (undef) 44 = .bool true from eq30]; rfl
    · intro d s w9 hd hA hC hF K hK
      have hB9 := hF.1.bel
      simp only [putL, putT, List.setIfInBounds_toArray, List.set_cons_zero, List.set_cons_succ]
      clear hB9
      as_aux_lemma =>
        have eq30 : s 44 = .bool true := hF.2 (30, 44, .bool true) (by simp) (hA.1)
        rw [eq30]
        go_simp
        refine hK.out (updS s 51 (undef)) _ _ ?_ ⟨hF.1, hF.2.put 37 51 (undef) rfl (by simp)⟩
        simp only [putL, putT, List.setIfInBounds_toArray, List.set_cons_zero, List.set_cons_succ]; rw [show updS s 51 (undef) 44 = .bool true from eq30]; rfl
    · intro d s w9 hd hA hC hF K hK
      have hB9 := hF.1.bel
      simp only [putL, putT, List.setIfInBounds_toArray, List.set_cons_zero, List.set_cons_succ]
      clear hB9
      as_aux_lemma =>
        have eq30 : s 44 = .bool true := hF.2 (30, 44, .bool true) (by simp) (hA.1)
        rw [eq30]
        go_simp
        refine hK.out (updS s 52 (undef)) _ _ ?_ ⟨hF.1, hF.2.put 38 52 (undef) rfl (by simp)⟩
        simp only [putL, putT, List.setIfInBounds_toArray, List.set_cons_zero, List.set_cons_succ]; rw [show updS s 52 (undef) 44 = .bool true from eq30]; rfl
    · intro d s w9 hd hA hC hF K hK
      have hB9 := hF.1.bel
      simp only [putL, putT, List.setIfInBounds_toArray, List.set_cons_zero, List.set_cons_succ]
      clear hB9
      as_aux_lemma =>
        have eq30 : s 44 = .bool true := hF.2 (30, 44, .bool true) (by simp) (hA.1)
        rw [eq30]
        go_simp
        refine hK.out (updS s 53 (.bool true)) _ _ ?_ ⟨hF.1, hF.2.put 39 53 (.bool true) rfl (by simp)⟩
        simp only [putL, putT, List.setIfInBounds_toArray, List.set_cons_zero, List.set_cons_succ]; rw [show updS s 53 (.bool true) 44 = .bool true from eq30]; rfl
  · intro d s w3 hA hF
    have hS := hF.1
    have eq39 : s 53 = .bool true := hF.2 (39, 53, .bool true) (by simp) (hA.2.2.2.2.2.2.2.2.2.2.2.2.2.2.2.2.2.2.2.2.2.2.2.2.2.2.2.2.2.2.2.2.2.2.2.2.2.2.2.1)
    have HS2 : Hid (St B w [⟨w.heap.size, 49, #[.int .i64 i, .int .i64 s9, .slice a1 xs.length c1, .slice a2 ts.length c2]⟩, ⟨w.heap.size + 1, 33, #[.int .i64 5, .int .i64 cl, .int .i64 sv, .int .i64 nc, .slice (some ⟨g2, 0, none⟩) ys.length cap]⟩, ⟨w.heap.size + 1 + 1, 49, #[.int .i64 0, .int .i64 0, .slice none 0 0, .slice none 0 0]⟩, ⟨w.heap.size + 1 + 1 + 1, 33, #[.int .i64 0, .int .i64 0, .int .i64 0, .int .i64 0, .slice none 0 0]⟩] [⟨(selT 64), fun W => OwnS W B (.slice a1 xs.length c1) xs⟩, ⟨(selT 90), fun W => OwnN celC 90 W B (.slice a2 ts.length c2) ts⟩] w3) := hS
    clear hS hF hA HS1
    simp only [putL, putT, List.setIfInBounds_toArray, List.set_cons_zero, List.set_cons_succ]
    rw [eq39]
    clear eq39
    have EA : Hid (askH i s9 xs ts 5 cl sv nc ys now = keepH i s9 xs ts) := Hid.mk' (by unfold askH; rw [if_neg (by simp [u5])])
    have lt0 : w.heap.size < w3.heap.size := (HS2.out.lt 0 rfl).2
    have lt1 : w.heap.size + 1 < w3.heap.size := (HS2.out.lt 1 rfl).2
    have lt2 : w.heap.size + 1 + 1 < w3.heap.size := (HS2.out.lt 2 rfl).2
    have lt3 : w.heap.size + 1 + 1 + 1 < w3.heap.size := (HS2.out.lt 3 rfl).2
    have p0 := HS2.out.cell 0 rfl 0 (.int .i64 i) rfl
    have p1 := HS2.out.cell 0 rfl 1 (.int .i64 s9) rfl
    have p2 := HS2.out.cell 0 rfl 2 (.slice a1 xs.length c1) rfl
    have p3 := HS2.out.cell 0 rfl 3 (.slice a2 ts.length c2) rfl
    have z0 := HS2.out.cell 2 rfl 0 (.int .i64 0) rfl
    have zf0 := HS2.out.fro 2 rfl 0
    have z1 := HS2.out.cell 2 rfl 1 (.int .i64 0) rfl
    have zf1 := HS2.out.fro 2 rfl 1
    have z2 := HS2.out.cell 2 rfl 2 (.slice none 0 0) rfl
    have zf2 := HS2.out.fro 2 rfl 2
    have z3 := HS2.out.cell 2 rfl 3 (.slice none 0 0) rfl
    have zf3 := HS2.out.fro 2 rfl 3
    have y0 := HS2.out.cell 3 rfl 0 (.int .i64 0) rfl
    have yf0 := HS2.out.fro 3 rfl 0
    have y1 := HS2.out.cell 3 rfl 1 (.int .i64 0) rfl
    have yf1 := HS2.out.fro 3 rfl 1
    have y2 := HS2.out.cell 3 rfl 2 (.int .i64 0) rfl
    have yf2 := HS2.out.fro 3 rfl 2
    have y3 := HS2.out.cell 3 rfl 3 (.int .i64 0) rfl
    have yf3 := HS2.out.fro 3 rfl 3
    have y4 := HS2.out.cell 3 rfl 4 (.slice none 0 0) rfl
    have yf4 := HS2.out.fro 3 rfl 4
    go_wp2_with fail
    clear lt0 lt1 lt2 lt3 p0 p1 p2 p3 z0 zf0 z1 zf1 z2 zf2 z3 zf3 y0 yf0 y1 yf1 y2 yf2 y3 yf3 y4 yf4
    obtain ⟨V, hX9, HS3⟩ : ∃ X, X = (((((((((w3.setCell ⟨w.heap.size + 1 + 1, 0, none⟩ (.int .i64 i)).setCell ⟨w.heap.size + 1 + 1, 1, none⟩ (.int .i64 s9)).setCell ⟨w.heap.size + 1 + 1, 2, none⟩ (.slice a1 xs.length c1)).setCell ⟨w.heap.size + 1 + 1, 3, none⟩ (.slice a2 ts.length c2)).setCell ⟨w.heap.size + 1 + 1 + 1, 0, none⟩ (.int .i64 0)).setCell ⟨w.heap.size + 1 + 1 + 1, 1, none⟩ (.int .i64 0)).setCell ⟨w.heap.size + 1 + 1 + 1, 2, none⟩ (.int .i64 0)).setCell ⟨w.heap.size + 1 + 1 + 1, 3, none⟩ (.int .i64 0)).setCell ⟨w.heap.size + 1 + 1 + 1, 4, none⟩ (.slice none 0 0)) ∧ Hid (St B w [⟨w.heap.size, 49, #[.int .i64 i, .int .i64 s9, .slice a1 xs.length c1, .slice a2 ts.length c2]⟩, ⟨w.heap.size + 1, 33, #[.int .i64 5, .int .i64 cl, .int .i64 sv, .int .i64 nc, .slice (some ⟨g2, 0, none⟩) ys.length cap]⟩, ⟨w.heap.size + 1 + 1, 49, #[.int .i64 i, .int .i64 s9, .slice a1 xs.length c1, .slice a2 ts.length c2]⟩, ⟨w.heap.size + 1 + 1 + 1, 33, #[.int .i64 0, .int .i64 0, .int .i64 0, .int .i64 0, .slice none 0 0]⟩] [⟨(selT 64), fun W => OwnS W B (.slice a1 xs.length c1) xs⟩, ⟨(selT 90), fun W => OwnN celC 90 W B (.slice a2 ts.length c2) ts⟩] X) := ⟨_, rfl, Hid.mk' (by
      have h := (St.put5 3 (St.put4 2 HS2.out rfl rfl (.int .i64 i) (.int .i64 s9) (.slice a1 xs.length c1) (.slice a2 ts.length c2)) rfl rfl (.int .i64 0) (.int .i64 0) (.int .i64 0) (.int .i64 0) (.slice none 0 0))
      try simp only [World.size_alloc] at h
      try simp only [World.size_setCell] at h
      exact h)⟩
    rw [← hX9]
    clear hX9
    clear HS2
    have y0 := HS3.out.cell 2 rfl 0 (.int .i64 i) rfl
    have y1 := HS3.out.cell 2 rfl 1 (.int .i64 s9) rfl
    have y2 := HS3.out.cell 2 rfl 2 (.slice a1 xs.length c1) rfl
    have y3 := HS3.out.cell 2 rfl 3 (.slice a2 ts.length c2) rfl
    have z0 := HS3.out.cell 3 rfl 0 (.int .i64 0) rfl
    have z1 := HS3.out.cell 3 rfl 1 (.int .i64 0) rfl
    have z2 := HS3.out.cell 3 rfl 2 (.int .i64 0) rfl
    have z3 := HS3.out.cell 3 rfl 3 (.int .i64 0) rfl
    have z4 := HS3.out.cell 3 rfl 4 (.slice none 0 0) rfl
    refine bodyPost_ret (v := .tuple #[.agg #[.int .i64 i, .int .i64 s9, .slice a1 xs.length c1, .slice a2 ts.length c2], .agg #[.int .i64 0, .int .i64 0, .int .i64 0, .int .i64 0, .slice none 0 0], .bool false]) (by simp [results, Tryd.results42, go_sem, *]) rfl ?_
    rw [EA.out]
    exact ⟨⟨a1, c1, a2, c2, none, 0, V.heap.size, rfl, HS3.out.of 0 rfl, HS3.out.of 1 rfl, OwnS.nil _ _, HS3.out.sz, fun k hk => (OwnS.low (HS3.out.of 0 rfl) k hk).2⟩, HS3.out.bel⟩

end Go.Proofs.YtghajmfjekfdpaaDoor

namespace Go.Proofs.YtghajmfjekfdpaaDoor
open Go.RowKit
attribute [local go_sem ↓] Go.wp_at_zero Go.wp_at_succ

set_option maxHeartbeats 8000000 in
set_option maxRecDepth 100000 in
theorem l13Hear3 (B : Nat) (i s9 : Int) (a1 a2 : Option Addr) (c1 c2 : Nat) (xs : List Sl) (ts : List Ca) (cl nc : Int) (g2 : Nat) (cap : Nat) (ys : List Sl) (now : Int) (w : World) (hB : B ≤ w.heap.size) (ho1 : OwnS w B (.slice a1 xs.length c1) xs) (ho2 : OwnN celC 90 w B (.slice a2 ts.length c2) ts) (h : SRow w (some ⟨g2, 0, none⟩) ys) (hgB : ys ≠ [] → g2 < B) (_hx : xs.length ≤ 1048576) (_ht : ts.length ≤ 1048576) (hy : ys.length ≤ 1048576) (hn : 0 ≤ now ∧ now ≤ 100) (ha : ∀ u ∈ xs, 0 ≤ u.b ∧ u.b ≤ 100) (u4 : msgB 5 cl i nc ys = true) (t u : Sl) (HY : Hid (ys = [t, u] ∧ t.ok = true ∧ u.ok = true)) (HSB : Hid (shB t u i now = false)) :
    Calls Tryd.prog 42 #[.agg #[.int .i64 i, .int .i64 s9, .slice a1 xs.length c1, .slice a2 ts.length c2], .agg #[.int .i64 5, .int .i64 cl, .int .i64 i, .int .i64 nc, .slice (some ⟨g2, 0, none⟩) ys.length cap], .int .i64 now] w fun r w' => HAns B w' (askH i s9 xs ts 5 cl i nc ys now) r ∧ Below B w w' := by
  have EG : Hid (askH i s9 xs ts 5 cl i nc ys now = giveH i s9 xs ts t u now) := Hid.mk' (by unfold askH; rw [if_pos ⟨rfl, u4, rfl⟩, HY.out.1])
  have hyl : ys.length = 2 := by rw [HY.out.1]; rfl
  have hy0 : 0 < ys.length := by omega
  have hy1 : 1 < ys.length := by omega
  have hy2 : (1 : Int) < (ys.length : Int) := by omega
  clear hyl
  have HH : Hid (SRow w (some ⟨g2, 0, none⟩) ys ∧ (ys ≠ [] → g2 < B)) := ⟨h, hgB⟩
  clear h hgB
  have HL : Hid (0 ≤ now ∧ now ≤ 100 ∧ ∀ u ∈ xs, 0 ≤ u.b ∧ u.b ≤ 100) := ⟨hn.1, hn.2, ha⟩
  clear hn ha
  go_enter Tryd.func42, Tryd.ntmps42
  go_wp2_with fail
  obtain ⟨w1, hX9, HS1⟩ : ∃ X, X = ((((w.alloc (.cells #[.int .i64 i, .int .i64 s9, .slice a1 xs.length c1, .slice a2 ts.length c2] 49)).alloc (.cells #[.int .i64 5, .int .i64 cl, .int .i64 i, .int .i64 nc, .slice (some ⟨g2, 0, none⟩) ys.length cap] 33)).alloc (.cells #[.int .i64 0, .int .i64 0, .slice none 0 0, .slice none 0 0] 49)).alloc (.cells #[.int .i64 0, .int .i64 0, .int .i64 0, .int .i64 0, .slice none 0 0] 33)) ∧ Hid (St B w [⟨w.heap.size, 49, #[.int .i64 i, .int .i64 s9, .slice a1 xs.length c1, .slice a2 ts.length c2]⟩, ⟨w.heap.size + 1, 33, #[.int .i64 5, .int .i64 cl, .int .i64 i, .int .i64 nc, .slice (some ⟨g2, 0, none⟩) ys.length cap]⟩, ⟨w.heap.size + 1 + 1, 49, #[.int .i64 0, .int .i64 0, .slice none 0 0, .slice none 0 0]⟩, ⟨w.heap.size + 1 + 1 + 1, 33, #[.int .i64 0, .int .i64 0, .int .i64 0, .int .i64 0, .slice none 0 0]⟩] [⟨(selT 64), fun W => OwnS W B (.slice a1 xs.length c1) xs⟩, ⟨(selT 90), fun W => OwnN celC 90 W B (.slice a2 ts.length c2) ts⟩] X) := ⟨_, rfl, Hid.mk' (by
    have h := (St.alloc #[.int .i64 0, .int .i64 0, .int .i64 0, .int .i64 0, .slice none 0 0] 33 (St.alloc #[.int .i64 0, .int .i64 0, .slice none 0 0, .slice none 0 0] 49 (St.alloc #[.int .i64 5, .int .i64 cl, .int .i64 i, .int .i64 nc, .slice (some ⟨g2, 0, none⟩) ys.length cap] 33 (St.alloc #[.int .i64 i, .int .i64 s9, .slice a1 xs.length c1, .slice a2 ts.length c2] 49 (St.add (selT 90) (fun W => OwnN celC 90 W B (.slice a2 ts.length c2) ts) (keep_own celC _ _ _ _) ho2 (St.add (selT 64) (fun W => OwnS W B (.slice a1 xs.length c1) xs) (keep_owns _ _ _) ho1 (St.newB hB)))))))
    try simp only [World.size_alloc] at h
    try simp only [World.size_setCell] at h
    exact h)⟩
  rw [← hX9]
  clear hX9
  clear ho1 ho2
  refine wp_region_walk [14, 15, 16, 17, 18, 19, 20, 21, 22, 23, 24, 25, 26, 27, 28, 29, 30, 31, 32, 33, 34, 35, 36, 37, 38, 39, 40, 41, 42, 43, 44, 45, 46, 47, 48, 49, 50, 51, 52, 53] (fun d s W => St B w [⟨w.heap.size, 49, #[.int .i64 i, .int .i64 s9, .slice a1 xs.length c1, .slice a2 ts.length c2]⟩, ⟨w.heap.size + 1, 33, #[.int .i64 5, .int .i64 cl, .int .i64 i, .int .i64 nc, .slice (some ⟨g2, 0, none⟩) ys.length cap]⟩, ⟨w.heap.size + 1 + 1, 49, #[.int .i64 0, .int .i64 0, .slice none 0 0, .slice none 0 0]⟩, ⟨w.heap.size + 1 + 1 + 1, 33, #[.int .i64 0, .int .i64 0, .int .i64 0, .int .i64 0, .slice none 0 0]⟩] [⟨(selT 64), fun W => OwnS W B (.slice a1 xs.length c1) xs⟩, ⟨(selT 90), fun W => OwnN celC 90 W B (.slice a2 ts.length c2) ts⟩] W ∧ Looks [(0, 14, Value.pointer (some ⟨w.heap.size + 1, 0, none⟩)), (1, 15, Value.int .i64 5), (2, 16, .bool false), (3, 17, .bool false), (4, 18, Value.agg #[.int .i64 5, .int .i64 cl, .int .i64 i, .int .i64 nc, .slice (some ⟨g2, 0, none⟩) ys.length cap]), (5, 19, .bool true), (6, 20, .bool false), (7, 21, .bool false), (8, 22, .bool false), (9, 23, Value.pointer (some ⟨w.heap.size + 1, 2, none⟩)), (10, 24, Value.int .i64 i), (11, 25, Value.pointer (some ⟨w.heap.size, 0, none⟩)), (12, 26, Value.int .i64 i), (13, 27, .bool false), (14, 28, .bool false), (15, 29, .bool false), (16, 30, Value.pointer (some ⟨w.heap.size + 1, 4, none⟩)), (17, 31, Value.slice (some ⟨g2, 0, none⟩) ys.length cap), (18, 32, Value.pointer (some ⟨g2, 0, none⟩)), (19, 33, Value.agg #[.int .i64 t.k, .int .i64 t.t, .int .i64 t.a, .int .i64 t.b, .int .i64 t.c, .int .i64 t.d, .int .i64 t.e]), (20, 34, Value.pointer (some ⟨w.heap.size + 1, 4, none⟩)), (21, 35, Value.slice (some ⟨g2, 0, none⟩) ys.length cap), (22, 36, Value.pointer (some ⟨g2, 7, none⟩)), (23, 37, Value.agg #[.int .i64 u.k, .int .i64 u.t, .int .i64 u.a, .int .i64 u.b, .int .i64 u.c, .int .i64 u.d, .int .i64 u.e]), (24, 38, Value.pointer (some ⟨w.heap.size, 0, none⟩)), (25, 39, Value.int .i64 i), (26, 40, Value.int .i64 now), (27, 41, .bool false), (28, 42, .bool true), (29, 43, .bool true), (30, 44, .bool true), (31, 45, undef), (32, 46, undef), (33, 47, undef), (34, 48, undef), (35, 49, undef), (36, 50, undef), (37, 51, undef), (38, 52, undef), (39, 53, .bool true)] d s) [0, 1, 2, 3, 4, 5, 6, 7, 8, 9, 10, 11, 12, 13, 14, 15, 16, 17, 18, 19, 20, 21, 22, 23, 24, 25, 26, 27, 28, 29, 30, 31, 32, 33, 34, 35, 36, 37, 38, 39] (by kernel_rfl) (by kernel_rfl) (by kernel_rfl) ?_ ?_ ?_
  · intro s
    exact ⟨HS1.out.drew, Looks.none _ _⟩
  · refine StepsR.cons (k := 0) [] (by kernel_rfl) ?_ (StepsR.cons (k := 1) [0] (by kernel_rfl) ?_ (StepsR.cons (k := 2) [1] (by kernel_rfl) ?_ (StepsR.cons (k := 3) [2] (by kernel_rfl) ?_ (StepsR.cons (k := 4) [3] (by kernel_rfl) ?_ (StepsR.cons (k := 5) [4, 3] (by kernel_rfl) ?_ (StepsR.cons (k := 6) [3, 5] (by kernel_rfl) ?_ (StepsR.cons (k := 7) [3, 6] (by kernel_rfl) ?_ (StepsR.cons (k := 8) [7] (by kernel_rfl) ?_ (StepsR.cons (k := 9) [8] (by kernel_rfl) ?_ (StepsR.cons (k := 10) [8, 9] (by kernel_rfl) ?_ (StepsR.cons (k := 11) [8] (by kernel_rfl) ?_ (StepsR.cons (k := 12) [8, 11] (by kernel_rfl) ?_ (StepsR.cons (k := 13) [8, 10, 12] (by kernel_rfl) ?_ (StepsR.cons (k := 14) [8, 13] (by kernel_rfl) ?_ (StepsR.cons (k := 15) [14] (by kernel_rfl) ?_ (StepsR.cons (k := 16) [15] (by kernel_rfl) ?_ (StepsR.cons (k := 17) [15, 16] (by kernel_rfl) ?_ (StepsR.cons (k := 18) [15, 17] (by kernel_rfl) ?_ (StepsR.cons (k := 19) [15, 18] (by kernel_rfl) ?_ (StepsR.cons (k := 20) [15] (by kernel_rfl) ?_ (StepsR.cons (k := 21) [15, 20] (by kernel_rfl) ?_ (StepsR.cons (k := 22) [15, 21] (by kernel_rfl) ?_ (StepsR.cons (k := 23) [15, 22] (by kernel_rfl) ?_ (StepsR.cons (k := 24) [15] (by kernel_rfl) ?_ (StepsR.cons (k := 25) [15, 24] (by kernel_rfl) ?_ (StepsR.cons (k := 26) [15] (by kernel_rfl) ?_ (StepsR.cons (k := 27) [19, 23, 25, 26, 15] (by kernel_rfl) ?_ (StepsR.cons (k := 28) [15, 27] (by kernel_rfl) ?_ (StepsR.cons (k := 29) [15, 28] (by kernel_rfl) ?_ (StepsR.cons (k := 30) [29] (by kernel_rfl) ?_ (StepsR.cons (k := 31) [30] (by kernel_rfl) ?_ (StepsR.cons (k := 32) [30] (by kernel_rfl) ?_ (StepsR.cons (k := 33) [30] (by kernel_rfl) ?_ (StepsR.cons (k := 34) [30] (by kernel_rfl) ?_ (StepsR.cons (k := 35) [30] (by kernel_rfl) ?_ (StepsR.cons (k := 36) [30] (by kernel_rfl) ?_ (StepsR.cons (k := 37) [30] (by kernel_rfl) ?_ (StepsR.cons (k := 38) [30] (by kernel_rfl) ?_ (StepsR.cons (k := 39) [30, 38] (by kernel_rfl) ?_ (StepsR.nil))))))))))))))))))))))))))))))))))))))))
    · intro d s w9 hd hA hC hF K hK
      have hB9 := hF.1.bel
      simp only [putL, putT, List.setIfInBounds_toArray, List.set_cons_zero, List.set_cons_succ]
      clear hB9
      as_aux_lemma =>
        go_simp
        refine hK.out (updS s 14 (Value.pointer (some ⟨w.heap.size + 1, 0, none⟩))) _ _ ?_ ⟨hF.1, hF.2.put 0 14 (Value.pointer (some ⟨w.heap.size + 1, 0, none⟩)) rfl (by simp)⟩
        simp only [putL, putT, List.setIfInBounds_toArray, List.set_cons_zero, List.set_cons_succ]; rfl
    · intro d s w9 hd hA hC hF K hK
      have hB9 := hF.1.bel
      simp only [putL, putT, List.setIfInBounds_toArray, List.set_cons_zero, List.set_cons_succ]
      clear hB9
      as_aux_lemma =>
        have eq0 : s 14 = Value.pointer (some ⟨w.heap.size + 1, 0, none⟩) := hF.2 (0, 14, Value.pointer (some ⟨w.heap.size + 1, 0, none⟩)) (by simp) (hA.1)
        rw [eq0]
        have p0 := hF.1.cell 1 rfl 0 (.int .i64 5) rfl
        go_simp
        clear p0
        refine hK.out (updS s 15 (Value.int .i64 5)) _ _ ?_ ⟨hF.1, hF.2.put 1 15 (Value.int .i64 5) rfl (by simp)⟩
        simp only [putL, putT, List.setIfInBounds_toArray, List.set_cons_zero, List.set_cons_succ]; rw [show updS s 15 (Value.int .i64 5) 14 = Value.pointer (some ⟨w.heap.size + 1, 0, none⟩) from eq0]; rfl
    · intro d s w9 hd hA hC hF K hK
      have hB9 := hF.1.bel
      simp only [putL, putT, List.setIfInBounds_toArray, List.set_cons_zero, List.set_cons_succ]
      clear hB9
      as_aux_lemma =>
        have eq1 : s 15 = Value.int .i64 5 := hF.2 (1, 15, Value.int .i64 5) (by simp) (hA.1)
        rw [eq1]
        go_simp
        refine hK.out (updS s 16 (.bool false)) _ _ ?_ ⟨hF.1, hF.2.put 2 16 (.bool false) rfl (by simp)⟩
        simp only [putL, putT, List.setIfInBounds_toArray, List.set_cons_zero, List.set_cons_succ]; rw [show updS s 16 (.bool false) 15 = Value.int .i64 5 from eq1]; rfl
    · intro d s w9 hd hA hC hF K hK
      have hB9 := hF.1.bel
      simp only [putL, putT, List.setIfInBounds_toArray, List.set_cons_zero, List.set_cons_succ]
      clear hB9
      as_aux_lemma =>
        have eq2 : s 16 = .bool false := hF.2 (2, 16, .bool false) (by simp) (hA.1)
        rw [eq2]
        go_simp
        refine hK.out (updS s 17 (.bool false)) _ _ ?_ ⟨hF.1, hF.2.put 3 17 (.bool false) rfl (by simp)⟩
        simp only [putL, putT, List.setIfInBounds_toArray, List.set_cons_zero, List.set_cons_succ]; rw [show updS s 17 (.bool false) 16 = .bool false from eq2]; rfl
    · intro d s w9 hd hA hC hF K hK
      have hB9 := hF.1.bel
      simp only [putL, putT, List.setIfInBounds_toArray, List.set_cons_zero, List.set_cons_succ]
      clear hB9
      as_aux_lemma =>
        have eq3 : s 17 = .bool false := hF.2 (3, 17, .bool false) (by simp) (hA.1)
        rw [eq3]
        have p0 := hF.1.cell 1 rfl 0 (.int .i64 5) rfl
        have p1 := hF.1.cell 1 rfl 1 (.int .i64 cl) rfl
        have p2 := hF.1.cell 1 rfl 2 (.int .i64 i) rfl
        have p3 := hF.1.cell 1 rfl 3 (.int .i64 nc) rfl
        have p4 := hF.1.cell 1 rfl 4 (.slice (some ⟨g2, 0, none⟩) ys.length cap) rfl
        go_simp
        clear p0 p1 p2 p3 p4
        refine hK.out (updS s 18 (Value.agg #[.int .i64 5, .int .i64 cl, .int .i64 i, .int .i64 nc, .slice (some ⟨g2, 0, none⟩) ys.length cap])) _ _ ?_ ⟨hF.1, hF.2.put 4 18 (Value.agg #[.int .i64 5, .int .i64 cl, .int .i64 i, .int .i64 nc, .slice (some ⟨g2, 0, none⟩) ys.length cap]) rfl (by simp)⟩
        simp only [putL, putT, List.setIfInBounds_toArray, List.set_cons_zero, List.set_cons_succ]; rw [show updS s 18 (Value.agg #[.int .i64 5, .int .i64 cl, .int .i64 i, .int .i64 nc, .slice (some ⟨g2, 0, none⟩) ys.length cap]) 17 = .bool false from eq3]; rfl
    · intro d s w9 hd hA hC hF K hK
      have hB9 := hF.1.bel
      simp only [putL, putT, List.setIfInBounds_toArray, List.set_cons_zero, List.set_cons_succ]
      clear hB9
      as_aux_lemma =>
        have eq4 : s 18 = Value.agg #[.int .i64 5, .int .i64 cl, .int .i64 i, .int .i64 nc, .slice (some ⟨g2, 0, none⟩) ys.length cap] := hF.2 (4, 18, Value.agg #[.int .i64 5, .int .i64 cl, .int .i64 i, .int .i64 nc, .slice (some ⟨g2, 0, none⟩) ys.length cap]) (by simp) (hA.1)
        have eq3 : s 17 = .bool false := hF.2 (3, 17, .bool false) (by simp) (hA.2.1)
        rw [eq4, eq3]
        go_simp
        refine (specMsg_any 5 cl i nc _ _ ys _ (srow_base HH.out.1 HH.out.2 hF.1.bel) (by omega)).mono ?_
        rintro r w8 ⟨rfl, b9⟩
        rw [u4]
        go_simp
        refine hK.out (updS s 19 (.bool true)) _ _ ?_ ⟨St.grow b9 hF.1, hF.2.put 5 19 (.bool true) rfl (by simp)⟩
        simp only [putL, putT, List.setIfInBounds_toArray, List.set_cons_zero, List.set_cons_succ]
        rw [show updS s 19 (.bool true) 18 = Value.agg #[.int .i64 5, .int .i64 cl, .int .i64 i, .int .i64 nc, .slice (some ⟨g2, 0, none⟩) ys.length cap] from eq4, show updS s 19 (.bool true) 17 = .bool false from eq3] <;> rfl
    · intro d s w9 hd hA hC hF K hK
      have hB9 := hF.1.bel
      simp only [putL, putT, List.setIfInBounds_toArray, List.set_cons_zero, List.set_cons_succ]
      clear hB9
      as_aux_lemma =>
        have eq3 : s 17 = .bool false := hF.2 (3, 17, .bool false) (by simp) (hA.1)
        have eq5 : s 19 = .bool true := hF.2 (5, 19, .bool true) (by simp) (hA.2.1)
        rw [eq3, eq5]
        go_simp
        refine hK.out (updS s 20 (.bool false)) _ _ ?_ ⟨hF.1, hF.2.put 6 20 (.bool false) rfl (by simp)⟩
        simp only [putL, putT, List.setIfInBounds_toArray, List.set_cons_zero, List.set_cons_succ]; rw [show updS s 20 (.bool false) 17 = .bool false from eq3, show updS s 20 (.bool false) 19 = .bool true from eq5]; rfl
    · intro d s w9 hd hA hC hF K hK
      have hB9 := hF.1.bel
      simp only [putL, putT, List.setIfInBounds_toArray, List.set_cons_zero, List.set_cons_succ]
      clear hB9
      as_aux_lemma =>
        have eq3 : s 17 = .bool false := hF.2 (3, 17, .bool false) (by simp) (hA.1)
        have eq6 : s 20 = .bool false := hF.2 (6, 20, .bool false) (by simp) (hA.2.1)
        rw [eq3, eq6]
        go_simp
        refine hK.out (updS s 21 (.bool false)) _ _ ?_ ⟨hF.1, hF.2.put 7 21 (.bool false) rfl (by simp)⟩
        simp only [putL, putT, List.setIfInBounds_toArray, List.set_cons_zero, List.set_cons_succ]; rw [show updS s 21 (.bool false) 17 = .bool false from eq3, show updS s 21 (.bool false) 20 = .bool false from eq6]; rfl
    · intro d s w9 hd hA hC hF K hK
      have hB9 := hF.1.bel
      simp only [putL, putT, List.setIfInBounds_toArray, List.set_cons_zero, List.set_cons_succ]
      clear hB9
      as_aux_lemma =>
        have eq7 : s 21 = .bool false := hF.2 (7, 21, .bool false) (by simp) (hA.1)
        rw [eq7]
        go_simp
        refine hK.out (updS s 22 (.bool false)) _ _ ?_ ⟨hF.1, hF.2.put 8 22 (.bool false) rfl (by simp)⟩
        simp only [putL, putT, List.setIfInBounds_toArray, List.set_cons_zero, List.set_cons_succ]; rw [show updS s 22 (.bool false) 21 = .bool false from eq7]; rfl
    · intro d s w9 hd hA hC hF K hK
      have hB9 := hF.1.bel
      simp only [putL, putT, List.setIfInBounds_toArray, List.set_cons_zero, List.set_cons_succ]
      clear hB9
      as_aux_lemma =>
        have eq8 : s 22 = .bool false := hF.2 (8, 22, .bool false) (by simp) (hA.1)
        rw [eq8]
        go_simp
        refine hK.out (updS s 23 (Value.pointer (some ⟨w.heap.size + 1, 2, none⟩))) _ _ ?_ ⟨hF.1, hF.2.put 9 23 (Value.pointer (some ⟨w.heap.size + 1, 2, none⟩)) rfl (by simp)⟩
        simp only [putL, putT, List.setIfInBounds_toArray, List.set_cons_zero, List.set_cons_succ]; rw [show updS s 23 (Value.pointer (some ⟨w.heap.size + 1, 2, none⟩)) 22 = .bool false from eq8]; rfl
    · intro d s w9 hd hA hC hF K hK
      have hB9 := hF.1.bel
      simp only [putL, putT, List.setIfInBounds_toArray, List.set_cons_zero, List.set_cons_succ]
      clear hB9
      as_aux_lemma =>
        have eq8 : s 22 = .bool false := hF.2 (8, 22, .bool false) (by simp) (hA.1)
        have eq9 : s 23 = Value.pointer (some ⟨w.heap.size + 1, 2, none⟩) := hF.2 (9, 23, Value.pointer (some ⟨w.heap.size + 1, 2, none⟩)) (by simp) (hA.2.1)
        rw [eq8, eq9]
        have p2 := hF.1.cell 1 rfl 2 (.int .i64 i) rfl
        go_simp
        clear p2
        refine hK.out (updS s 24 (Value.int .i64 i)) _ _ ?_ ⟨hF.1, hF.2.put 10 24 (Value.int .i64 i) rfl (by simp)⟩
        simp only [putL, putT, List.setIfInBounds_toArray, List.set_cons_zero, List.set_cons_succ]; rw [show updS s 24 (Value.int .i64 i) 22 = .bool false from eq8, show updS s 24 (Value.int .i64 i) 23 = Value.pointer (some ⟨w.heap.size + 1, 2, none⟩) from eq9]; rfl
    · intro d s w9 hd hA hC hF K hK
      have hB9 := hF.1.bel
      simp only [putL, putT, List.setIfInBounds_toArray, List.set_cons_zero, List.set_cons_succ]
      clear hB9
      as_aux_lemma =>
        have eq8 : s 22 = .bool false := hF.2 (8, 22, .bool false) (by simp) (hA.1)
        rw [eq8]
        go_simp
        refine hK.out (updS s 25 (Value.pointer (some ⟨w.heap.size, 0, none⟩))) _ _ ?_ ⟨hF.1, hF.2.put 11 25 (Value.pointer (some ⟨w.heap.size, 0, none⟩)) rfl (by simp)⟩
        simp only [putL, putT, List.setIfInBounds_toArray, List.set_cons_zero, List.set_cons_succ]; rw [show updS s 25 (Value.pointer (some ⟨w.heap.size, 0, none⟩)) 22 = .bool false from eq8]; rfl
    · intro d s w9 hd hA hC hF K hK
      have hB9 := hF.1.bel
      simp only [putL, putT, List.setIfInBounds_toArray, List.set_cons_zero, List.set_cons_succ]
      clear hB9
      as_aux_lemma =>
        have eq8 : s 22 = .bool false := hF.2 (8, 22, .bool false) (by simp) (hA.1)
        have eq11 : s 25 = Value.pointer (some ⟨w.heap.size, 0, none⟩) := hF.2 (11, 25, Value.pointer (some ⟨w.heap.size, 0, none⟩)) (by simp) (hA.2.1)
        rw [eq8, eq11]
        have p0 := hF.1.cell 0 rfl 0 (.int .i64 i) rfl
        go_simp
        clear p0
        refine hK.out (updS s 26 (Value.int .i64 i)) _ _ ?_ ⟨hF.1, hF.2.put 12 26 (Value.int .i64 i) rfl (by simp)⟩
        simp only [putL, putT, List.setIfInBounds_toArray, List.set_cons_zero, List.set_cons_succ]; rw [show updS s 26 (Value.int .i64 i) 22 = .bool false from eq8, show updS s 26 (Value.int .i64 i) 25 = Value.pointer (some ⟨w.heap.size, 0, none⟩) from eq11]; rfl
    · intro d s w9 hd hA hC hF K hK
      have hB9 := hF.1.bel
      simp only [putL, putT, List.setIfInBounds_toArray, List.set_cons_zero, List.set_cons_succ]
      clear hB9
      as_aux_lemma =>
        have eq8 : s 22 = .bool false := hF.2 (8, 22, .bool false) (by simp) (hA.1)
        have eq10 : s 24 = Value.int .i64 i := hF.2 (10, 24, Value.int .i64 i) (by simp) (hA.2.1)
        have eq12 : s 26 = Value.int .i64 i := hF.2 (12, 26, Value.int .i64 i) (by simp) (hA.2.2.1)
        rw [eq8, eq10, eq12]
        go_simp
        refine hK.out (updS s 27 (.bool false)) _ _ ?_ ⟨hF.1, hF.2.put 13 27 (.bool false) rfl (by simp)⟩
        simp only [putL, putT, List.setIfInBounds_toArray, List.set_cons_zero, List.set_cons_succ]; rw [show updS s 27 (.bool false) 22 = .bool false from eq8, show updS s 27 (.bool false) 24 = Value.int .i64 i from eq10, show updS s 27 (.bool false) 26 = Value.int .i64 i from eq12]; rfl
    · intro d s w9 hd hA hC hF K hK
      have hB9 := hF.1.bel
      simp only [putL, putT, List.setIfInBounds_toArray, List.set_cons_zero, List.set_cons_succ]
      clear hB9
      as_aux_lemma =>
        have eq8 : s 22 = .bool false := hF.2 (8, 22, .bool false) (by simp) (hA.1)
        have eq13 : s 27 = .bool false := hF.2 (13, 27, .bool false) (by simp) (hA.2.1)
        rw [eq8, eq13]
        go_simp
        refine hK.out (updS s 28 (.bool false)) _ _ ?_ ⟨hF.1, hF.2.put 14 28 (.bool false) rfl (by simp)⟩
        simp only [putL, putT, List.setIfInBounds_toArray, List.set_cons_zero, List.set_cons_succ]; rw [show updS s 28 (.bool false) 22 = .bool false from eq8, show updS s 28 (.bool false) 27 = .bool false from eq13]; rfl
    · intro d s w9 hd hA hC hF K hK
      have hB9 := hF.1.bel
      simp only [putL, putT, List.setIfInBounds_toArray, List.set_cons_zero, List.set_cons_succ]
      clear hB9
      as_aux_lemma =>
        have eq14 : s 28 = .bool false := hF.2 (14, 28, .bool false) (by simp) (hA.1)
        rw [eq14]
        go_simp
        refine hK.out (updS s 29 (.bool false)) _ _ ?_ ⟨hF.1, hF.2.put 15 29 (.bool false) rfl (by simp)⟩
        simp only [putL, putT, List.setIfInBounds_toArray, List.set_cons_zero, List.set_cons_succ]; rw [show updS s 29 (.bool false) 28 = .bool false from eq14]; rfl
    · intro d s w9 hd hA hC hF K hK
      have hB9 := hF.1.bel
      simp only [putL, putT, List.setIfInBounds_toArray, List.set_cons_zero, List.set_cons_succ]
      clear hB9
      as_aux_lemma =>
        have eq15 : s 29 = .bool false := hF.2 (15, 29, .bool false) (by simp) (hA.1)
        rw [eq15]
        go_simp
        refine hK.out (updS s 30 (Value.pointer (some ⟨w.heap.size + 1, 4, none⟩))) _ _ ?_ ⟨hF.1, hF.2.put 16 30 (Value.pointer (some ⟨w.heap.size + 1, 4, none⟩)) rfl (by simp)⟩
        simp only [putL, putT, List.setIfInBounds_toArray, List.set_cons_zero, List.set_cons_succ]; rw [show updS s 30 (Value.pointer (some ⟨w.heap.size + 1, 4, none⟩)) 29 = .bool false from eq15]; rfl
    · intro d s w9 hd hA hC hF K hK
      have hB9 := hF.1.bel
      simp only [putL, putT, List.setIfInBounds_toArray, List.set_cons_zero, List.set_cons_succ]
      clear hB9
      as_aux_lemma =>
        have eq15 : s 29 = .bool false := hF.2 (15, 29, .bool false) (by simp) (hA.1)
        have eq16 : s 30 = Value.pointer (some ⟨w.heap.size + 1, 4, none⟩) := hF.2 (16, 30, Value.pointer (some ⟨w.heap.size + 1, 4, none⟩)) (by simp) (hA.2.1)
        rw [eq15, eq16]
        have p4 := hF.1.cell 1 rfl 4 (.slice (some ⟨g2, 0, none⟩) ys.length cap) rfl
        go_simp
        clear p4
        refine hK.out (updS s 31 (Value.slice (some ⟨g2, 0, none⟩) ys.length cap)) _ _ ?_ ⟨hF.1, hF.2.put 17 31 (Value.slice (some ⟨g2, 0, none⟩) ys.length cap) rfl (by simp)⟩
        simp only [putL, putT, List.setIfInBounds_toArray, List.set_cons_zero, List.set_cons_succ]; rw [show updS s 31 (Value.slice (some ⟨g2, 0, none⟩) ys.length cap) 29 = .bool false from eq15, show updS s 31 (Value.slice (some ⟨g2, 0, none⟩) ys.length cap) 30 = Value.pointer (some ⟨w.heap.size + 1, 4, none⟩) from eq16]; rfl
    · intro d s w9 hd hA hC hF K hK
      have hB9 := hF.1.bel
      simp only [putL, putT, List.setIfInBounds_toArray, List.set_cons_zero, List.set_cons_succ]
      clear hB9
      as_aux_lemma =>
        have eq15 : s 29 = .bool false := hF.2 (15, 29, .bool false) (by simp) (hA.1)
        have eq17 : s 31 = Value.slice (some ⟨g2, 0, none⟩) ys.length cap := hF.2 (17, 31, Value.slice (some ⟨g2, 0, none⟩) ys.length cap) (by simp) (hA.2.1)
        rw [eq15, eq17]
        go_simp
        refine hK.out (updS s 32 (Value.pointer (some ⟨g2, 0, none⟩))) _ _ ?_ ⟨hF.1, hF.2.put 18 32 (Value.pointer (some ⟨g2, 0, none⟩)) rfl (by simp)⟩
        simp only [putL, putT, List.setIfInBounds_toArray, List.set_cons_zero, List.set_cons_succ]; rw [show updS s 32 (Value.pointer (some ⟨g2, 0, none⟩)) 29 = .bool false from eq15, show updS s 32 (Value.pointer (some ⟨g2, 0, none⟩)) 31 = Value.slice (some ⟨g2, 0, none⟩) ys.length cap from eq17]; rfl
    · intro d s w9 hd hA hC hF K hK
      have hB9 := hF.1.bel
      simp only [putL, putT, List.setIfInBounds_toArray, List.set_cons_zero, List.set_cons_succ]
      clear hB9
      as_aux_lemma =>
        have eq15 : s 29 = .bool false := hF.2 (15, 29, .bool false) (by simp) (hA.1)
        have eq18 : s 32 = Value.pointer (some ⟨g2, 0, none⟩) := hF.2 (18, 32, Value.pointer (some ⟨g2, 0, none⟩)) (by simp) (hA.2.1)
        rw [eq15, eq18]
        obtain ⟨q0, q1, q2, q3, q4, q5, q6⟩ := (srow_two' (srow_base HH.out.1 HH.out.2 hF.1.bel) HY.out.1).1
        simp only [Nat.zero_add] at q0 q1 q2 q3 q4 q5 q6
        go_simp
        clear q0 q1 q2 q3 q4 q5 q6
        refine hK.out (updS s 33 (Value.agg #[.int .i64 t.k, .int .i64 t.t, .int .i64 t.a, .int .i64 t.b, .int .i64 t.c, .int .i64 t.d, .int .i64 t.e])) _ _ ?_ ⟨hF.1, hF.2.put 19 33 (Value.agg #[.int .i64 t.k, .int .i64 t.t, .int .i64 t.a, .int .i64 t.b, .int .i64 t.c, .int .i64 t.d, .int .i64 t.e]) rfl (by simp)⟩
        simp only [putL, putT, List.setIfInBounds_toArray, List.set_cons_zero, List.set_cons_succ]; rw [show updS s 33 (Value.agg #[.int .i64 t.k, .int .i64 t.t, .int .i64 t.a, .int .i64 t.b, .int .i64 t.c, .int .i64 t.d, .int .i64 t.e]) 29 = .bool false from eq15, show updS s 33 (Value.agg #[.int .i64 t.k, .int .i64 t.t, .int .i64 t.a, .int .i64 t.b, .int .i64 t.c, .int .i64 t.d, .int .i64 t.e]) 32 = Value.pointer (some ⟨g2, 0, none⟩) from eq18]; rfl
    · intro d s w9 hd hA hC hF K hK
      have hB9 := hF.1.bel
      simp only [putL, putT, List.setIfInBounds_toArray, List.set_cons_zero, List.set_cons_succ]
      clear hB9
      as_aux_lemma =>
        have eq15 : s 29 = .bool false := hF.2 (15, 29, .bool false) (by simp) (hA.1)
        rw [eq15]
        go_simp
        refine hK.out (updS s 34 (Value.pointer (some ⟨w.heap.size + 1, 4, none⟩))) _ _ ?_ ⟨hF.1, hF.2.put 20 34 (Value.pointer (some ⟨w.heap.size + 1, 4, none⟩)) rfl (by simp)⟩
        simp only [putL, putT, List.setIfInBounds_toArray, List.set_cons_zero, List.set_cons_succ]; rw [show updS s 34 (Value.pointer (some ⟨w.heap.size + 1, 4, none⟩)) 29 = .bool false from eq15]; rfl
    · intro d s w9 hd hA hC hF K hK
      have hB9 := hF.1.bel
      simp only [putL, putT, List.setIfInBounds_toArray, List.set_cons_zero, List.set_cons_succ]
      clear hB9
      as_aux_lemma =>
        have eq15 : s 29 = .bool false := hF.2 (15, 29, .bool false) (by simp) (hA.1)
        have eq20 : s 34 = Value.pointer (some ⟨w.heap.size + 1, 4, none⟩) := hF.2 (20, 34, Value.pointer (some ⟨w.heap.size + 1, 4, none⟩)) (by simp) (hA.2.1)
        rw [eq15, eq20]
        have p4 := hF.1.cell 1 rfl 4 (.slice (some ⟨g2, 0, none⟩) ys.length cap) rfl
        go_simp
        clear p4
        refine hK.out (updS s 35 (Value.slice (some ⟨g2, 0, none⟩) ys.length cap)) _ _ ?_ ⟨hF.1, hF.2.put 21 35 (Value.slice (some ⟨g2, 0, none⟩) ys.length cap) rfl (by simp)⟩
        simp only [putL, putT, List.setIfInBounds_toArray, List.set_cons_zero, List.set_cons_succ]; rw [show updS s 35 (Value.slice (some ⟨g2, 0, none⟩) ys.length cap) 29 = .bool false from eq15, show updS s 35 (Value.slice (some ⟨g2, 0, none⟩) ys.length cap) 34 = Value.pointer (some ⟨w.heap.size + 1, 4, none⟩) from eq20]; rfl
    · intro d s w9 hd hA hC hF K hK
      have hB9 := hF.1.bel
      simp only [putL, putT, List.setIfInBounds_toArray, List.set_cons_zero, List.set_cons_succ]
      clear hB9
      as_aux_lemma =>
        have eq15 : s 29 = .bool false := hF.2 (15, 29, .bool false) (by simp) (hA.1)
        have eq21 : s 35 = Value.slice (some ⟨g2, 0, none⟩) ys.length cap := hF.2 (21, 35, Value.slice (some ⟨g2, 0, none⟩) ys.length cap) (by simp) (hA.2.1)
        rw [eq15, eq21]
        go_simp
        refine hK.out (updS s 36 (Value.pointer (some ⟨g2, 7, none⟩))) _ _ ?_ ⟨hF.1, hF.2.put 22 36 (Value.pointer (some ⟨g2, 7, none⟩)) rfl (by simp)⟩
        simp only [putL, putT, List.setIfInBounds_toArray, List.set_cons_zero, List.set_cons_succ]; rw [show updS s 36 (Value.pointer (some ⟨g2, 7, none⟩)) 29 = .bool false from eq15, show updS s 36 (Value.pointer (some ⟨g2, 7, none⟩)) 35 = Value.slice (some ⟨g2, 0, none⟩) ys.length cap from eq21]; rfl
    · intro d s w9 hd hA hC hF K hK
      have hB9 := hF.1.bel
      simp only [putL, putT, List.setIfInBounds_toArray, List.set_cons_zero, List.set_cons_succ]
      clear hB9
      as_aux_lemma =>
        have eq15 : s 29 = .bool false := hF.2 (15, 29, .bool false) (by simp) (hA.1)
        have eq22 : s 36 = Value.pointer (some ⟨g2, 7, none⟩) := hF.2 (22, 36, Value.pointer (some ⟨g2, 7, none⟩)) (by simp) (hA.2.1)
        rw [eq15, eq22]
        obtain ⟨q0, q1, q2, q3, q4, q5, q6⟩ := (srow_two' (srow_base HH.out.1 HH.out.2 hF.1.bel) HY.out.1).2
        go_simp
        clear q0 q1 q2 q3 q4 q5 q6
        refine hK.out (updS s 37 (Value.agg #[.int .i64 u.k, .int .i64 u.t, .int .i64 u.a, .int .i64 u.b, .int .i64 u.c, .int .i64 u.d, .int .i64 u.e])) _ _ ?_ ⟨hF.1, hF.2.put 23 37 (Value.agg #[.int .i64 u.k, .int .i64 u.t, .int .i64 u.a, .int .i64 u.b, .int .i64 u.c, .int .i64 u.d, .int .i64 u.e]) rfl (by simp)⟩
        simp only [putL, putT, List.setIfInBounds_toArray, List.set_cons_zero, List.set_cons_succ]; rw [show updS s 37 (Value.agg #[.int .i64 u.k, .int .i64 u.t, .int .i64 u.a, .int .i64 u.b, .int .i64 u.c, .int .i64 u.d, .int .i64 u.e]) 29 = .bool false from eq15, show updS s 37 (Value.agg #[.int .i64 u.k, .int .i64 u.t, .int .i64 u.a, .int .i64 u.b, .int .i64 u.c, .int .i64 u.d, .int .i64 u.e]) 36 = Value.pointer (some ⟨g2, 7, none⟩) from eq22]; rfl
    · intro d s w9 hd hA hC hF K hK
      have hB9 := hF.1.bel
      simp only [putL, putT, List.setIfInBounds_toArray, List.set_cons_zero, List.set_cons_succ]
      clear hB9
      as_aux_lemma =>
        have eq15 : s 29 = .bool false := hF.2 (15, 29, .bool false) (by simp) (hA.1)
        rw [eq15]
        go_simp
        refine hK.out (updS s 38 (Value.pointer (some ⟨w.heap.size, 0, none⟩))) _ _ ?_ ⟨hF.1, hF.2.put 24 38 (Value.pointer (some ⟨w.heap.size, 0, none⟩)) rfl (by simp)⟩
        simp only [putL, putT, List.setIfInBounds_toArray, List.set_cons_zero, List.set_cons_succ]; rw [show updS s 38 (Value.pointer (some ⟨w.heap.size, 0, none⟩)) 29 = .bool false from eq15]; rfl
    · intro d s w9 hd hA hC hF K hK
      have hB9 := hF.1.bel
      simp only [putL, putT, List.setIfInBounds_toArray, List.set_cons_zero, List.set_cons_succ]
      clear hB9
      as_aux_lemma =>
        have eq15 : s 29 = .bool false := hF.2 (15, 29, .bool false) (by simp) (hA.1)
        have eq24 : s 38 = Value.pointer (some ⟨w.heap.size, 0, none⟩) := hF.2 (24, 38, Value.pointer (some ⟨w.heap.size, 0, none⟩)) (by simp) (hA.2.1)
        rw [eq15, eq24]
        have p0 := hF.1.cell 0 rfl 0 (.int .i64 i) rfl
        go_simp
        clear p0
        refine hK.out (updS s 39 (Value.int .i64 i)) _ _ ?_ ⟨hF.1, hF.2.put 25 39 (Value.int .i64 i) rfl (by simp)⟩
        simp only [putL, putT, List.setIfInBounds_toArray, List.set_cons_zero, List.set_cons_succ]; rw [show updS s 39 (Value.int .i64 i) 29 = .bool false from eq15, show updS s 39 (Value.int .i64 i) 38 = Value.pointer (some ⟨w.heap.size, 0, none⟩) from eq24]; rfl
    · intro d s w9 hd hA hC hF K hK
      have hB9 := hF.1.bel
      simp only [putL, putT, List.setIfInBounds_toArray, List.set_cons_zero, List.set_cons_succ]
      clear hB9
      as_aux_lemma =>
        have eq15 : s 29 = .bool false := hF.2 (15, 29, .bool false) (by simp) (hA.1)
        rw [eq15]
        go_simp
        refine hK.out (updS s 40 (Value.int .i64 now)) _ _ ?_ ⟨hF.1, hF.2.put 26 40 (Value.int .i64 now) rfl (by simp)⟩
        simp only [putL, putT, List.setIfInBounds_toArray, List.set_cons_zero, List.set_cons_succ]; rw [show updS s 40 (Value.int .i64 now) 29 = .bool false from eq15]; rfl
    · intro d s w9 hd hA hC hF K hK
      have hB9 := hF.1.bel
      simp only [putL, putT, List.setIfInBounds_toArray, List.set_cons_zero, List.set_cons_succ]
      clear hB9
      as_aux_lemma =>
        have eq19 : s 33 = Value.agg #[.int .i64 t.k, .int .i64 t.t, .int .i64 t.a, .int .i64 t.b, .int .i64 t.c, .int .i64 t.d, .int .i64 t.e] := hF.2 (19, 33, Value.agg #[.int .i64 t.k, .int .i64 t.t, .int .i64 t.a, .int .i64 t.b, .int .i64 t.c, .int .i64 t.d, .int .i64 t.e]) (by simp) (hA.1)
        have eq23 : s 37 = Value.agg #[.int .i64 u.k, .int .i64 u.t, .int .i64 u.a, .int .i64 u.b, .int .i64 u.c, .int .i64 u.d, .int .i64 u.e] := hF.2 (23, 37, Value.agg #[.int .i64 u.k, .int .i64 u.t, .int .i64 u.a, .int .i64 u.b, .int .i64 u.c, .int .i64 u.d, .int .i64 u.e]) (by simp) (hA.2.1)
        have eq25 : s 39 = Value.int .i64 i := hF.2 (25, 39, Value.int .i64 i) (by simp) (hA.2.2.1)
        have eq26 : s 40 = Value.int .i64 now := hF.2 (26, 40, Value.int .i64 now) (by simp) (hA.2.2.2.1)
        have eq15 : s 29 = .bool false := hF.2 (15, 29, .bool false) (by simp) (hA.2.2.2.2.1)
        rw [eq19, eq23, eq25, eq26, eq15]
        go_simp
        refine (l11Shown_any t u i now _).mono ?_
        rintro r w8 ⟨rfl, b9⟩
        rw [HSB.out]
        go_simp
        refine hK.out (updS s 41 (.bool false)) _ _ ?_ ⟨St.grow b9 hF.1, hF.2.put 27 41 (.bool false) rfl (by simp)⟩
        simp only [putL, putT, List.setIfInBounds_toArray, List.set_cons_zero, List.set_cons_succ]
        rw [show updS s 41 (.bool false) 33 = Value.agg #[.int .i64 t.k, .int .i64 t.t, .int .i64 t.a, .int .i64 t.b, .int .i64 t.c, .int .i64 t.d, .int .i64 t.e] from eq19, show updS s 41 (.bool false) 37 = Value.agg #[.int .i64 u.k, .int .i64 u.t, .int .i64 u.a, .int .i64 u.b, .int .i64 u.c, .int .i64 u.d, .int .i64 u.e] from eq23, show updS s 41 (.bool false) 39 = Value.int .i64 i from eq25, show updS s 41 (.bool false) 40 = Value.int .i64 now from eq26, show updS s 41 (.bool false) 29 = .bool false from eq15] <;> rfl
    · intro d s w9 hd hA hC hF K hK
      have hB9 := hF.1.bel
      simp only [putL, putT, List.setIfInBounds_toArray, List.set_cons_zero, List.set_cons_succ]
      clear hB9
      as_aux_lemma =>
        have eq15 : s 29 = .bool false := hF.2 (15, 29, .bool false) (by simp) (hA.1)
        have eq27 : s 41 = .bool false := hF.2 (27, 41, .bool false) (by simp) (hA.2.1)
        rw [eq15, eq27]
        go_simp
        refine hK.out (updS s 42 (.bool true)) _ _ ?_ ⟨hF.1, hF.2.put 28 42 (.bool true) rfl (by simp)⟩
        simp only [putL, putT, List.setIfInBounds_toArray, List.set_cons_zero, List.set_cons_succ]; rw [show updS s 42 (.bool true) 29 = .bool false from eq15, show updS s 42 (.bool true) 41 = .bool false from eq27]; rfl
    · intro d s w9 hd hA hC hF K hK
      have hB9 := hF.1.bel
      simp only [putL, putT, List.setIfInBounds_toArray, List.set_cons_zero, List.set_cons_succ]
      clear hB9
      as_aux_lemma =>
        have eq15 : s 29 = .bool false := hF.2 (15, 29, .bool false) (by simp) (hA.1)
        have eq28 : s 42 = .bool true := hF.2 (28, 42, .bool true) (by simp) (hA.2.1)
        rw [eq15, eq28]
        go_simp
        refine hK.out (updS s 43 (.bool true)) _ _ ?_ ⟨hF.1, hF.2.put 29 43 (.bool true) rfl (by simp)⟩
        simp only [putL, putT, List.setIfInBounds_toArray, List.set_cons_zero, List.set_cons_succ]; rw [show updS s 43 (.bool true) 29 = .bool false from eq15, show updS s 43 (.bool true) 42 = .bool true from eq28]; rfl
    · intro d s w9 hd hA hC hF K hK
      have hB9 := hF.1.bel
      simp only [putL, putT, List.setIfInBounds_toArray, List.set_cons_zero, List.set_cons_succ]
      clear hB9
      as_aux_lemma =>
        have eq29 : s 43 = .bool true := hF.2 (29, 43, .bool true) (by simp) (hA.1)
        rw [eq29]
        go_simp
        refine hK.out (updS s 44 (.bool true)) _ _ ?_ ⟨hF.1, hF.2.put 30 44 (.bool true) rfl (by simp)⟩
        simp only [putL, putT, List.setIfInBounds_toArray, List.set_cons_zero, List.set_cons_succ]; rw [show updS s 44 (.bool true) 43 = .bool true from eq29]; rfl
    · intro d s w9 hd hA hC hF K hK
      have hB9 := hF.1.bel
      simp only [putL, putT, List.setIfInBounds_toArray, List.set_cons_zero, List.set_cons_succ]
      clear hB9
      as_aux_lemma =>
        have eq30 : s 44 = .bool true := hF.2 (30, 44, .bool true) (by simp) (hA.1)
        rw [eq30]
        go_simp
        refine hK.out (updS s 45 (undef)) _ _ ?_ ⟨hF.1, hF.2.put 31 45 (undef) rfl (by simp)⟩
        simp only [putL, putT, List.setIfInBounds_toArray, List.set_cons_zero, List.set_cons_succ]; rw [show updS s 45 (undef) 44 = .bool true from eq30]; rfl
    · intro d s w9 hd hA hC hF K hK
      have hB9 := hF.1.bel
      simp only [putL, putT, List.setIfInBounds_toArray, List.set_cons_zero, List.set_cons_succ]
      clear hB9
      as_aux_lemma =>
        have eq30 : s 44 = .bool true := hF.2 (30, 44, .bool true) (by simp) (hA.1)
        rw [eq30]
        go_simp
        refine hK.out (updS s 46 (undef)) _ _ ?_ ⟨hF.1, hF.2.put 32 46 (undef) rfl (by simp)⟩
        simp only [putL, putT, List.setIfInBounds_toArray, List.set_cons_zero, List.set_cons_succ]; rw [show updS s 46 (undef) 44 = .bool true from eq30]; rfl
    · intro d s w9 hd hA hC hF K hK
      have hB9 := hF.1.bel
      simp only [putL, putT, List.setIfInBounds_toArray, List.set_cons_zero, List.set_cons_succ]
      clear hB9
      as_aux_lemma =>
        have eq30 : s 44 = .bool true := hF.2 (30, 44, .bool true) (by simp) (hA.1)
        rw [eq30]
        go_simp
        refine hK.out (updS s 47 (undef)) _ _ ?_ ⟨hF.1, hF.2.put 33 47 (undef) rfl (by simp)⟩
        simp only [putL, putT, List.setIfInBounds_toArray, List.set_cons_zero, List.set_cons_succ]; rw [show updS s 47 (undef) 44 = .bool true from eq30]; rfl
    · intro d s w9 hd hA hC hF K hK
      have hB9 := hF.1.bel
      simp only [putL, putT, List.setIfInBounds_toArray, List.set_cons_zero, List.set_cons_succ]
      clear hB9
      as_aux_lemma =>
        have eq30 : s 44 = .bool true := hF.2 (30, 44, .bool true) (by simp) (hA.1)
        rw [eq30]
        go_simp
        refine hK.out (updS s 48 (undef)) _ _ ?_ ⟨hF.1, hF.2.put 34 48 (undef) rfl (by simp)⟩
        simp only [putL, putT, List.setIfInBounds_toArray, List.set_cons_zero, List.set_cons_succ]; rw [show updS s 48 (undef) 44 = .bool true from eq30]; rfl
    · intro d s w9 hd hA hC hF K hK
      have hB9 := hF.1.bel
      simp only [putL, putT, List.setIfInBounds_toArray, List.set_cons_zero, List.set_cons_succ]
      clear hB9
      as_aux_lemma =>
        have eq30 : s 44 = .bool true := hF.2 (30, 44, .bool true) (by simp) (hA.1)
        rw [eq30]
        go_simp
        refine hK.out (updS s 49 (undef)) _ _ ?_ ⟨hF.1, hF.2.put 35 49 (undef) rfl (by simp)⟩
        simp only [putL, putT, List.setIfInBounds_toArray, List.set_cons_zero, List.set_cons_succ]; rw [show updS s 49 (undef) 44 = .bool true from eq30]; rfl
    · intro d s w9 hd hA hC hF K hK
      have hB9 := hF.1.bel
      simp only [putL, putT, List.setIfInBounds_toArray, List.set_cons_zero, List.set_cons_succ]
      clear hB9
      as_aux_lemma =>
        have eq30 : s 44 = .bool true := hF.2 (30, 44, .bool true) (by simp) (hA.1)
        rw [eq30]
        go_simp
        refine hK.out (updS s 50 (undef)) _ _ ?_ ⟨hF.1, hF.2.put 36 50 (undef) rfl (by simp)⟩
        simp only [putL, putT, List.setIfInBounds_toArray, List.set_cons_zero, List.set_cons_succ]; rw [show updS s 50 (undef) 44 = .bool true from eq30]; rfl
    · intro d s w9 hd hA hC hF K hK
      have hB9 := hF.1.bel
      simp only [putL, putT, List.setIfInBounds_toArray, List.set_cons_zero, List.set_cons_succ]
      clear hB9
      as_aux_lemma =>
        have eq30 : s 44 = .bool true := hF.2 (30, 44, .bool true) (by simp) (hA.1)
        rw [eq30]
        go_simp
        refine hK.out (updS s 51 (undef)) _ _ ?_ ⟨hF.1, hF.2.put 37 51 (undef) rfl (by simp)⟩
        simp only [putL, putT, List.setIfInBounds_toArray, List.set_cons_zero, List.set_cons_succ]; rw [show updS s 51 (undef) 44 = .bool true from eq30]; rfl
    · intro d s w9 hd hA hC hF K hK
      have hB9 := hF.1.bel
      simp only [putL, putT, List.setIfInBounds_toArray, List.set_cons_zero, List.set_cons_succ]
      clear hB9
      as_aux_lemma =>
        have eq30 : s 44 = .bool true := hF.2 (30, 44, .bool true) (by simp) (hA.1)
        rw [eq30]
        go_simp
        refine hK.out (updS s 52 (undef)) _ _ ?_ ⟨hF.1, hF.2.put 38 52 (undef) rfl (by simp)⟩
        simp only [putL, putT, List.setIfInBounds_toArray, List.set_cons_zero, List.set_cons_succ]; rw [show updS s 52 (undef) 44 = .bool true from eq30]; rfl
    · intro d s w9 hd hA hC hF K hK
      have hB9 := hF.1.bel
      simp only [putL, putT, List.setIfInBounds_toArray, List.set_cons_zero, List.set_cons_succ]
      clear hB9
      as_aux_lemma =>
        have eq30 : s 44 = .bool true := hF.2 (30, 44, .bool true) (by simp) (hA.1)
        rw [eq30]
        go_simp
        refine hK.out (updS s 53 (.bool true)) _ _ ?_ ⟨hF.1, hF.2.put 39 53 (.bool true) rfl (by simp)⟩
        simp only [putL, putT, List.setIfInBounds_toArray, List.set_cons_zero, List.set_cons_succ]; rw [show updS s 53 (.bool true) 44 = .bool true from eq30]; rfl
  · intro d s w3 hA hF
    have hS := hF.1
    have eq39 : s 53 = .bool true := hF.2 (39, 53, .bool true) (by simp) (hA.2.2.2.2.2.2.2.2.2.2.2.2.2.2.2.2.2.2.2.2.2.2.2.2.2.2.2.2.2.2.2.2.2.2.2.2.2.2.2.1)
    have HS2 : Hid (St B w [⟨w.heap.size, 49, #[.int .i64 i, .int .i64 s9, .slice a1 xs.length c1, .slice a2 ts.length c2]⟩, ⟨w.heap.size + 1, 33, #[.int .i64 5, .int .i64 cl, .int .i64 i, .int .i64 nc, .slice (some ⟨g2, 0, none⟩) ys.length cap]⟩, ⟨w.heap.size + 1 + 1, 49, #[.int .i64 0, .int .i64 0, .slice none 0 0, .slice none 0 0]⟩, ⟨w.heap.size + 1 + 1 + 1, 33, #[.int .i64 0, .int .i64 0, .int .i64 0, .int .i64 0, .slice none 0 0]⟩] [⟨(selT 64), fun W => OwnS W B (.slice a1 xs.length c1) xs⟩, ⟨(selT 90), fun W => OwnN celC 90 W B (.slice a2 ts.length c2) ts⟩] w3) := hS
    clear hS hF hA HS1
    simp only [putL, putT, List.setIfInBounds_toArray, List.set_cons_zero, List.set_cons_succ]
    rw [eq39]
    clear eq39
    have EA : Hid (askH i s9 xs ts 5 cl i nc ys now = keepH i s9 xs ts) := Hid.mk' (by rw [EG.out]; unfold giveH; rw [if_neg (by rw [HSB.out]; simp)])
    have lt0 : w.heap.size < w3.heap.size := (HS2.out.lt 0 rfl).2
    have lt1 : w.heap.size + 1 < w3.heap.size := (HS2.out.lt 1 rfl).2
    have lt2 : w.heap.size + 1 + 1 < w3.heap.size := (HS2.out.lt 2 rfl).2
    have lt3 : w.heap.size + 1 + 1 + 1 < w3.heap.size := (HS2.out.lt 3 rfl).2
    have p0 := HS2.out.cell 0 rfl 0 (.int .i64 i) rfl
    have p1 := HS2.out.cell 0 rfl 1 (.int .i64 s9) rfl
    have p2 := HS2.out.cell 0 rfl 2 (.slice a1 xs.length c1) rfl
    have p3 := HS2.out.cell 0 rfl 3 (.slice a2 ts.length c2) rfl
    have z0 := HS2.out.cell 2 rfl 0 (.int .i64 0) rfl
    have zf0 := HS2.out.fro 2 rfl 0
    have z1 := HS2.out.cell 2 rfl 1 (.int .i64 0) rfl
    have zf1 := HS2.out.fro 2 rfl 1
    have z2 := HS2.out.cell 2 rfl 2 (.slice none 0 0) rfl
    have zf2 := HS2.out.fro 2 rfl 2
    have z3 := HS2.out.cell 2 rfl 3 (.slice none 0 0) rfl
    have zf3 := HS2.out.fro 2 rfl 3
    have y0 := HS2.out.cell 3 rfl 0 (.int .i64 0) rfl
    have yf0 := HS2.out.fro 3 rfl 0
    have y1 := HS2.out.cell 3 rfl 1 (.int .i64 0) rfl
    have yf1 := HS2.out.fro 3 rfl 1
    have y2 := HS2.out.cell 3 rfl 2 (.int .i64 0) rfl
    have yf2 := HS2.out.fro 3 rfl 2
    have y3 := HS2.out.cell 3 rfl 3 (.int .i64 0) rfl
    have yf3 := HS2.out.fro 3 rfl 3
    have y4 := HS2.out.cell 3 rfl 4 (.slice none 0 0) rfl
    have yf4 := HS2.out.fro 3 rfl 4
    go_wp2_with fail
    clear lt0 lt1 lt2 lt3 p0 p1 p2 p3 z0 zf0 z1 zf1 z2 zf2 z3 zf3 y0 yf0 y1 yf1 y2 yf2 y3 yf3 y4 yf4
    obtain ⟨V, hX9, HS3⟩ : ∃ X, X = (((((((((w3.setCell ⟨w.heap.size + 1 + 1, 0, none⟩ (.int .i64 i)).setCell ⟨w.heap.size + 1 + 1, 1, none⟩ (.int .i64 s9)).setCell ⟨w.heap.size + 1 + 1, 2, none⟩ (.slice a1 xs.length c1)).setCell ⟨w.heap.size + 1 + 1, 3, none⟩ (.slice a2 ts.length c2)).setCell ⟨w.heap.size + 1 + 1 + 1, 0, none⟩ (.int .i64 0)).setCell ⟨w.heap.size + 1 + 1 + 1, 1, none⟩ (.int .i64 0)).setCell ⟨w.heap.size + 1 + 1 + 1, 2, none⟩ (.int .i64 0)).setCell ⟨w.heap.size + 1 + 1 + 1, 3, none⟩ (.int .i64 0)).setCell ⟨w.heap.size + 1 + 1 + 1, 4, none⟩ (.slice none 0 0)) ∧ Hid (St B w [⟨w.heap.size, 49, #[.int .i64 i, .int .i64 s9, .slice a1 xs.length c1, .slice a2 ts.length c2]⟩, ⟨w.heap.size + 1, 33, #[.int .i64 5, .int .i64 cl, .int .i64 i, .int .i64 nc, .slice (some ⟨g2, 0, none⟩) ys.length cap]⟩, ⟨w.heap.size + 1 + 1, 49, #[.int .i64 i, .int .i64 s9, .slice a1 xs.length c1, .slice a2 ts.length c2]⟩, ⟨w.heap.size + 1 + 1 + 1, 33, #[.int .i64 0, .int .i64 0, .int .i64 0, .int .i64 0, .slice none 0 0]⟩] [⟨(selT 64), fun W => OwnS W B (.slice a1 xs.length c1) xs⟩, ⟨(selT 90), fun W => OwnN celC 90 W B (.slice a2 ts.length c2) ts⟩] X) := ⟨_, rfl, Hid.mk' (by
      have h := (St.put5 3 (St.put4 2 HS2.out rfl rfl (.int .i64 i) (.int .i64 s9) (.slice a1 xs.length c1) (.slice a2 ts.length c2)) rfl rfl (.int .i64 0) (.int .i64 0) (.int .i64 0) (.int .i64 0) (.slice none 0 0))
      try simp only [World.size_alloc] at h
      try simp only [World.size_setCell] at h
      exact h)⟩
    rw [← hX9]
    clear hX9
    clear HS2
    have y0 := HS3.out.cell 2 rfl 0 (.int .i64 i) rfl
    have y1 := HS3.out.cell 2 rfl 1 (.int .i64 s9) rfl
    have y2 := HS3.out.cell 2 rfl 2 (.slice a1 xs.length c1) rfl
    have y3 := HS3.out.cell 2 rfl 3 (.slice a2 ts.length c2) rfl
    have z0 := HS3.out.cell 3 rfl 0 (.int .i64 0) rfl
    have z1 := HS3.out.cell 3 rfl 1 (.int .i64 0) rfl
    have z2 := HS3.out.cell 3 rfl 2 (.int .i64 0) rfl
    have z3 := HS3.out.cell 3 rfl 3 (.int .i64 0) rfl
    have z4 := HS3.out.cell 3 rfl 4 (.slice none 0 0) rfl
    refine bodyPost_ret (v := .tuple #[.agg #[.int .i64 i, .int .i64 s9, .slice a1 xs.length c1, .slice a2 ts.length c2], .agg #[.int .i64 0, .int .i64 0, .int .i64 0, .int .i64 0, .slice none 0 0], .bool false]) (by simp [results, Tryd.results42, go_sem, *]) rfl ?_
    rw [EA.out]
    exact ⟨⟨a1, c1, a2, c2, none, 0, V.heap.size, rfl, HS3.out.of 0 rfl, HS3.out.of 1 rfl, OwnS.nil _ _, HS3.out.sz, fun k hk => (OwnS.low (HS3.out.of 0 rfl) k hk).2⟩, HS3.out.bel⟩

end Go.Proofs.YtghajmfjekfdpaaDoor
