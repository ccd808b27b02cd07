/-
  Who gives tickets for services: what the program answers.
-/
import Derived.Test.YtghajmfjekfdpaaDoorKdTgsM
namespace Go.Proofs.YtghajmfjekfdpaaDoor
open Go.RowKit
attribute [local go_sem ↓] Go.wp_at_zero Go.wp_at_succ

theorem bldShow (w : World) (t u : Sl) (now : Int) : (Instr.build 66 #[(0, .agg #[.int .i64 t.k, .int .i64 t.t, .int .i64 t.a, .int .i64 t.b, .int .i64 t.c, .int .i64 t.d, .int .i64 t.e]), (1, .agg #[.int .i64 u.k, .int .i64 u.t, .int .i64 u.a, .int .i64 u.b, .int .i64 u.c, .int .i64 u.d, .int .i64 u.e]), (2, .int .i64 6), (3, .int .i64 now)]).run Tryd.prog w = .ok (shV t u 6 now) w := by kernel_rfl
set_option maxHeartbeats 4000000 in
set_option maxRecDepth 100000 in
theorem word_at (user peer held since until_ key num kind : Int) (w : World) :
    Calls Tryd.prog 36 #[.agg #[.int .i64 user, .int .i64 peer, .int .i64 held, .int .i64 since, .int .i64 until_, .int .i64 key, .int .i64 num], .int .i64 kind] w fun r w' => r = .returned (.agg #[.int .i64 kind, .int .i64 user, .int .i64 0, .int .i64 0, .slice (some ⟨w.heap.size + 4, 0, none⟩) 2 2]) ∧ OwnS w' w.heap.size (.slice (some ⟨w.heap.size + 4, 0, none⟩) 2 2) [tick user peer held since until_, part key peer held num until_] ∧ Below w.heap.size w w' := by
  go_enter Tryd.func36, Tryd.ntmps36
  go_wp2_with fail
  refine bodyPost_ret (v := .agg #[.int .i64 kind, .int .i64 user, .int .i64 0, .int .i64 0, .slice (some ⟨w.heap.size + 1 + 1 + 1 + 1, 0, none⟩) 2 2]) (by simp [results, Tryd.results36, go_sem]) rfl ⟨rfl, ⟨rfl, Or.inr ⟨w.heap.size + 1 + 1 + 1 + 1, 2, _, rfl, by omega, heap_new4 w _ _ _ _ _, Nat.le_refl _, by unfold maxLen; omega, rfl, rfl⟩⟩, below5 w _ _ _ _ _⟩

set_option maxHeartbeats 8000000 in
set_option maxRecDepth 100000 in
theorem implKdcTgs_any (n : Int) (a1 : Option Addr) (c1 : Nat) (xs : List Sl) (m cl sv nc : Int) (g2 : Nat) (cap : Nat) (ys : List Sl) (now : Int) (w : World) (h1 : SRow w a1 xs) (hc : xs.length ≤ c1) (hx : xs.length ≤ 1999999) (h : SRow w (some ⟨g2, 0, none⟩) ys) (hy : ys.length ≤ 2000000) (hf : Forms w) :
    Calls Tryd.prog 10 #[.agg #[.int .i64 n, .slice a1 xs.length c1], .agg #[.int .i64 m, .int .i64 cl, .int .i64 sv, .int .i64 nc, .slice (some ⟨g2, 0, none⟩) ys.length cap], .int .i64 now] w fun r w' => KRet w.heap.size w w' (tgsK n xs m cl sv nc ys now) r := by
  have HH : Hid (SRow w a1 xs ∧ SRow w (some ⟨g2, 0, none⟩) ys ∧ Forms w) := ⟨h1, h, hf⟩
  clear h1 h hf
  go_enter Tryd.func10, Tryd.ntmps10
  go_wp2_with fail
  obtain ⟨w1, hX9, HS1⟩ : ∃ X, X = ((((w.alloc (.cells #[.int .i64 n, .slice a1 xs.length c1] 31)).alloc (.cells #[.int .i64 m, .int .i64 cl, .int .i64 sv, .int .i64 nc, .slice (some ⟨g2, 0, none⟩) ys.length cap] 33)).alloc (.cells #[.int .i64 0, .slice none 0 0] 31)).alloc (.cells #[.int .i64 0, .int .i64 0, .int .i64 0, .int .i64 0, .slice none 0 0] 33)) ∧ Hid (St w.heap.size w [⟨w.heap.size, 31, #[.int .i64 n, .slice a1 xs.length c1]⟩, ⟨w.heap.size + 1, 33, #[.int .i64 m, .int .i64 cl, .int .i64 sv, .int .i64 nc, .slice (some ⟨g2, 0, none⟩) ys.length cap]⟩, ⟨w.heap.size + 1 + 1, 31, #[.int .i64 0, .slice none 0 0]⟩, ⟨w.heap.size + 1 + 1 + 1, 33, #[.int .i64 0, .int .i64 0, .int .i64 0, .int .i64 0, .slice none 0 0]⟩] [] X) := ⟨_, rfl, Hid.mk' (by
    have h := (St.alloc #[.int .i64 0, .int .i64 0, .int .i64 0, .int .i64 0, .slice none 0 0] 33 (St.alloc #[.int .i64 0, .slice none 0 0] 31 (St.alloc #[.int .i64 m, .int .i64 cl, .int .i64 sv, .int .i64 nc, .slice (some ⟨g2, 0, none⟩) ys.length cap] 33 (St.alloc #[.int .i64 n, .slice a1 xs.length c1] 31 (St.new w)))))
    try simp only [World.size_alloc] at h
    try simp only [World.size_setCell] at h
    exact h)⟩
  rw [← hX9]
  clear hX9
  refine (implKdcOk_any n _ _ xs _ (HH.out.1.later HS1.out.bel) hc).mono ?_
  rintro r w2 ⟨rfl, b9⟩
  have HS2 : Hid (St w.heap.size w [⟨w.heap.size, 31, #[.int .i64 n, .slice a1 xs.length c1]⟩, ⟨w.heap.size + 1, 33, #[.int .i64 m, .int .i64 cl, .int .i64 sv, .int .i64 nc, .slice (some ⟨g2, 0, none⟩) ys.length cap]⟩, ⟨w.heap.size + 1 + 1, 31, #[.int .i64 0, .slice none 0 0]⟩, ⟨w.heap.size + 1 + 1 + 1, 33, #[.int .i64 0, .int .i64 0, .int .i64 0, .int .i64 0, .slice none 0 0]⟩] [] w2) := Hid.mk' (by
    have h := St.grow b9 HS1.out
    try simp only [World.size_alloc] at h
    try simp only [World.size_setCell] at h
    exact h)
  clear HS1
  clear b9
  cases u1 : kdcB n xs
  · skip
    have EA : Hid (tgsK n xs m cl sv nc ys now = noK) := Hid.mk' (by unfold tgsK okA; rw [u1]; simp)
    have lt2 : w.heap.size + 1 + 1 < w2.heap.size := (HS2.out.lt 2 rfl).2
    have lt3 : w.heap.size + 1 + 1 + 1 < w2.heap.size := (HS2.out.lt 3 rfl).2
    have z0 := HS2.out.cell 2 rfl 0 (.int .i64 0) rfl
    have zf0 := HS2.out.fro 2 rfl 0
    have z1 := HS2.out.cell 2 rfl 1 (.slice none 0 0) rfl
    have zf1 := HS2.out.fro 2 rfl 1
    have y0 := HS2.out.cell 3 rfl 0 (.int .i64 0) rfl
    have yf0 := HS2.out.fro 3 rfl 0
    have y1 := HS2.out.cell 3 rfl 1 (.int .i64 0) rfl
    have yf1 := HS2.out.fro 3 rfl 1
    have y2 := HS2.out.cell 3 rfl 2 (.int .i64 0) rfl
    have yf2 := HS2.out.fro 3 rfl 2
    have y3 := HS2.out.cell 3 rfl 3 (.int .i64 0) rfl
    have yf3 := HS2.out.fro 3 rfl 3
    have y4 := HS2.out.cell 3 rfl 4 (.slice none 0 0) rfl
    have yf4 := HS2.out.fro 3 rfl 4
    go_wp2_with fail
    clear lt2 lt3 z0 zf0 z1 zf1 y0 yf0 y1 yf1 y2 yf2 y3 yf3 y4 yf4
    obtain ⟨V, hX9, HS3⟩ : ∃ X, X = (((((((w2.setCell ⟨w.heap.size + 1 + 1, 0, none⟩ (.int .i64 0)).setCell ⟨w.heap.size + 1 + 1, 1, none⟩ (.slice none 0 0)).setCell ⟨w.heap.size + 1 + 1 + 1, 0, none⟩ (.int .i64 0)).setCell ⟨w.heap.size + 1 + 1 + 1, 1, none⟩ (.int .i64 0)).setCell ⟨w.heap.size + 1 + 1 + 1, 2, none⟩ (.int .i64 0)).setCell ⟨w.heap.size + 1 + 1 + 1, 3, none⟩ (.int .i64 0)).setCell ⟨w.heap.size + 1 + 1 + 1, 4, none⟩ (.slice none 0 0)) ∧ Hid (St w.heap.size w [⟨w.heap.size, 31, #[.int .i64 n, .slice a1 xs.length c1]⟩, ⟨w.heap.size + 1, 33, #[.int .i64 m, .int .i64 cl, .int .i64 sv, .int .i64 nc, .slice (some ⟨g2, 0, none⟩) ys.length cap]⟩, ⟨w.heap.size + 1 + 1, 31, #[.int .i64 0, .slice none 0 0]⟩, ⟨w.heap.size + 1 + 1 + 1, 33, #[.int .i64 0, .int .i64 0, .int .i64 0, .int .i64 0, .slice none 0 0]⟩] [] X) := ⟨_, rfl, Hid.mk' (by
      have h := (St.put5 3 (St.put2 2 HS2.out rfl rfl (.int .i64 0) (.slice none 0 0)) rfl rfl (.int .i64 0) (.int .i64 0) (.int .i64 0) (.int .i64 0) (.slice none 0 0))
      try simp only [World.size_alloc] at h
      try simp only [World.size_setCell] at h
      exact h)⟩
    rw [← hX9]
    clear hX9
    clear HS2
    have y0 := HS3.out.cell 2 rfl 0 (.int .i64 0) rfl
    have y1 := HS3.out.cell 2 rfl 1 (.slice none 0 0) rfl
    have z0 := HS3.out.cell 3 rfl 0 (.int .i64 0) rfl
    have z1 := HS3.out.cell 3 rfl 1 (.int .i64 0) rfl
    have z2 := HS3.out.cell 3 rfl 2 (.int .i64 0) rfl
    have z3 := HS3.out.cell 3 rfl 3 (.int .i64 0) rfl
    have z4 := HS3.out.cell 3 rfl 4 (.slice none 0 0) rfl
    refine bodyPost_ret (v := .tuple #[.agg #[.int .i64 0, .slice none 0 0], .agg #[.int .i64 0, .int .i64 0, .int .i64 0, .int .i64 0, .slice none 0 0], .bool false]) (by simp [results, Tryd.results10, go_sem, *]) rfl ?_
    rw [EA.out]
    exact ⟨⟨none, 0, none, 0, w.heap.size, w.heap.size, rfl, OwnS.nil _ _, OwnS.nil _ _, Nat.le_refl _, Nat.le_refl _, fun k hk => by cases hk⟩, HS3.out.bel⟩
  go_wp2_with fail
  refine (isTime_any _ _).mono ?_
  rintro r w9 ⟨rfl, he9⟩
  obtain rfl : w2 = w9 := he9.symm
  cases u2 : inB now 0 100
  · skip
    have EA : Hid (tgsK n xs m cl sv nc ys now = noK) := Hid.mk' (by unfold tgsK okA; rw [u1, u2]; simp)
    have lt2 : w.heap.size + 1 + 1 < w2.heap.size := (HS2.out.lt 2 rfl).2
    have lt3 : w.heap.size + 1 + 1 + 1 < w2.heap.size := (HS2.out.lt 3 rfl).2
    have z0 := HS2.out.cell 2 rfl 0 (.int .i64 0) rfl
    have zf0 := HS2.out.fro 2 rfl 0
    have z1 := HS2.out.cell 2 rfl 1 (.slice none 0 0) rfl
    have zf1 := HS2.out.fro 2 rfl 1
    have y0 := HS2.out.cell 3 rfl 0 (.int .i64 0) rfl
    have yf0 := HS2.out.fro 3 rfl 0
    have y1 := HS2.out.cell 3 rfl 1 (.int .i64 0) rfl
    have yf1 := HS2.out.fro 3 rfl 1
    have y2 := HS2.out.cell 3 rfl 2 (.int .i64 0) rfl
    have yf2 := HS2.out.fro 3 rfl 2
    have y3 := HS2.out.cell 3 rfl 3 (.int .i64 0) rfl
    have yf3 := HS2.out.fro 3 rfl 3
    have y4 := HS2.out.cell 3 rfl 4 (.slice none 0 0) rfl
    have yf4 := HS2.out.fro 3 rfl 4
    go_wp2_with fail
    clear lt2 lt3 z0 zf0 z1 zf1 y0 yf0 y1 yf1 y2 yf2 y3 yf3 y4 yf4
    obtain ⟨V, hX9, HS3⟩ : ∃ X, X = (((((((w2.setCell ⟨w.heap.size + 1 + 1, 0, none⟩ (.int .i64 0)).setCell ⟨w.heap.size + 1 + 1, 1, none⟩ (.slice none 0 0)).setCell ⟨w.heap.size + 1 + 1 + 1, 0, none⟩ (.int .i64 0)).setCell ⟨w.heap.size + 1 + 1 + 1, 1, none⟩ (.int .i64 0)).setCell ⟨w.heap.size + 1 + 1 + 1, 2, none⟩ (.int .i64 0)).setCell ⟨w.heap.size + 1 + 1 + 1, 3, none⟩ (.int .i64 0)).setCell ⟨w.heap.size + 1 + 1 + 1, 4, none⟩ (.slice none 0 0)) ∧ Hid (St w.heap.size w [⟨w.heap.size, 31, #[.int .i64 n, .slice a1 xs.length c1]⟩, ⟨w.heap.size + 1, 33, #[.int .i64 m, .int .i64 cl, .int .i64 sv, .int .i64 nc, .slice (some ⟨g2, 0, none⟩) ys.length cap]⟩, ⟨w.heap.size + 1 + 1, 31, #[.int .i64 0, .slice none 0 0]⟩, ⟨w.heap.size + 1 + 1 + 1, 33, #[.int .i64 0, .int .i64 0, .int .i64 0, .int .i64 0, .slice none 0 0]⟩] [] X) := ⟨_, rfl, Hid.mk' (by
      have h := (St.put5 3 (St.put2 2 HS2.out rfl rfl (.int .i64 0) (.slice none 0 0)) rfl rfl (.int .i64 0) (.int .i64 0) (.int .i64 0) (.int .i64 0) (.slice none 0 0))
      try simp only [World.size_alloc] at h
      try simp only [World.size_setCell] at h
      exact h)⟩
    rw [← hX9]
    clear hX9
    clear HS2
    have y0 := HS3.out.cell 2 rfl 0 (.int .i64 0) rfl
    have y1 := HS3.out.cell 2 rfl 1 (.slice none 0 0) rfl
    have z0 := HS3.out.cell 3 rfl 0 (.int .i64 0) rfl
    have z1 := HS3.out.cell 3 rfl 1 (.int .i64 0) rfl
    have z2 := HS3.out.cell 3 rfl 2 (.int .i64 0) rfl
    have z3 := HS3.out.cell 3 rfl 3 (.int .i64 0) rfl
    have z4 := HS3.out.cell 3 rfl 4 (.slice none 0 0) rfl
    refine bodyPost_ret (v := .tuple #[.agg #[.int .i64 0, .slice none 0 0], .agg #[.int .i64 0, .int .i64 0, .int .i64 0, .int .i64 0, .slice none 0 0], .bool false]) (by simp [results, Tryd.results10, go_sem, *]) rfl ?_
    rw [EA.out]
    exact ⟨⟨none, 0, none, 0, w.heap.size, w.heap.size, rfl, OwnS.nil _ _, OwnS.nil _ _, Nat.le_refl _, Nat.le_refl _, fun k hk => by cases hk⟩, HS3.out.bel⟩
  have hok : okA n xs now = true := by simp [okA, u1, u2]
  have lt0 : w.heap.size < w2.heap.size := (HS2.out.lt 0 rfl).2
  have lt1 : w.heap.size + 1 < w2.heap.size := (HS2.out.lt 1 rfl).2
  have lt2 : w.heap.size + 1 + 1 < w2.heap.size := (HS2.out.lt 2 rfl).2
  have lt3 : w.heap.size + 1 + 1 + 1 < w2.heap.size := (HS2.out.lt 3 rfl).2
  go_wp2_with fail
  clear lt0 lt1 lt2 lt3
  cases u3 : canB 3 n m cl sv nc ys
  · skip
    refine wp_region_walk [24, 25, 26, 27, 28, 29, 30, 31, 32, 33, 34, 35, 36, 37, 38, 39, 40, 41] (fun d s W => St w.heap.size w [⟨w.heap.size, 31, #[.int .i64 n, .slice a1 xs.length c1]⟩, ⟨w.heap.size + 1, 33, #[.int .i64 m, .int .i64 cl, .int .i64 sv, .int .i64 nc, .slice (some ⟨g2, 0, none⟩) ys.length cap]⟩, ⟨w.heap.size + 1 + 1, 31, #[.int .i64 0, .slice none 0 0]⟩, ⟨w.heap.size + 1 + 1 + 1, 33, #[.int .i64 0, .int .i64 0, .int .i64 0, .int .i64 0, .slice none 0 0]⟩] [] W ∧ Looks [(0, 24, Value.agg #[.int .i64 n, .slice a1 xs.length c1]), (1, 25, Value.agg #[.int .i64 m, .int .i64 cl, .int .i64 sv, .int .i64 nc, .slice (some ⟨g2, 0, none⟩) ys.length cap]), (2, 26, .bool false), (3, 27, .bool true), (4, 28, .bool true), (5, 29, undef), (6, 30, undef), (7, 31, undef), (8, 32, undef), (9, 33, undef), (10, 34, undef), (11, 35, undef), (12, 36, undef), (13, 37, undef), (14, 38, undef), (15, 39, undef), (16, 40, undef), (17, 41, .bool true)] d s) [0, 1, 2, 3, 4, 5, 6, 7, 8, 9, 10, 11, 12, 13, 14, 15, 16, 17] (by kernel_rfl) (by kernel_rfl) (by kernel_rfl) ?_ ?_ ?_
    · intro s
      exact ⟨HS2.out.drew, Looks.none _ _⟩
    · refine StepsR.cons (k := 0) [] (by kernel_rfl) ?_ (StepsR.cons (k := 1) [] (by kernel_rfl) ?_ (StepsR.cons (k := 2) [0, 1] (by kernel_rfl) ?_ (StepsR.cons (k := 3) [2] (by kernel_rfl) ?_ (StepsR.cons (k := 4) [3] (by kernel_rfl) ?_ (StepsR.cons (k := 5) [4] (by kernel_rfl) ?_ (StepsR.cons (k := 6) [4] (by kernel_rfl) ?_ (StepsR.cons (k := 7) [4] (by kernel_rfl) ?_ (StepsR.cons (k := 8) [4] (by kernel_rfl) ?_ (StepsR.cons (k := 9) [4] (by kernel_rfl) ?_ (StepsR.cons (k := 10) [4] (by kernel_rfl) ?_ (StepsR.cons (k := 11) [4] (by kernel_rfl) ?_ (StepsR.cons (k := 12) [4] (by kernel_rfl) ?_ (StepsR.cons (k := 13) [4] (by kernel_rfl) ?_ (StepsR.cons (k := 14) [4] (by kernel_rfl) ?_ (StepsR.cons (k := 15) [4] (by kernel_rfl) ?_ (StepsR.cons (k := 16) [4] (by kernel_rfl) ?_ (StepsR.cons (k := 17) [4, 16] (by kernel_rfl) ?_ (StepsR.nil))))))))))))))))))
      · intro d s w9 hd hA hC hF K hK
        have hB9 := hF.1.bel
        simp only [putL, putT, List.setIfInBounds_toArray, List.set_cons_zero, List.set_cons_succ]
        clear hB9
        as_aux_lemma =>
          have p0 := hF.1.cell 0 rfl 0 (.int .i64 n) rfl
          have p1 := hF.1.cell 0 rfl 1 (.slice a1 xs.length c1) rfl
          go_simp
          clear p0 p1
          refine hK.out (updS s 24 (Value.agg #[.int .i64 n, .slice a1 xs.length c1])) _ _ ?_ ⟨hF.1, hF.2.put 0 24 (Value.agg #[.int .i64 n, .slice a1 xs.length c1]) rfl (by simp)⟩
          simp only [putL, putT, List.setIfInBounds_toArray, List.set_cons_zero, List.set_cons_succ]; rfl
      · intro d s w9 hd hA hC hF K hK
        have hB9 := hF.1.bel
        simp only [putL, putT, List.setIfInBounds_toArray, List.set_cons_zero, List.set_cons_succ]
        clear hB9
        as_aux_lemma =>
          have p0 := hF.1.cell 1 rfl 0 (.int .i64 m) rfl
          have p1 := hF.1.cell 1 rfl 1 (.int .i64 cl) rfl
          have p2 := hF.1.cell 1 rfl 2 (.int .i64 sv) rfl
          have p3 := hF.1.cell 1 rfl 3 (.int .i64 nc) rfl
          have p4 := hF.1.cell 1 rfl 4 (.slice (some ⟨g2, 0, none⟩) ys.length cap) rfl
          go_simp
          clear p0 p1 p2 p3 p4
          refine hK.out (updS s 25 (Value.agg #[.int .i64 m, .int .i64 cl, .int .i64 sv, .int .i64 nc, .slice (some ⟨g2, 0, none⟩) ys.length cap])) _ _ ?_ ⟨hF.1, hF.2.put 1 25 (Value.agg #[.int .i64 m, .int .i64 cl, .int .i64 sv, .int .i64 nc, .slice (some ⟨g2, 0, none⟩) ys.length cap]) rfl (by simp)⟩
          simp only [putL, putT, List.setIfInBounds_toArray, List.set_cons_zero, List.set_cons_succ]; rfl
      · intro d s w9 hd hA hC hF K hK
        have hB9 := hF.1.bel
        simp only [putL, putT, List.setIfInBounds_toArray, List.set_cons_zero, List.set_cons_succ]
        clear hB9
        as_aux_lemma =>
          have eq0 : s 24 = Value.agg #[.int .i64 n, .slice a1 xs.length c1] := hF.2 (0, 24, Value.agg #[.int .i64 n, .slice a1 xs.length c1]) (by simp) (hA.1)
          have eq1 : s 25 = Value.agg #[.int .i64 m, .int .i64 cl, .int .i64 sv, .int .i64 nc, .slice (some ⟨g2, 0, none⟩) ys.length cap] := hF.2 (1, 25, Value.agg #[.int .i64 m, .int .i64 cl, .int .i64 sv, .int .i64 nc, .slice (some ⟨g2, 0, none⟩) ys.length cap]) (by simp) (hA.2.1)
          rw [eq0, eq1]
          go_simp
          refine (canAnswer_any n _ _ xs m cl sv nc _ _ ys 3 _ (HH.out.2.1.later hF.1.bel) hy (HH.out.2.2.later hF.1.bel)).mono ?_
          rintro r w8 ⟨rfl, b9⟩
          rw [u3]
          go_simp
          refine hK.out (updS s 26 (.bool false)) _ _ ?_ ⟨St.grow b9 hF.1, hF.2.put 2 26 (.bool false) rfl (by simp)⟩
          simp only [putL, putT, List.setIfInBounds_toArray, List.set_cons_zero, List.set_cons_succ]
          rw [← eq0, ← eq1]; rfl
      · intro d s w9 hd hA hC hF K hK
        have hB9 := hF.1.bel
        simp only [putL, putT, List.setIfInBounds_toArray, List.set_cons_zero, List.set_cons_succ]
        clear hB9
        as_aux_lemma =>
          have eq2 : s 26 = .bool false := hF.2 (2, 26, .bool false) (by simp) (hA.1)
          rw [eq2]
          go_simp
          refine hK.out (updS s 27 (.bool true)) _ _ ?_ ⟨hF.1, hF.2.put 3 27 (.bool true) rfl (by simp)⟩
          simp only [putL, putT, List.setIfInBounds_toArray, List.set_cons_zero, List.set_cons_succ]; rw [show updS s 27 (.bool true) 26 = .bool false from eq2]; rfl
      · intro d s w9 hd hA hC hF K hK
        have hB9 := hF.1.bel
        simp only [putL, putT, List.setIfInBounds_toArray, List.set_cons_zero, List.set_cons_succ]
        clear hB9
        as_aux_lemma =>
          have eq3 : s 27 = .bool true := hF.2 (3, 27, .bool true) (by simp) (hA.1)
          rw [eq3]
          go_simp
          refine hK.out (updS s 28 (.bool true)) _ _ ?_ ⟨hF.1, hF.2.put 4 28 (.bool true) rfl (by simp)⟩
          simp only [putL, putT, List.setIfInBounds_toArray, List.set_cons_zero, List.set_cons_succ]; rw [show updS s 28 (.bool true) 27 = .bool true from eq3]; rfl
      · intro d s w9 hd hA hC hF K hK
        have hB9 := hF.1.bel
        simp only [putL, putT, List.setIfInBounds_toArray, List.set_cons_zero, List.set_cons_succ]
        clear hB9
        as_aux_lemma =>
          have eq4 : s 28 = .bool true := hF.2 (4, 28, .bool true) (by simp) (hA.1)
          rw [eq4]
          go_simp
          refine hK.out (updS s 29 (undef)) _ _ ?_ ⟨hF.1, hF.2.put 5 29 (undef) rfl (by simp)⟩
          simp only [putL, putT, List.setIfInBounds_toArray, List.set_cons_zero, List.set_cons_succ]; rw [show updS s 29 (undef) 28 = .bool true from eq4]; rfl
      · intro d s w9 hd hA hC hF K hK
        have hB9 := hF.1.bel
        simp only [putL, putT, List.setIfInBounds_toArray, List.set_cons_zero, List.set_cons_succ]
        clear hB9
        as_aux_lemma =>
          have eq4 : s 28 = .bool true := hF.2 (4, 28, .bool true) (by simp) (hA.1)
          rw [eq4]
          go_simp
          refine hK.out (updS s 30 (undef)) _ _ ?_ ⟨hF.1, hF.2.put 6 30 (undef) rfl (by simp)⟩
          simp only [putL, putT, List.setIfInBounds_toArray, List.set_cons_zero, List.set_cons_succ]; rw [show updS s 30 (undef) 28 = .bool true from eq4]; rfl
      · intro d s w9 hd hA hC hF K hK
        have hB9 := hF.1.bel
        simp only [putL, putT, List.setIfInBounds_toArray, List.set_cons_zero, List.set_cons_succ]
        clear hB9
        as_aux_lemma =>
          have eq4 : s 28 = .bool true := hF.2 (4, 28, .bool true) (by simp) (hA.1)
          rw [eq4]
          go_simp
          refine hK.out (updS s 31 (undef)) _ _ ?_ ⟨hF.1, hF.2.put 7 31 (undef) rfl (by simp)⟩
          simp only [putL, putT, List.setIfInBounds_toArray, List.set_cons_zero, List.set_cons_succ]; rw [show updS s 31 (undef) 28 = .bool true from eq4]; rfl
      · intro d s w9 hd hA hC hF K hK
        have hB9 := hF.1.bel
        simp only [putL, putT, List.setIfInBounds_toArray, List.set_cons_zero, List.set_cons_succ]
        clear hB9
        as_aux_lemma =>
          have eq4 : s 28 = .bool true := hF.2 (4, 28, .bool true) (by simp) (hA.1)
          rw [eq4]
          go_simp
          refine hK.out (updS s 32 (undef)) _ _ ?_ ⟨hF.1, hF.2.put 8 32 (undef) rfl (by simp)⟩
          simp only [putL, putT, List.setIfInBounds_toArray, List.set_cons_zero, List.set_cons_succ]; rw [show updS s 32 (undef) 28 = .bool true from eq4]; rfl
      · intro d s w9 hd hA hC hF K hK
        have hB9 := hF.1.bel
        simp only [putL, putT, List.setIfInBounds_toArray, List.set_cons_zero, List.set_cons_succ]
        clear hB9
        as_aux_lemma =>
          have eq4 : s 28 = .bool true := hF.2 (4, 28, .bool true) (by simp) (hA.1)
          rw [eq4]
          go_simp
          refine hK.out (updS s 33 (undef)) _ _ ?_ ⟨hF.1, hF.2.put 9 33 (undef) rfl (by simp)⟩
          simp only [putL, putT, List.setIfInBounds_toArray, List.set_cons_zero, List.set_cons_succ]; rw [show updS s 33 (undef) 28 = .bool true from eq4]; rfl
      · intro d s w9 hd hA hC hF K hK
        have hB9 := hF.1.bel
        simp only [putL, putT, List.setIfInBounds_toArray, List.set_cons_zero, List.set_cons_succ]
        clear hB9
        as_aux_lemma =>
          have eq4 : s 28 = .bool true := hF.2 (4, 28, .bool true) (by simp) (hA.1)
          rw [eq4]
          go_simp
          refine hK.out (updS s 34 (undef)) _ _ ?_ ⟨hF.1, hF.2.put 10 34 (undef) rfl (by simp)⟩
          simp only [putL, putT, List.setIfInBounds_toArray, List.set_cons_zero, List.set_cons_succ]; rw [show updS s 34 (undef) 28 = .bool true from eq4]; rfl
      · intro d s w9 hd hA hC hF K hK
        have hB9 := hF.1.bel
        simp only [putL, putT, List.setIfInBounds_toArray, List.set_cons_zero, List.set_cons_succ]
        clear hB9
        as_aux_lemma =>
          have eq4 : s 28 = .bool true := hF.2 (4, 28, .bool true) (by simp) (hA.1)
          rw [eq4]
          go_simp
          refine hK.out (updS s 35 (undef)) _ _ ?_ ⟨hF.1, hF.2.put 11 35 (undef) rfl (by simp)⟩
          simp only [putL, putT, List.setIfInBounds_toArray, List.set_cons_zero, List.set_cons_succ]; rw [show updS s 35 (undef) 28 = .bool true from eq4]; rfl
      · intro d s w9 hd hA hC hF K hK
        have hB9 := hF.1.bel
        simp only [putL, putT, List.setIfInBounds_toArray, List.set_cons_zero, List.set_cons_succ]
        clear hB9
        as_aux_lemma =>
          have eq4 : s 28 = .bool true := hF.2 (4, 28, .bool true) (by simp) (hA.1)
          rw [eq4]
          go_simp
          refine hK.out (updS s 36 (undef)) _ _ ?_ ⟨hF.1, hF.2.put 12 36 (undef) rfl (by simp)⟩
          simp only [putL, putT, List.setIfInBounds_toArray, List.set_cons_zero, List.set_cons_succ]; rw [show updS s 36 (undef) 28 = .bool true from eq4]; rfl
      · intro d s w9 hd hA hC hF K hK
        have hB9 := hF.1.bel
        simp only [putL, putT, List.setIfInBounds_toArray, List.set_cons_zero, List.set_cons_succ]
        clear hB9
        as_aux_lemma =>
          have eq4 : s 28 = .bool true := hF.2 (4, 28, .bool true) (by simp) (hA.1)
          rw [eq4]
          go_simp
          refine hK.out (updS s 37 (undef)) _ _ ?_ ⟨hF.1, hF.2.put 13 37 (undef) rfl (by simp)⟩
          simp only [putL, putT, List.setIfInBounds_toArray, List.set_cons_zero, List.set_cons_succ]; rw [show updS s 37 (undef) 28 = .bool true from eq4]; rfl
      · intro d s w9 hd hA hC hF K hK
        have hB9 := hF.1.bel
        simp only [putL, putT, List.setIfInBounds_toArray, List.set_cons_zero, List.set_cons_succ]
        clear hB9
        as_aux_lemma =>
          have eq4 : s 28 = .bool true := hF.2 (4, 28, .bool true) (by simp) (hA.1)
          rw [eq4]
          go_simp
          refine hK.out (updS s 38 (undef)) _ _ ?_ ⟨hF.1, hF.2.put 14 38 (undef) rfl (by simp)⟩
          simp only [putL, putT, List.setIfInBounds_toArray, List.set_cons_zero, List.set_cons_succ]; rw [show updS s 38 (undef) 28 = .bool true from eq4]; rfl
      · intro d s w9 hd hA hC hF K hK
        have hB9 := hF.1.bel
        simp only [putL, putT, List.setIfInBounds_toArray, List.set_cons_zero, List.set_cons_succ]
        clear hB9
        as_aux_lemma =>
          have eq4 : s 28 = .bool true := hF.2 (4, 28, .bool true) (by simp) (hA.1)
          rw [eq4]
          go_simp
          refine hK.out (updS s 39 (undef)) _ _ ?_ ⟨hF.1, hF.2.put 15 39 (undef) rfl (by simp)⟩
          simp only [putL, putT, List.setIfInBounds_toArray, List.set_cons_zero, List.set_cons_succ]; rw [show updS s 39 (undef) 28 = .bool true from eq4]; rfl
      · intro d s w9 hd hA hC hF K hK
        have hB9 := hF.1.bel
        simp only [putL, putT, List.setIfInBounds_toArray, List.set_cons_zero, List.set_cons_succ]
        clear hB9
        as_aux_lemma =>
          have eq4 : s 28 = .bool true := hF.2 (4, 28, .bool true) (by simp) (hA.1)
          rw [eq4]
          go_simp
          refine hK.out (updS s 40 (undef)) _ _ ?_ ⟨hF.1, hF.2.put 16 40 (undef) rfl (by simp)⟩
          simp only [putL, putT, List.setIfInBounds_toArray, List.set_cons_zero, List.set_cons_succ]; rw [show updS s 40 (undef) 28 = .bool true from eq4]; rfl
      · intro d s w9 hd hA hC hF K hK
        have hB9 := hF.1.bel
        simp only [putL, putT, List.setIfInBounds_toArray, List.set_cons_zero, List.set_cons_succ]
        clear hB9
        as_aux_lemma =>
          have eq4 : s 28 = .bool true := hF.2 (4, 28, .bool true) (by simp) (hA.1)
          rw [eq4]
          go_simp
          refine hK.out (updS s 41 (.bool true)) _ _ ?_ ⟨hF.1, hF.2.put 17 41 (.bool true) rfl (by simp)⟩
          simp only [putL, putT, List.setIfInBounds_toArray, List.set_cons_zero, List.set_cons_succ]; rw [show updS s 41 (.bool true) 28 = .bool true from eq4]; rfl
    · intro d s w3 hA hF
      have hS := hF.1
      have eq17 : s 41 = .bool true := hF.2 (17, 41, .bool true) (by simp) (hA.2.2.2.2.2.2.2.2.2.2.2.2.2.2.2.2.2.1)
      have HS3 : Hid (St w.heap.size w [⟨w.heap.size, 31, #[.int .i64 n, .slice a1 xs.length c1]⟩, ⟨w.heap.size + 1, 33, #[.int .i64 m, .int .i64 cl, .int .i64 sv, .int .i64 nc, .slice (some ⟨g2, 0, none⟩) ys.length cap]⟩, ⟨w.heap.size + 1 + 1, 31, #[.int .i64 0, .slice none 0 0]⟩, ⟨w.heap.size + 1 + 1 + 1, 33, #[.int .i64 0, .int .i64 0, .int .i64 0, .int .i64 0, .slice none 0 0]⟩] [] w3) := hS
      clear hS hF hA HS2
      simp only [putL, putT, List.setIfInBounds_toArray, List.set_cons_zero, List.set_cons_succ]
      rw [eq17]
      clear eq17
      have EA : Hid (tgsK n xs m cl sv nc ys now = keepK n xs) := Hid.mk' (by unfold tgsK askK; rw [if_pos hok, if_neg (by rw [u3]; simp)])
      have lt0 : w.heap.size < w3.heap.size := (HS3.out.lt 0 rfl).2
      have lt1 : w.heap.size + 1 < w3.heap.size := (HS3.out.lt 1 rfl).2
      have lt2 : w.heap.size + 1 + 1 < w3.heap.size := (HS3.out.lt 2 rfl).2
      have lt3 : w.heap.size + 1 + 1 + 1 < w3.heap.size := (HS3.out.lt 3 rfl).2
      have p0 := HS3.out.cell 0 rfl 0 (.int .i64 n) rfl
      have p1 := HS3.out.cell 0 rfl 1 (.slice a1 xs.length c1) rfl
      go_wp2_with fail
      clear lt0 lt1 lt2 lt3 p0 p1
      have hsz : w.heap.size ≤ w3.heap.size := (HS3.out.bel).size
      refine (copyKdc_any n _ _ xs _ (HH.out.1.later HS3.out.bel) hx).mono ?_
      rintro r w5 ⟨⟨a', c', rfl, o5⟩, b9⟩
      have HS4 : Hid (St w.heap.size w [⟨w.heap.size, 31, #[.int .i64 n, .slice a1 xs.length c1]⟩, ⟨w.heap.size + 1, 33, #[.int .i64 m, .int .i64 cl, .int .i64 sv, .int .i64 nc, .slice (some ⟨g2, 0, none⟩) ys.length cap]⟩, ⟨w.heap.size + 1 + 1, 31, #[.int .i64 0, .slice none 0 0]⟩, ⟨w.heap.size + 1 + 1 + 1, 33, #[.int .i64 0, .int .i64 0, .int .i64 0, .int .i64 0, .slice none 0 0]⟩] [] w5) := Hid.mk' (by
        have h := St.grow b9 HS3.out
        try simp only [World.size_alloc] at h
        try simp only [World.size_setCell] at h
        exact h)
      clear HS3
      clear b9
      have HS5 : Hid (St w.heap.size w [⟨w.heap.size, 31, #[.int .i64 n, .slice a1 xs.length c1]⟩, ⟨w.heap.size + 1, 33, #[.int .i64 m, .int .i64 cl, .int .i64 sv, .int .i64 nc, .slice (some ⟨g2, 0, none⟩) ys.length cap]⟩, ⟨w.heap.size + 1 + 1, 31, #[.int .i64 0, .slice none 0 0]⟩, ⟨w.heap.size + 1 + 1 + 1, 33, #[.int .i64 0, .int .i64 0, .int .i64 0, .int .i64 0, .slice none 0 0]⟩] [⟨selT 64, fun W => OwnS W w.heap.size (.slice a' xs.length c') xs⟩] w5) := Hid.mk' (by
        have h := St.add (selT 64) (fun W => OwnS W w.heap.size (.slice a' xs.length c') xs) (keep_owns _ _ _) (OwnS.less o5 hsz) HS4.out
        try simp only [World.size_alloc] at h
        try simp only [World.size_setCell] at h
        exact h)
      clear HS4
      clear o5 hsz
      have lt2 : w.heap.size + 1 + 1 < w5.heap.size := (HS5.out.lt 2 rfl).2
      have lt3 : w.heap.size + 1 + 1 + 1 < w5.heap.size := (HS5.out.lt 3 rfl).2
      have z0 := HS5.out.cell 2 rfl 0 (.int .i64 0) rfl
      have zf0 := HS5.out.fro 2 rfl 0
      have z1 := HS5.out.cell 2 rfl 1 (.slice none 0 0) rfl
      have zf1 := HS5.out.fro 2 rfl 1
      have y0 := HS5.out.cell 3 rfl 0 (.int .i64 0) rfl
      have yf0 := HS5.out.fro 3 rfl 0
      have y1 := HS5.out.cell 3 rfl 1 (.int .i64 0) rfl
      have yf1 := HS5.out.fro 3 rfl 1
      have y2 := HS5.out.cell 3 rfl 2 (.int .i64 0) rfl
      have yf2 := HS5.out.fro 3 rfl 2
      have y3 := HS5.out.cell 3 rfl 3 (.int .i64 0) rfl
      have yf3 := HS5.out.fro 3 rfl 3
      have y4 := HS5.out.cell 3 rfl 4 (.slice none 0 0) rfl
      have yf4 := HS5.out.fro 3 rfl 4
      go_wp2_with fail
      clear lt2 lt3 z0 zf0 z1 zf1 y0 yf0 y1 yf1 y2 yf2 y3 yf3 y4 yf4
      obtain ⟨V, hX9, HS6⟩ : ∃ X, X = (((((((w5.setCell ⟨w.heap.size + 1 + 1, 0, none⟩ (.int .i64 n)).setCell ⟨w.heap.size + 1 + 1, 1, none⟩ (.slice a' xs.length c')).setCell ⟨w.heap.size + 1 + 1 + 1, 0, none⟩ (.int .i64 0)).setCell ⟨w.heap.size + 1 + 1 + 1, 1, none⟩ (.int .i64 0)).setCell ⟨w.heap.size + 1 + 1 + 1, 2, none⟩ (.int .i64 0)).setCell ⟨w.heap.size + 1 + 1 + 1, 3, none⟩ (.int .i64 0)).setCell ⟨w.heap.size + 1 + 1 + 1, 4, none⟩ (.slice none 0 0)) ∧ Hid (St w.heap.size w [⟨w.heap.size, 31, #[.int .i64 n, .slice a1 xs.length c1]⟩, ⟨w.heap.size + 1, 33, #[.int .i64 m, .int .i64 cl, .int .i64 sv, .int .i64 nc, .slice (some ⟨g2, 0, none⟩) ys.length cap]⟩, ⟨w.heap.size + 1 + 1, 31, #[.int .i64 n, .slice a' xs.length c']⟩, ⟨w.heap.size + 1 + 1 + 1, 33, #[.int .i64 0, .int .i64 0, .int .i64 0, .int .i64 0, .slice none 0 0]⟩] [⟨selT 64, fun W => OwnS W w.heap.size (.slice a' xs.length c') xs⟩] X) := ⟨_, rfl, Hid.mk' (by
        have h := (St.put5 3 (St.put2 2 HS5.out rfl rfl (.int .i64 n) (.slice a' xs.length c')) rfl rfl (.int .i64 0) (.int .i64 0) (.int .i64 0) (.int .i64 0) (.slice none 0 0))
        try simp only [World.size_alloc] at h
        try simp only [World.size_setCell] at h
        exact h)⟩
      rw [← hX9]
      clear hX9
      clear HS5
      have y0 := HS6.out.cell 2 rfl 0 (.int .i64 n) rfl
      have y1 := HS6.out.cell 2 rfl 1 (.slice a' xs.length c') rfl
      have z0 := HS6.out.cell 3 rfl 0 (.int .i64 0) rfl
      have z1 := HS6.out.cell 3 rfl 1 (.int .i64 0) rfl
      have z2 := HS6.out.cell 3 rfl 2 (.int .i64 0) rfl
      have z3 := HS6.out.cell 3 rfl 3 (.int .i64 0) rfl
      have z4 := HS6.out.cell 3 rfl 4 (.slice none 0 0) rfl
      refine bodyPost_ret (v := .tuple #[.agg #[.int .i64 n, .slice a' xs.length c'], .agg #[.int .i64 0, .int .i64 0, .int .i64 0, .int .i64 0, .slice none 0 0], .bool false]) (by simp [results, Tryd.results10, go_sem, *]) rfl ?_
      rw [EA.out]
      exact ⟨⟨a', c', none, 0, w.heap.size, V.heap.size, rfl, HS6.out.of 0 rfl, OwnS.nil _ _, Nat.le_refl _, (HS6.out.bel).size, fun k hk => (OwnS.low (HS6.out.of 0 rfl) k hk).2⟩, HS6.out.bel⟩
  obtain ⟨hm3, hn60, t, u, hys, hto, huo⟩ := can3 u3
  have hyl : ys.length = 2 := by rw [hys]; rfl
  have EG : Hid (tgsK n xs m cl sv nc ys now = giveK n xs sv nc t u now) := Hid.mk' (by unfold tgsK askK; rw [if_pos hok, if_pos u3, hys])
  have HY : Hid (ys = [t, u] ∧ t.ok = true ∧ u.ok = true) := ⟨hys, hto, huo⟩
  clear hys hto huo hm3
  have hy0 : 0 < ys.length := by omega
  have hy1 : 1 < ys.length := by omega
  have hy2 : (1 : Int) < (ys.length : Int) := by omega
  clear hyl
  obtain ⟨sb, hsb⟩ : ∃ sb, sb = shB t u 6 now := ⟨_, rfl⟩
  have HSB : Hid (sb = shB t u 6 now) := hsb
  clear hsb
  refine wp_region_walk [24, 25, 26, 27, 28, 29, 30, 31, 32, 33, 34, 35, 36, 37, 38, 39, 40, 41] (fun d s W => St w.heap.size w [⟨w.heap.size, 31, #[.int .i64 n, .slice a1 xs.length c1]⟩, ⟨w.heap.size + 1, 33, #[.int .i64 m, .int .i64 cl, .int .i64 sv, .int .i64 nc, .slice (some ⟨g2, 0, none⟩) ys.length cap]⟩, ⟨w.heap.size + 1 + 1, 31, #[.int .i64 0, .slice none 0 0]⟩, ⟨w.heap.size + 1 + 1 + 1, 33, #[.int .i64 0, .int .i64 0, .int .i64 0, .int .i64 0, .slice none 0 0]⟩] [] W ∧ Looks [(0, 24, Value.agg #[.int .i64 n, .slice a1 xs.length c1]), (1, 25, Value.agg #[.int .i64 m, .int .i64 cl, .int .i64 sv, .int .i64 nc, .slice (some ⟨g2, 0, none⟩) ys.length cap]), (2, 26, .bool true), (3, 27, .bool false), (4, 28, .bool false), (5, 29, Value.pointer (some ⟨w.heap.size + 1, 4, none⟩)), (6, 30, Value.slice (some ⟨g2, 0, none⟩) ys.length cap), (7, 31, Value.pointer (some ⟨g2, 0, none⟩)), (8, 32, Value.agg #[.int .i64 t.k, .int .i64 t.t, .int .i64 t.a, .int .i64 t.b, .int .i64 t.c, .int .i64 t.d, .int .i64 t.e]), (9, 33, Value.pointer (some ⟨w.heap.size + 1, 4, none⟩)), (10, 34, Value.slice (some ⟨g2, 0, none⟩) ys.length cap), (11, 35, Value.pointer (some ⟨g2, 7, none⟩)), (12, 36, Value.agg #[.int .i64 u.k, .int .i64 u.t, .int .i64 u.a, .int .i64 u.b, .int .i64 u.c, .int .i64 u.d, .int .i64 u.e]), (13, 37, Value.int .i64 now), (14, 38, Value.agg #[.int .i64 t.k, .int .i64 t.t, .int .i64 t.a, .int .i64 t.b, .int .i64 t.c, .int .i64 t.d, .int .i64 t.e, .int .i64 u.k, .int .i64 u.t, .int .i64 u.a, .int .i64 u.b, .int .i64 u.c, .int .i64 u.d, .int .i64 u.e, .int .i64 6, .int .i64 now]), (15, 39, .bool sb), (16, 40, .bool (!sb)), (17, 41, .bool (!sb))] d s) [0, 1, 2, 3, 4, 5, 6, 7, 8, 9, 10, 11, 12, 13, 14, 15, 16, 17] (by kernel_rfl) (by kernel_rfl) (by kernel_rfl) ?_ ?_ ?_
  · intro s
    exact ⟨HS2.out.drew, Looks.none _ _⟩
  · refine StepsR.cons (k := 0) [] (by kernel_rfl) ?_ (StepsR.cons (k := 1) [] (by kernel_rfl) ?_ (StepsR.cons (k := 2) [0, 1] (by kernel_rfl) ?_ (StepsR.cons (k := 3) [2] (by kernel_rfl) ?_ (StepsR.cons (k := 4) [3] (by kernel_rfl) ?_ (StepsR.cons (k := 5) [4] (by kernel_rfl) ?_ (StepsR.cons (k := 6) [4, 5] (by kernel_rfl) ?_ (StepsR.cons (k := 7) [4, 6] (by kernel_rfl) ?_ (StepsR.cons (k := 8) [4, 7] (by kernel_rfl) ?_ (StepsR.cons (k := 9) [4] (by kernel_rfl) ?_ (StepsR.cons (k := 10) [4, 9] (by kernel_rfl) ?_ (StepsR.cons (k := 11) [4, 10] (by kernel_rfl) ?_ (StepsR.cons (k := 12) [4, 11] (by kernel_rfl) ?_ (StepsR.cons (k := 13) [4] (by kernel_rfl) ?_ (StepsR.cons (k := 14) [4, 8, 12, 13] (by kernel_rfl) ?_ (StepsR.cons (k := 15) [14, 4] (by kernel_rfl) ?_ (StepsR.cons (k := 16) [4, 15] (by kernel_rfl) ?_ (StepsR.cons (k := 17) [4, 16] (by kernel_rfl) ?_ (StepsR.nil))))))))))))))))))
    · intro d s w9 hd hA hC hF K hK
      have hB9 := hF.1.bel
      simp only [putL, putT, List.setIfInBounds_toArray, List.set_cons_zero, List.set_cons_succ]
      clear hB9
      as_aux_lemma =>
        have p0 := hF.1.cell 0 rfl 0 (.int .i64 n) rfl
        have p1 := hF.1.cell 0 rfl 1 (.slice a1 xs.length c1) rfl
        go_simp
        clear p0 p1
        refine hK.out (updS s 24 (Value.agg #[.int .i64 n, .slice a1 xs.length c1])) _ _ ?_ ⟨hF.1, hF.2.put 0 24 (Value.agg #[.int .i64 n, .slice a1 xs.length c1]) rfl (by simp)⟩
        simp only [putL, putT, List.setIfInBounds_toArray, List.set_cons_zero, List.set_cons_succ]; rfl
    · intro d s w9 hd hA hC hF K hK
      have hB9 := hF.1.bel
      simp only [putL, putT, List.setIfInBounds_toArray, List.set_cons_zero, List.set_cons_succ]
      clear hB9
      as_aux_lemma =>
        have p0 := hF.1.cell 1 rfl 0 (.int .i64 m) rfl
        have p1 := hF.1.cell 1 rfl 1 (.int .i64 cl) rfl
        have p2 := hF.1.cell 1 rfl 2 (.int .i64 sv) rfl
        have p3 := hF.1.cell 1 rfl 3 (.int .i64 nc) rfl
        have p4 := hF.1.cell 1 rfl 4 (.slice (some ⟨g2, 0, none⟩) ys.length cap) rfl
        go_simp
        clear p0 p1 p2 p3 p4
        refine hK.out (updS s 25 (Value.agg #[.int .i64 m, .int .i64 cl, .int .i64 sv, .int .i64 nc, .slice (some ⟨g2, 0, none⟩) ys.length cap])) _ _ ?_ ⟨hF.1, hF.2.put 1 25 (Value.agg #[.int .i64 m, .int .i64 cl, .int .i64 sv, .int .i64 nc, .slice (some ⟨g2, 0, none⟩) ys.length cap]) rfl (by simp)⟩
        simp only [putL, putT, List.setIfInBounds_toArray, List.set_cons_zero, List.set_cons_succ]; rfl
    · intro d s w9 hd hA hC hF K hK
      have hB9 := hF.1.bel
      simp only [putL, putT, List.setIfInBounds_toArray, List.set_cons_zero, List.set_cons_succ]
      clear hB9
      as_aux_lemma =>
        have eq0 : s 24 = Value.agg #[.int .i64 n, .slice a1 xs.length c1] := hF.2 (0, 24, Value.agg #[.int .i64 n, .slice a1 xs.length c1]) (by simp) (hA.1)
        have eq1 : s 25 = Value.agg #[.int .i64 m, .int .i64 cl, .int .i64 sv, .int .i64 nc, .slice (some ⟨g2, 0, none⟩) ys.length cap] := hF.2 (1, 25, Value.agg #[.int .i64 m, .int .i64 cl, .int .i64 sv, .int .i64 nc, .slice (some ⟨g2, 0, none⟩) ys.length cap]) (by simp) (hA.2.1)
        rw [eq0, eq1]
        go_simp
        refine (canAnswer_any n _ _ xs m cl sv nc _ _ ys 3 _ (HH.out.2.1.later hF.1.bel) hy (HH.out.2.2.later hF.1.bel)).mono ?_
        rintro r w8 ⟨rfl, b9⟩
        rw [u3]
        go_simp
        refine hK.out (updS s 26 (.bool true)) _ _ ?_ ⟨St.grow b9 hF.1, hF.2.put 2 26 (.bool true) rfl (by simp)⟩
        simp only [putL, putT, List.setIfInBounds_toArray, List.set_cons_zero, List.set_cons_succ]
        rw [← eq0, ← eq1]; rfl
    · intro d s w9 hd hA hC hF K hK
      have hB9 := hF.1.bel
      simp only [putL, putT, List.setIfInBounds_toArray, List.set_cons_zero, List.set_cons_succ]
      clear hB9
      as_aux_lemma =>
        have eq2 : s 26 = .bool true := hF.2 (2, 26, .bool true) (by simp) (hA.1)
        rw [eq2]
        go_simp
        refine hK.out (updS s 27 (.bool false)) _ _ ?_ ⟨hF.1, hF.2.put 3 27 (.bool false) rfl (by simp)⟩
        simp only [putL, putT, List.setIfInBounds_toArray, List.set_cons_zero, List.set_cons_succ]; rw [show updS s 27 (.bool false) 26 = .bool true from eq2]; rfl
    · intro d s w9 hd hA hC hF K hK
      have hB9 := hF.1.bel
      simp only [putL, putT, List.setIfInBounds_toArray, List.set_cons_zero, List.set_cons_succ]
      clear hB9
      as_aux_lemma =>
        have eq3 : s 27 = .bool false := hF.2 (3, 27, .bool false) (by simp) (hA.1)
        rw [eq3]
        go_simp
        refine hK.out (updS s 28 (.bool false)) _ _ ?_ ⟨hF.1, hF.2.put 4 28 (.bool false) rfl (by simp)⟩
        simp only [putL, putT, List.setIfInBounds_toArray, List.set_cons_zero, List.set_cons_succ]; rw [show updS s 28 (.bool false) 27 = .bool false from eq3]; rfl
    · intro d s w9 hd hA hC hF K hK
      have hB9 := hF.1.bel
      simp only [putL, putT, List.setIfInBounds_toArray, List.set_cons_zero, List.set_cons_succ]
      clear hB9
      as_aux_lemma =>
        have eq4 : s 28 = .bool false := hF.2 (4, 28, .bool false) (by simp) (hA.1)
        rw [eq4]
        go_simp
        refine hK.out (updS s 29 (Value.pointer (some ⟨w.heap.size + 1, 4, none⟩))) _ _ ?_ ⟨hF.1, hF.2.put 5 29 (Value.pointer (some ⟨w.heap.size + 1, 4, none⟩)) rfl (by simp)⟩
        simp only [putL, putT, List.setIfInBounds_toArray, List.set_cons_zero, List.set_cons_succ]; rw [show updS s 29 (Value.pointer (some ⟨w.heap.size + 1, 4, none⟩)) 28 = .bool false from eq4]; rfl
    · intro d s w9 hd hA hC hF K hK
      have hB9 := hF.1.bel
      simp only [putL, putT, List.setIfInBounds_toArray, List.set_cons_zero, List.set_cons_succ]
      clear hB9
      as_aux_lemma =>
        have eq4 : s 28 = .bool false := hF.2 (4, 28, .bool false) (by simp) (hA.1)
        have eq5 : s 29 = Value.pointer (some ⟨w.heap.size + 1, 4, none⟩) := hF.2 (5, 29, Value.pointer (some ⟨w.heap.size + 1, 4, none⟩)) (by simp) (hA.2.1)
        rw [eq4, eq5]
        have p4 := hF.1.cell 1 rfl 4 (.slice (some ⟨g2, 0, none⟩) ys.length cap) rfl
        go_simp
        clear p4
        refine hK.out (updS s 30 (Value.slice (some ⟨g2, 0, none⟩) ys.length cap)) _ _ ?_ ⟨hF.1, hF.2.put 6 30 (Value.slice (some ⟨g2, 0, none⟩) ys.length cap) rfl (by simp)⟩
        simp only [putL, putT, List.setIfInBounds_toArray, List.set_cons_zero, List.set_cons_succ]; rw [show updS s 30 (Value.slice (some ⟨g2, 0, none⟩) ys.length cap) 28 = .bool false from eq4, show updS s 30 (Value.slice (some ⟨g2, 0, none⟩) ys.length cap) 29 = Value.pointer (some ⟨w.heap.size + 1, 4, none⟩) from eq5]; rfl
    · intro d s w9 hd hA hC hF K hK
      have hB9 := hF.1.bel
      simp only [putL, putT, List.setIfInBounds_toArray, List.set_cons_zero, List.set_cons_succ]
      clear hB9
      as_aux_lemma =>
        have eq4 : s 28 = .bool false := hF.2 (4, 28, .bool false) (by simp) (hA.1)
        have eq6 : s 30 = Value.slice (some ⟨g2, 0, none⟩) ys.length cap := hF.2 (6, 30, Value.slice (some ⟨g2, 0, none⟩) ys.length cap) (by simp) (hA.2.1)
        rw [eq4, eq6]
        go_simp
        refine hK.out (updS s 31 (Value.pointer (some ⟨g2, 0, none⟩))) _ _ ?_ ⟨hF.1, hF.2.put 7 31 (Value.pointer (some ⟨g2, 0, none⟩)) rfl (by simp)⟩
        simp only [putL, putT, List.setIfInBounds_toArray, List.set_cons_zero, List.set_cons_succ]; rw [show updS s 31 (Value.pointer (some ⟨g2, 0, none⟩)) 28 = .bool false from eq4, show updS s 31 (Value.pointer (some ⟨g2, 0, none⟩)) 30 = Value.slice (some ⟨g2, 0, none⟩) ys.length cap from eq6]; rfl
    · intro d s w9 hd hA hC hF K hK
      have hB9 := hF.1.bel
      simp only [putL, putT, List.setIfInBounds_toArray, List.set_cons_zero, List.set_cons_succ]
      clear hB9
      as_aux_lemma =>
        have eq4 : s 28 = .bool false := hF.2 (4, 28, .bool false) (by simp) (hA.1)
        have eq7 : s 31 = Value.pointer (some ⟨g2, 0, none⟩) := hF.2 (7, 31, Value.pointer (some ⟨g2, 0, none⟩)) (by simp) (hA.2.1)
        rw [eq4, eq7]
        obtain ⟨q0, q1, q2, q3, q4, q5, q6⟩ := (srow_two' (HH.out.2.1.later hF.1.bel) HY.out.1).1
        simp only [Nat.zero_add] at q0 q1 q2 q3 q4 q5 q6
        go_simp
        clear q0 q1 q2 q3 q4 q5 q6
        refine hK.out (updS s 32 (Value.agg #[.int .i64 t.k, .int .i64 t.t, .int .i64 t.a, .int .i64 t.b, .int .i64 t.c, .int .i64 t.d, .int .i64 t.e])) _ _ ?_ ⟨hF.1, hF.2.put 8 32 (Value.agg #[.int .i64 t.k, .int .i64 t.t, .int .i64 t.a, .int .i64 t.b, .int .i64 t.c, .int .i64 t.d, .int .i64 t.e]) rfl (by simp)⟩
        simp only [putL, putT, List.setIfInBounds_toArray, List.set_cons_zero, List.set_cons_succ]; rw [show updS s 32 (Value.agg #[.int .i64 t.k, .int .i64 t.t, .int .i64 t.a, .int .i64 t.b, .int .i64 t.c, .int .i64 t.d, .int .i64 t.e]) 28 = .bool false from eq4, show updS s 32 (Value.agg #[.int .i64 t.k, .int .i64 t.t, .int .i64 t.a, .int .i64 t.b, .int .i64 t.c, .int .i64 t.d, .int .i64 t.e]) 31 = Value.pointer (some ⟨g2, 0, none⟩) from eq7]; rfl
    · intro d s w9 hd hA hC hF K hK
      have hB9 := hF.1.bel
      simp only [putL, putT, List.setIfInBounds_toArray, List.set_cons_zero, List.set_cons_succ]
      clear hB9
      as_aux_lemma =>
        have eq4 : s 28 = .bool false := hF.2 (4, 28, .bool false) (by simp) (hA.1)
        rw [eq4]
        go_simp
        refine hK.out (updS s 33 (Value.pointer (some ⟨w.heap.size + 1, 4, none⟩))) _ _ ?_ ⟨hF.1, hF.2.put 9 33 (Value.pointer (some ⟨w.heap.size + 1, 4, none⟩)) rfl (by simp)⟩
        simp only [putL, putT, List.setIfInBounds_toArray, List.set_cons_zero, List.set_cons_succ]; rw [show updS s 33 (Value.pointer (some ⟨w.heap.size + 1, 4, none⟩)) 28 = .bool false from eq4]; rfl
    · intro d s w9 hd hA hC hF K hK
      have hB9 := hF.1.bel
      simp only [putL, putT, List.setIfInBounds_toArray, List.set_cons_zero, List.set_cons_succ]
      clear hB9
      as_aux_lemma =>
        have eq4 : s 28 = .bool false := hF.2 (4, 28, .bool false) (by simp) (hA.1)
        have eq9 : s 33 = Value.pointer (some ⟨w.heap.size + 1, 4, none⟩) := hF.2 (9, 33, Value.pointer (some ⟨w.heap.size + 1, 4, none⟩)) (by simp) (hA.2.1)
        rw [eq4, eq9]
        have p4 := hF.1.cell 1 rfl 4 (.slice (some ⟨g2, 0, none⟩) ys.length cap) rfl
        go_simp
        clear p4
        refine hK.out (updS s 34 (Value.slice (some ⟨g2, 0, none⟩) ys.length cap)) _ _ ?_ ⟨hF.1, hF.2.put 10 34 (Value.slice (some ⟨g2, 0, none⟩) ys.length cap) rfl (by simp)⟩
        simp only [putL, putT, List.setIfInBounds_toArray, List.set_cons_zero, List.set_cons_succ]; rw [show updS s 34 (Value.slice (some ⟨g2, 0, none⟩) ys.length cap) 28 = .bool false from eq4, show updS s 34 (Value.slice (some ⟨g2, 0, none⟩) ys.length cap) 33 = Value.pointer (some ⟨w.heap.size + 1, 4, none⟩) from eq9]; rfl
    · intro d s w9 hd hA hC hF K hK
      have hB9 := hF.1.bel
      simp only [putL, putT, List.setIfInBounds_toArray, List.set_cons_zero, List.set_cons_succ]
      clear hB9
      as_aux_lemma =>
        have eq4 : s 28 = .bool false := hF.2 (4, 28, .bool false) (by simp) (hA.1)
        have eq10 : s 34 = Value.slice (some ⟨g2, 0, none⟩) ys.length cap := hF.2 (10, 34, Value.slice (some ⟨g2, 0, none⟩) ys.length cap) (by simp) (hA.2.1)
        rw [eq4, eq10]
        go_simp
        refine hK.out (updS s 35 (Value.pointer (some ⟨g2, 7, none⟩))) _ _ ?_ ⟨hF.1, hF.2.put 11 35 (Value.pointer (some ⟨g2, 7, none⟩)) rfl (by simp)⟩
        simp only [putL, putT, List.setIfInBounds_toArray, List.set_cons_zero, List.set_cons_succ]; rw [show updS s 35 (Value.pointer (some ⟨g2, 7, none⟩)) 28 = .bool false from eq4, show updS s 35 (Value.pointer (some ⟨g2, 7, none⟩)) 34 = Value.slice (some ⟨g2, 0, none⟩) ys.length cap from eq10]; rfl
    · intro d s w9 hd hA hC hF K hK
      have hB9 := hF.1.bel
      simp only [putL, putT, List.setIfInBounds_toArray, List.set_cons_zero, List.set_cons_succ]
      clear hB9
      as_aux_lemma =>
        have eq4 : s 28 = .bool false := hF.2 (4, 28, .bool false) (by simp) (hA.1)
        have eq11 : s 35 = Value.pointer (some ⟨g2, 7, none⟩) := hF.2 (11, 35, Value.pointer (some ⟨g2, 7, none⟩)) (by simp) (hA.2.1)
        rw [eq4, eq11]
        obtain ⟨q0, q1, q2, q3, q4, q5, q6⟩ := (srow_two' (HH.out.2.1.later hF.1.bel) HY.out.1).2
        go_simp
        clear q0 q1 q2 q3 q4 q5 q6
        refine hK.out (updS s 36 (Value.agg #[.int .i64 u.k, .int .i64 u.t, .int .i64 u.a, .int .i64 u.b, .int .i64 u.c, .int .i64 u.d, .int .i64 u.e])) _ _ ?_ ⟨hF.1, hF.2.put 12 36 (Value.agg #[.int .i64 u.k, .int .i64 u.t, .int .i64 u.a, .int .i64 u.b, .int .i64 u.c, .int .i64 u.d, .int .i64 u.e]) rfl (by simp)⟩
        simp only [putL, putT, List.setIfInBounds_toArray, List.set_cons_zero, List.set_cons_succ]; rw [show updS s 36 (Value.agg #[.int .i64 u.k, .int .i64 u.t, .int .i64 u.a, .int .i64 u.b, .int .i64 u.c, .int .i64 u.d, .int .i64 u.e]) 28 = .bool false from eq4, show updS s 36 (Value.agg #[.int .i64 u.k, .int .i64 u.t, .int .i64 u.a, .int .i64 u.b, .int .i64 u.c, .int .i64 u.d, .int .i64 u.e]) 35 = Value.pointer (some ⟨g2, 7, none⟩) from eq11]; rfl
    · intro d s w9 hd hA hC hF K hK
      have hB9 := hF.1.bel
      simp only [putL, putT, List.setIfInBounds_toArray, List.set_cons_zero, List.set_cons_succ]
      clear hB9
      as_aux_lemma =>
        have eq4 : s 28 = .bool false := hF.2 (4, 28, .bool false) (by simp) (hA.1)
        rw [eq4]
        go_simp
        refine hK.out (updS s 37 (Value.int .i64 now)) _ _ ?_ ⟨hF.1, hF.2.put 13 37 (Value.int .i64 now) rfl (by simp)⟩
        simp only [putL, putT, List.setIfInBounds_toArray, List.set_cons_zero, List.set_cons_succ]; rw [show updS s 37 (Value.int .i64 now) 28 = .bool false from eq4]; rfl
    · intro d s w9 hd hA hC hF K hK
      have hB9 := hF.1.bel
      simp only [putL, putT, List.setIfInBounds_toArray, List.set_cons_zero, List.set_cons_succ]
      clear hB9
      as_aux_lemma =>
        have eq4 : s 28 = .bool false := hF.2 (4, 28, .bool false) (by simp) (hA.1)
        have eq8 : s 32 = Value.agg #[.int .i64 t.k, .int .i64 t.t, .int .i64 t.a, .int .i64 t.b, .int .i64 t.c, .int .i64 t.d, .int .i64 t.e] := hF.2 (8, 32, Value.agg #[.int .i64 t.k, .int .i64 t.t, .int .i64 t.a, .int .i64 t.b, .int .i64 t.c, .int .i64 t.d, .int .i64 t.e]) (by simp) (hA.2.1)
        have eq12 : s 36 = Value.agg #[.int .i64 u.k, .int .i64 u.t, .int .i64 u.a, .int .i64 u.b, .int .i64 u.c, .int .i64 u.d, .int .i64 u.e] := hF.2 (12, 36, Value.agg #[.int .i64 u.k, .int .i64 u.t, .int .i64 u.a, .int .i64 u.b, .int .i64 u.c, .int .i64 u.d, .int .i64 u.e]) (by simp) (hA.2.2.1)
        have eq13 : s 37 = Value.int .i64 now := hF.2 (13, 37, Value.int .i64 now) (by simp) (hA.2.2.2.1)
        rw [eq4, eq8, eq12, eq13]
        refine ite_yes (by rfl) ?_
        refine wp_built 66 _ _ _ rfl (by simp only [List.map_toArray, List.map_cons, List.map_nil]; rfl) (bldShow w9 t u now) ?_
        refine hK.out (updS s 38 (Value.agg #[.int .i64 t.k, .int .i64 t.t, .int .i64 t.a, .int .i64 t.b, .int .i64 t.c, .int .i64 t.d, .int .i64 t.e, .int .i64 u.k, .int .i64 u.t, .int .i64 u.a, .int .i64 u.b, .int .i64 u.c, .int .i64 u.d, .int .i64 u.e, .int .i64 6, .int .i64 now])) _ _ ?_ ⟨hF.1, hF.2.put 14 38 (Value.agg #[.int .i64 t.k, .int .i64 t.t, .int .i64 t.a, .int .i64 t.b, .int .i64 t.c, .int .i64 t.d, .int .i64 t.e, .int .i64 u.k, .int .i64 u.t, .int .i64 u.a, .int .i64 u.b, .int .i64 u.c, .int .i64 u.d, .int .i64 u.e, .int .i64 6, .int .i64 now]) rfl (by simp)⟩
        simp only [putL, putT, List.setIfInBounds_toArray, List.set_cons_zero, List.set_cons_succ]; rw [show updS s 38 (Value.agg #[.int .i64 t.k, .int .i64 t.t, .int .i64 t.a, .int .i64 t.b, .int .i64 t.c, .int .i64 t.d, .int .i64 t.e, .int .i64 u.k, .int .i64 u.t, .int .i64 u.a, .int .i64 u.b, .int .i64 u.c, .int .i64 u.d, .int .i64 u.e, .int .i64 6, .int .i64 now]) 28 = .bool false from eq4, show updS s 38 (Value.agg #[.int .i64 t.k, .int .i64 t.t, .int .i64 t.a, .int .i64 t.b, .int .i64 t.c, .int .i64 t.d, .int .i64 t.e, .int .i64 u.k, .int .i64 u.t, .int .i64 u.a, .int .i64 u.b, .int .i64 u.c, .int .i64 u.d, .int .i64 u.e, .int .i64 6, .int .i64 now]) 32 = Value.agg #[.int .i64 t.k, .int .i64 t.t, .int .i64 t.a, .int .i64 t.b, .int .i64 t.c, .int .i64 t.d, .int .i64 t.e] from eq8, show updS s 38 (Value.agg #[.int .i64 t.k, .int .i64 t.t, .int .i64 t.a, .int .i64 t.b, .int .i64 t.c, .int .i64 t.d, .int .i64 t.e, .int .i64 u.k, .int .i64 u.t, .int .i64 u.a, .int .i64 u.b, .int .i64 u.c, .int .i64 u.d, .int .i64 u.e, .int .i64 6, .int .i64 now]) 36 = Value.agg #[.int .i64 u.k, .int .i64 u.t, .int .i64 u.a, .int .i64 u.b, .int .i64 u.c, .int .i64 u.d, .int .i64 u.e] from eq12, show updS s 38 (Value.agg #[.int .i64 t.k, .int .i64 t.t, .int .i64 t.a, .int .i64 t.b, .int .i64 t.c, .int .i64 t.d, .int .i64 t.e, .int .i64 u.k, .int .i64 u.t, .int .i64 u.a, .int .i64 u.b, .int .i64 u.c, .int .i64 u.d, .int .i64 u.e, .int .i64 6, .int .i64 now]) 37 = Value.int .i64 now from eq13]; rfl
    · intro d s w9 hd hA hC hF K hK
      have hB9 := hF.1.bel
      simp only [putL, putT, List.setIfInBounds_toArray, List.set_cons_zero, List.set_cons_succ]
      clear hB9
      as_aux_lemma =>
        have eq14 : s 38 = Value.agg #[.int .i64 t.k, .int .i64 t.t, .int .i64 t.a, .int .i64 t.b, .int .i64 t.c, .int .i64 t.d, .int .i64 t.e, .int .i64 u.k, .int .i64 u.t, .int .i64 u.a, .int .i64 u.b, .int .i64 u.c, .int .i64 u.d, .int .i64 u.e, .int .i64 6, .int .i64 now] := hF.2 (14, 38, Value.agg #[.int .i64 t.k, .int .i64 t.t, .int .i64 t.a, .int .i64 t.b, .int .i64 t.c, .int .i64 t.d, .int .i64 t.e, .int .i64 u.k, .int .i64 u.t, .int .i64 u.a, .int .i64 u.b, .int .i64 u.c, .int .i64 u.d, .int .i64 u.e, .int .i64 6, .int .i64 now]) (by simp) (hA.1)
        have eq4 : s 28 = .bool false := hF.2 (4, 28, .bool false) (by simp) (hA.2.1)
        rw [eq14, eq4]
        go_simp
        refine (isShown_any t u 6 now _).mono ?_
        rintro r w8 ⟨rfl, b9⟩
        rw [← HSB.out]
        go_simp
        refine hK.out (updS s 39 (.bool sb)) _ _ ?_ ⟨St.grow b9 hF.1, hF.2.put 15 39 (.bool sb) rfl (by simp)⟩
        simp only [putL, putT, List.setIfInBounds_toArray, List.set_cons_zero, List.set_cons_succ]
        rw [← eq14, ← eq4]; rfl
    · intro d s w9 hd hA hC hF K hK
      have hB9 := hF.1.bel
      simp only [putL, putT, List.setIfInBounds_toArray, List.set_cons_zero, List.set_cons_succ]
      clear hB9
      as_aux_lemma =>
        have eq4 : s 28 = .bool false := hF.2 (4, 28, .bool false) (by simp) (hA.1)
        have eq15 : s 39 = .bool sb := hF.2 (15, 39, .bool sb) (by simp) (hA.2.1)
        rw [eq4, eq15]
        go_simp
        refine hK.out (updS s 40 (.bool (!sb))) _ _ ?_ ⟨hF.1, hF.2.put 16 40 (.bool (!sb)) rfl (by simp)⟩
        simp only [putL, putT, List.setIfInBounds_toArray, List.set_cons_zero, List.set_cons_succ]; rw [show updS s 40 (.bool (!sb)) 28 = .bool false from eq4, show updS s 40 (.bool (!sb)) 39 = .bool sb from eq15]; rfl
    · intro d s w9 hd hA hC hF K hK
      have hB9 := hF.1.bel
      simp only [putL, putT, List.setIfInBounds_toArray, List.set_cons_zero, List.set_cons_succ]
      clear hB9
      as_aux_lemma =>
        have eq4 : s 28 = .bool false := hF.2 (4, 28, .bool false) (by simp) (hA.1)
        have eq16 : s 40 = .bool (!sb) := hF.2 (16, 40, .bool (!sb)) (by simp) (hA.2.1)
        rw [eq4, eq16]
        go_simp
        refine hK.out (updS s 41 (.bool (!sb))) _ _ ?_ ⟨hF.1, hF.2.put 17 41 (.bool (!sb)) rfl (by simp)⟩
        simp only [putL, putT, List.setIfInBounds_toArray, List.set_cons_zero, List.set_cons_succ]; rw [show updS s 41 (.bool (!sb)) 28 = .bool false from eq4, show updS s 41 (.bool (!sb)) 40 = .bool (!sb) from eq16]; rfl
  · intro d s w3 hA hF
    have hS := hF.1
    have eq17 : s 41 = .bool (!sb) := hF.2 (17, 41, .bool (!sb)) (by simp) (hA.2.2.2.2.2.2.2.2.2.2.2.2.2.2.2.2.2.1)
    have HS3 : Hid (St w.heap.size w [⟨w.heap.size, 31, #[.int .i64 n, .slice a1 xs.length c1]⟩, ⟨w.heap.size + 1, 33, #[.int .i64 m, .int .i64 cl, .int .i64 sv, .int .i64 nc, .slice (some ⟨g2, 0, none⟩) ys.length cap]⟩, ⟨w.heap.size + 1 + 1, 31, #[.int .i64 0, .slice none 0 0]⟩, ⟨w.heap.size + 1 + 1 + 1, 33, #[.int .i64 0, .int .i64 0, .int .i64 0, .int .i64 0, .slice none 0 0]⟩] [] w3) := hS
    clear hS hF hA HS2
    simp only [putL, putT, List.setIfInBounds_toArray, List.set_cons_zero, List.set_cons_succ]
    rw [eq17]
    clear eq17
    cases hsb : sb
    · skip
      rw [hsb] at HSB
      have EA : Hid (tgsK n xs m cl sv nc ys now = keepK n xs) := Hid.mk' (by rw [EG.out]; unfold giveK; rw [if_neg (by rw [← HSB.out]; simp)])
      have lt0 : w.heap.size < w3.heap.size := (HS3.out.lt 0 rfl).2
      have lt1 : w.heap.size + 1 < w3.heap.size := (HS3.out.lt 1 rfl).2
      have lt2 : w.heap.size + 1 + 1 < w3.heap.size := (HS3.out.lt 2 rfl).2
      have lt3 : w.heap.size + 1 + 1 + 1 < w3.heap.size := (HS3.out.lt 3 rfl).2
      have p0 := HS3.out.cell 0 rfl 0 (.int .i64 n) rfl
      have p1 := HS3.out.cell 0 rfl 1 (.slice a1 xs.length c1) rfl
      go_wp2_with fail
      clear lt0 lt1 lt2 lt3 p0 p1
      have hsz : w.heap.size ≤ w3.heap.size := (HS3.out.bel).size
      refine (copyKdc_any n _ _ xs _ (HH.out.1.later HS3.out.bel) hx).mono ?_
      rintro r w5 ⟨⟨a', c', rfl, o5⟩, b9⟩
      have HS4 : Hid (St w.heap.size w [⟨w.heap.size, 31, #[.int .i64 n, .slice a1 xs.length c1]⟩, ⟨w.heap.size + 1, 33, #[.int .i64 m, .int .i64 cl, .int .i64 sv, .int .i64 nc, .slice (some ⟨g2, 0, none⟩) ys.length cap]⟩, ⟨w.heap.size + 1 + 1, 31, #[.int .i64 0, .slice none 0 0]⟩, ⟨w.heap.size + 1 + 1 + 1, 33, #[.int .i64 0, .int .i64 0, .int .i64 0, .int .i64 0, .slice none 0 0]⟩] [] w5) := Hid.mk' (by
        have h := St.grow b9 HS3.out
        try simp only [World.size_alloc] at h
        try simp only [World.size_setCell] at h
        exact h)
      clear HS3
      clear b9
      have HS5 : Hid (St w.heap.size w [⟨w.heap.size, 31, #[.int .i64 n, .slice a1 xs.length c1]⟩, ⟨w.heap.size + 1, 33, #[.int .i64 m, .int .i64 cl, .int .i64 sv, .int .i64 nc, .slice (some ⟨g2, 0, none⟩) ys.length cap]⟩, ⟨w.heap.size + 1 + 1, 31, #[.int .i64 0, .slice none 0 0]⟩, ⟨w.heap.size + 1 + 1 + 1, 33, #[.int .i64 0, .int .i64 0, .int .i64 0, .int .i64 0, .slice none 0 0]⟩] [⟨selT 64, fun W => OwnS W w.heap.size (.slice a' xs.length c') xs⟩] w5) := Hid.mk' (by
        have h := St.add (selT 64) (fun W => OwnS W w.heap.size (.slice a' xs.length c') xs) (keep_owns _ _ _) (OwnS.less o5 hsz) HS4.out
        try simp only [World.size_alloc] at h
        try simp only [World.size_setCell] at h
        exact h)
      clear HS4
      clear o5 hsz
      have lt2 : w.heap.size + 1 + 1 < w5.heap.size := (HS5.out.lt 2 rfl).2
      have lt3 : w.heap.size + 1 + 1 + 1 < w5.heap.size := (HS5.out.lt 3 rfl).2
      have z0 := HS5.out.cell 2 rfl 0 (.int .i64 0) rfl
      have zf0 := HS5.out.fro 2 rfl 0
      have z1 := HS5.out.cell 2 rfl 1 (.slice none 0 0) rfl
      have zf1 := HS5.out.fro 2 rfl 1
      have y0 := HS5.out.cell 3 rfl 0 (.int .i64 0) rfl
      have yf0 := HS5.out.fro 3 rfl 0
      have y1 := HS5.out.cell 3 rfl 1 (.int .i64 0) rfl
      have yf1 := HS5.out.fro 3 rfl 1
      have y2 := HS5.out.cell 3 rfl 2 (.int .i64 0) rfl
      have yf2 := HS5.out.fro 3 rfl 2
      have y3 := HS5.out.cell 3 rfl 3 (.int .i64 0) rfl
      have yf3 := HS5.out.fro 3 rfl 3
      have y4 := HS5.out.cell 3 rfl 4 (.slice none 0 0) rfl
      have yf4 := HS5.out.fro 3 rfl 4
      go_wp2_with fail
      clear lt2 lt3 z0 zf0 z1 zf1 y0 yf0 y1 yf1 y2 yf2 y3 yf3 y4 yf4
      obtain ⟨V, hX9, HS6⟩ : ∃ X, X = (((((((w5.setCell ⟨w.heap.size + 1 + 1, 0, none⟩ (.int .i64 n)).setCell ⟨w.heap.size + 1 + 1, 1, none⟩ (.slice a' xs.length c')).setCell ⟨w.heap.size + 1 + 1 + 1, 0, none⟩ (.int .i64 0)).setCell ⟨w.heap.size + 1 + 1 + 1, 1, none⟩ (.int .i64 0)).setCell ⟨w.heap.size + 1 + 1 + 1, 2, none⟩ (.int .i64 0)).setCell ⟨w.heap.size + 1 + 1 + 1, 3, none⟩ (.int .i64 0)).setCell ⟨w.heap.size + 1 + 1 + 1, 4, none⟩ (.slice none 0 0)) ∧ Hid (St w.heap.size w [⟨w.heap.size, 31, #[.int .i64 n, .slice a1 xs.length c1]⟩, ⟨w.heap.size + 1, 33, #[.int .i64 m, .int .i64 cl, .int .i64 sv, .int .i64 nc, .slice (some ⟨g2, 0, none⟩) ys.length cap]⟩, ⟨w.heap.size + 1 + 1, 31, #[.int .i64 n, .slice a' xs.length c']⟩, ⟨w.heap.size + 1 + 1 + 1, 33, #[.int .i64 0, .int .i64 0, .int .i64 0, .int .i64 0, .slice none 0 0]⟩] [⟨selT 64, fun W => OwnS W w.heap.size (.slice a' xs.length c') xs⟩] X) := ⟨_, rfl, Hid.mk' (by
        have h := (St.put5 3 (St.put2 2 HS5.out rfl rfl (.int .i64 n) (.slice a' xs.length c')) rfl rfl (.int .i64 0) (.int .i64 0) (.int .i64 0) (.int .i64 0) (.slice none 0 0))
        try simp only [World.size_alloc] at h
        try simp only [World.size_setCell] at h
        exact h)⟩
      rw [← hX9]
      clear hX9
      clear HS5
      have y0 := HS6.out.cell 2 rfl 0 (.int .i64 n) rfl
      have y1 := HS6.out.cell 2 rfl 1 (.slice a' xs.length c') rfl
      have z0 := HS6.out.cell 3 rfl 0 (.int .i64 0) rfl
      have z1 := HS6.out.cell 3 rfl 1 (.int .i64 0) rfl
      have z2 := HS6.out.cell 3 rfl 2 (.int .i64 0) rfl
      have z3 := HS6.out.cell 3 rfl 3 (.int .i64 0) rfl
      have z4 := HS6.out.cell 3 rfl 4 (.slice none 0 0) rfl
      refine bodyPost_ret (v := .tuple #[.agg #[.int .i64 n, .slice a' xs.length c'], .agg #[.int .i64 0, .int .i64 0, .int .i64 0, .int .i64 0, .slice none 0 0], .bool false]) (by simp [results, Tryd.results10, go_sem, *]) rfl ?_
      rw [EA.out]
      exact ⟨⟨a', c', none, 0, w.heap.size, V.heap.size, rfl, HS6.out.of 0 rfl, OwnS.nil _ _, Nat.le_refl _, (HS6.out.bel).size, fun k hk => (OwnS.low (HS6.out.of 0 rfl) k hk).2⟩, HS6.out.bel⟩
    rw [hsb] at HSB
    have hsh : shB t u 6 now = true := HSB.out.symm
    have hau := shB_auth hsh HY.out.2.2
    obtain ⟨ecb, ecl⟩ := cw_ok u1 u2 hau
    obtain ⟨L, hL⟩ : ∃ L, L = withL now xs u := ⟨_, rfl⟩
    obtain ⟨tb, htb⟩ : ∃ tb, tb = takes now xs u := ⟨_, rfl⟩
    rw [← hL] at ecl
    rw [← htb] at ecb
    have HC : Hid (cwB now xs u = tb ∧ cwL now xs u = L) := ⟨ecb, ecl⟩
    have EG2 : Hid (tgsK n xs m cl sv nc ys now = if tb = true then ⟨n + 1, L, 4, t.a, 0, 0, [tick t.a sv n now t.e, part t.c sv n nc t.e], true⟩ else keepK n L) := Hid.mk' (by rw [EG.out, hL, htb]; unfold giveK; rw [if_pos hsh])
    clear ecb ecl hL htb hsh hau EG
    obtain ⟨r0, r1, r2, r3, r4, r5, r6⟩ := (srow_two' (HH.out.2.1.later HS3.out.bel) HY.out.1).1
    simp only [Nat.zero_add] at r0 r1 r2 r3 r4 r5 r6
    have lt0 : w.heap.size < w3.heap.size := (HS3.out.lt 0 rfl).2
    have lt1 : w.heap.size + 1 < w3.heap.size := (HS3.out.lt 1 rfl).2
    have lt2 : w.heap.size + 1 + 1 < w3.heap.size := (HS3.out.lt 2 rfl).2
    have lt3 : w.heap.size + 1 + 1 + 1 < w3.heap.size := (HS3.out.lt 3 rfl).2
    have p0 := HS3.out.cell 1 rfl 0 (.int .i64 m) rfl
    have p1 := HS3.out.cell 1 rfl 1 (.int .i64 cl) rfl
    have p2 := HS3.out.cell 1 rfl 2 (.int .i64 sv) rfl
    have p3 := HS3.out.cell 1 rfl 3 (.int .i64 nc) rfl
    have p4 := HS3.out.cell 1 rfl 4 (.slice (some ⟨g2, 0, none⟩) ys.length cap) rfl
    go_wp2_with fail
    clear lt0 lt1 lt2 lt3 p0 p1 p2 p3 p4
    clear r0 r1 r2 r3 r4 r5 r6
    obtain ⟨w4, hX9, HS4⟩ : ∃ X, X = (w3.alloc (.cells #[.int .i64 t.k, .int .i64 t.t, .int .i64 t.a, .int .i64 t.b, .int .i64 t.c, .int .i64 t.d, .int .i64 t.e] 64)) ∧ Hid (St w.heap.size w [⟨w.heap.size, 31, #[.int .i64 n, .slice a1 xs.length c1]⟩, ⟨w.heap.size + 1, 33, #[.int .i64 m, .int .i64 cl, .int .i64 sv, .int .i64 nc, .slice (some ⟨g2, 0, none⟩) ys.length cap]⟩, ⟨w.heap.size + 1 + 1, 31, #[.int .i64 0, .slice none 0 0]⟩, ⟨w.heap.size + 1 + 1 + 1, 33, #[.int .i64 0, .int .i64 0, .int .i64 0, .int .i64 0, .slice none 0 0]⟩, ⟨w3.heap.size, 64, #[.int .i64 t.k, .int .i64 t.t, .int .i64 t.a, .int .i64 t.b, .int .i64 t.c, .int .i64 t.d, .int .i64 t.e]⟩] [] X) := ⟨_, rfl, Hid.mk' (by
      have h := (St.alloc #[.int .i64 t.k, .int .i64 t.t, .int .i64 t.a, .int .i64 t.b, .int .i64 t.c, .int .i64 t.d, .int .i64 t.e] 64 HS3.out)
      try simp only [World.size_alloc] at h
      try simp only [World.size_setCell] at h
      exact h)⟩
    rw [← hX9]
    clear hX9
    clear HS3
    refine wp_region_walk [10, 11, 49, 50, 51, 52, 53, 54, 55, 56, 57, 58, 59] (fun d s W => St w.heap.size w [⟨w.heap.size, 31, #[.int .i64 n, .slice a1 xs.length c1]⟩, ⟨w.heap.size + 1, 33, #[.int .i64 m, .int .i64 cl, .int .i64 sv, .int .i64 nc, .slice (some ⟨g2, 0, none⟩) ys.length cap]⟩, ⟨w.heap.size + 1 + 1, 31, #[.int .i64 0, .slice none 0 0]⟩, ⟨w.heap.size + 1 + 1 + 1, 33, #[.int .i64 0, .int .i64 0, .int .i64 0, .int .i64 0, .slice none 0 0]⟩, ⟨w3.heap.size, 64, #[.int .i64 t.k, .int .i64 t.t, .int .i64 t.a, .int .i64 t.b, .int .i64 t.c, .int .i64 t.d, .int .i64 t.e]⟩] [⟨(selT 64), fun W => TwS 7 8 9 11 57 49 58 10 d s tb w.heap.size L W⟩] W ∧ Looks [(0, 50, Value.pointer (some ⟨w.heap.size, 1, none⟩)), (1, 51, Value.slice a1 xs.length c1), (2, 52, Value.pointer (some ⟨w.heap.size + 1, 4, none⟩)), (3, 53, Value.slice (some ⟨g2, 0, none⟩) ys.length cap), (4, 54, Value.pointer (some ⟨g2, 7, none⟩)), (5, 55, Value.agg #[.int .i64 u.k, .int .i64 u.t, .int .i64 u.a, .int .i64 u.b, .int .i64 u.c, .int .i64 u.d, .int .i64 u.e]), (6, 56, Value.int .i64 now), (10, 59, .bool tb), (12, 11, .bool tb)] d s) [0, 1, 2, 3, 4, 5, 6, 7, 8, 9, 10, 11, 12] (by kernel_rfl) (by kernel_rfl) (by kernel_rfl) ?_ ?_ ?_
    · intro s
      exact ⟨St.add (selT 64) (TwS 7 8 9 11 57 49 58 10 (fun _ : Nat => false) s tb w.heap.size L) (keep_TwS 7 8 9 11 57 49 58 10 (fun _ : Nat => false) s tb w.heap.size L) ⟨undef, (fun e => by cases e), (fun e => by cases e), (fun e => by cases e), (fun e => by cases e)⟩ HS4.out.drew, Looks.none _ _⟩
    · refine StepsR.cons (k := 0) [] (by kernel_rfl) ?_ (StepsR.cons (k := 1) [0] (by kernel_rfl) ?_ (StepsR.cons (k := 2) [] (by kernel_rfl) ?_ (StepsR.cons (k := 3) [2] (by kernel_rfl) ?_ (StepsR.cons (k := 4) [3] (by kernel_rfl) ?_ (StepsR.cons (k := 5) [4] (by kernel_rfl) ?_ (StepsR.cons (k := 6) [] (by kernel_rfl) ?_ (StepsR.cons (k := 7) [1, 5, 6] (by kernel_rfl) ?_ (StepsR.cons (k := 8) [7] (by kernel_rfl) ?_ (StepsR.cons (k := 9) [8] (by kernel_rfl) ?_ (StepsR.cons (k := 10) [8] (by kernel_rfl) ?_ (StepsR.cons (k := 11) [9] (by kernel_rfl) ?_ (StepsR.cons (k := 12) [10] (by kernel_rfl) ?_ (StepsR.nil)))))))))))))
      · intro d s w9 hd hA hC hF K hK
        have hB9 := hF.1.bel
        simp only [putL, putT, List.setIfInBounds_toArray, List.set_cons_zero, List.set_cons_succ]
        clear hB9
        as_aux_lemma =>
          go_simp
          refine hK.out (updS s 50 (Value.pointer (some ⟨w.heap.size, 1, none⟩))) _ _ ?_ ⟨hF.1, hF.2.put 0 50 (Value.pointer (some ⟨w.heap.size, 1, none⟩)) rfl (by simp)⟩
          simp only [putL, putT, List.setIfInBounds_toArray, List.set_cons_zero, List.set_cons_succ]; rfl
      · intro d s w9 hd hA hC hF K hK
        have hB9 := hF.1.bel
        simp only [putL, putT, List.setIfInBounds_toArray, List.set_cons_zero, List.set_cons_succ]
        clear hB9
        as_aux_lemma =>
          have eq0 : s 50 = Value.pointer (some ⟨w.heap.size, 1, none⟩) := hF.2 (0, 50, Value.pointer (some ⟨w.heap.size, 1, none⟩)) (by simp) (hA.1)
          rw [eq0]
          have p1 := hF.1.cell 0 rfl 1 (.slice a1 xs.length c1) rfl
          go_simp
          clear p1
          refine hK.out (updS s 51 (Value.slice a1 xs.length c1)) _ _ ?_ ⟨hF.1, hF.2.put 1 51 (Value.slice a1 xs.length c1) rfl (by simp)⟩
          simp only [putL, putT, List.setIfInBounds_toArray, List.set_cons_zero, List.set_cons_succ]; rw [show updS s 51 (Value.slice a1 xs.length c1) 50 = Value.pointer (some ⟨w.heap.size, 1, none⟩) from eq0]; rfl
      · intro d s w9 hd hA hC hF K hK
        have hB9 := hF.1.bel
        simp only [putL, putT, List.setIfInBounds_toArray, List.set_cons_zero, List.set_cons_succ]
        clear hB9
        as_aux_lemma =>
          go_simp
          refine hK.out (updS s 52 (Value.pointer (some ⟨w.heap.size + 1, 4, none⟩))) _ _ ?_ ⟨hF.1, hF.2.put 2 52 (Value.pointer (some ⟨w.heap.size + 1, 4, none⟩)) rfl (by simp)⟩
          simp only [putL, putT, List.setIfInBounds_toArray, List.set_cons_zero, List.set_cons_succ]; rfl
      · intro d s w9 hd hA hC hF K hK
        have hB9 := hF.1.bel
        simp only [putL, putT, List.setIfInBounds_toArray, List.set_cons_zero, List.set_cons_succ]
        clear hB9
        as_aux_lemma =>
          have eq2 : s 52 = Value.pointer (some ⟨w.heap.size + 1, 4, none⟩) := hF.2 (2, 52, Value.pointer (some ⟨w.heap.size + 1, 4, none⟩)) (by simp) (hA.1)
          rw [eq2]
          have p4 := hF.1.cell 1 rfl 4 (.slice (some ⟨g2, 0, none⟩) ys.length cap) rfl
          go_simp
          clear p4
          refine hK.out (updS s 53 (Value.slice (some ⟨g2, 0, none⟩) ys.length cap)) _ _ ?_ ⟨hF.1, hF.2.put 3 53 (Value.slice (some ⟨g2, 0, none⟩) ys.length cap) rfl (by simp)⟩
          simp only [putL, putT, List.setIfInBounds_toArray, List.set_cons_zero, List.set_cons_succ]; rw [show updS s 53 (Value.slice (some ⟨g2, 0, none⟩) ys.length cap) 52 = Value.pointer (some ⟨w.heap.size + 1, 4, none⟩) from eq2]; rfl
      · intro d s w9 hd hA hC hF K hK
        have hB9 := hF.1.bel
        simp only [putL, putT, List.setIfInBounds_toArray, List.set_cons_zero, List.set_cons_succ]
        clear hB9
        as_aux_lemma =>
          have eq3 : s 53 = Value.slice (some ⟨g2, 0, none⟩) ys.length cap := hF.2 (3, 53, Value.slice (some ⟨g2, 0, none⟩) ys.length cap) (by simp) (hA.1)
          rw [eq3]
          go_simp
          refine hK.out (updS s 54 (Value.pointer (some ⟨g2, 7, none⟩))) _ _ ?_ ⟨hF.1, hF.2.put 4 54 (Value.pointer (some ⟨g2, 7, none⟩)) rfl (by simp)⟩
          simp only [putL, putT, List.setIfInBounds_toArray, List.set_cons_zero, List.set_cons_succ]; rw [show updS s 54 (Value.pointer (some ⟨g2, 7, none⟩)) 53 = Value.slice (some ⟨g2, 0, none⟩) ys.length cap from eq3]; rfl
      · intro d s w9 hd hA hC hF K hK
        have hB9 := hF.1.bel
        simp only [putL, putT, List.setIfInBounds_toArray, List.set_cons_zero, List.set_cons_succ]
        clear hB9
        as_aux_lemma =>
          have eq4 : s 54 = Value.pointer (some ⟨g2, 7, none⟩) := hF.2 (4, 54, Value.pointer (some ⟨g2, 7, none⟩)) (by simp) (hA.1)
          rw [eq4]
          obtain ⟨q0, q1, q2, q3, q4, q5, q6⟩ := (srow_two' (HH.out.2.1.later hF.1.bel) HY.out.1).2
          go_simp
          clear q0 q1 q2 q3 q4 q5 q6
          refine hK.out (updS s 55 (Value.agg #[.int .i64 u.k, .int .i64 u.t, .int .i64 u.a, .int .i64 u.b, .int .i64 u.c, .int .i64 u.d, .int .i64 u.e])) _ _ ?_ ⟨hF.1, hF.2.put 5 55 (Value.agg #[.int .i64 u.k, .int .i64 u.t, .int .i64 u.a, .int .i64 u.b, .int .i64 u.c, .int .i64 u.d, .int .i64 u.e]) rfl (by simp)⟩
          simp only [putL, putT, List.setIfInBounds_toArray, List.set_cons_zero, List.set_cons_succ]; rw [show updS s 55 (Value.agg #[.int .i64 u.k, .int .i64 u.t, .int .i64 u.a, .int .i64 u.b, .int .i64 u.c, .int .i64 u.d, .int .i64 u.e]) 54 = Value.pointer (some ⟨g2, 7, none⟩) from eq4]; rfl
      · intro d s w9 hd hA hC hF K hK
        have hB9 := hF.1.bel
        simp only [putL, putT, List.setIfInBounds_toArray, List.set_cons_zero, List.set_cons_succ]
        clear hB9
        as_aux_lemma =>
          go_simp
          refine hK.out (updS s 56 (Value.int .i64 now)) _ _ ?_ ⟨hF.1, hF.2.put 6 56 (Value.int .i64 now) rfl (by simp)⟩
          simp only [putL, putT, List.setIfInBounds_toArray, List.set_cons_zero, List.set_cons_succ]; rfl
      · intro d s w9 hd hA hC hF K hK
        have hB9 := hF.1.bel
        simp only [putL, putT, List.setIfInBounds_toArray, List.set_cons_zero, List.set_cons_succ]
        clear hB9
        as_aux_lemma =>
          have eq1 : s 51 = Value.slice a1 xs.length c1 := hF.2 (1, 51, Value.slice a1 xs.length c1) (by simp) (hA.1)
          have eq5 : s 55 = Value.agg #[.int .i64 u.k, .int .i64 u.t, .int .i64 u.a, .int .i64 u.b, .int .i64 u.c, .int .i64 u.d, .int .i64 u.e] := hF.2 (5, 55, Value.agg #[.int .i64 u.k, .int .i64 u.t, .int .i64 u.a, .int .i64 u.b, .int .i64 u.c, .int .i64 u.d, .int .i64 u.e]) (by simp) (hA.2.1)
          have eq6 : s 56 = Value.int .i64 now := hF.2 (6, 56, Value.int .i64 now) (by simp) (hA.2.2.1)
          rw [eq1, eq5, eq6]
          go_simp
          have hb8 := hF.1.bel.size
          refine (implWith_any a1 c1 xs u now _ (HH.out.1.later hF.1.bel) hc).mono ?_
          rintro r w8 ⟨⟨v, rfl, o8⟩, b9⟩
          rw [HC.out.2] at o8
          rw [HC.out.1]
          go_simp
          have d8 : d 8 = false := hC.off 8 7 (by kernel_rfl) hd
          have d9 : d 9 = false := hC.off 9 8 (by kernel_rfl) d8
          have d11 : d 11 = false := hC.off 11 9 (by kernel_rfl) d9
          refine hK.out (updS s 57 (Value.tuple #[v, .bool tb])) _ _ ?_ ⟨St.setR (St.grow b9 hF.1) 0 (selT 64) (TwS 7 8 9 11 57 49 58 10 (upd d 7) (updS s 57 (Value.tuple #[v, .bool tb])) tb w.heap.size L) (keep_TwS _ _ _ _ _ _ _ _ _ _ _ _ _) ⟨v, fun _ => ⟨rfl, OwnS.less o8 hb8⟩, (fun e => absurd (d8.symm.trans e) (by simp)), (fun e => absurd (d9.symm.trans e) (by simp)), (fun e => absurd (d11.symm.trans e) (by simp))⟩, hF.2.skipS 7 57 _ rfl⟩
          simp only [putL, putT, List.setIfInBounds_toArray, List.set_cons_zero, List.set_cons_succ]
          rw [← eq1, ← eq5, ← eq6]; rfl
      · intro d s w9 hd hA hC hF K hK
        have hB9 := hF.1.bel
        simp only [putL, putT, List.setIfInBounds_toArray, List.set_cons_zero, List.set_cons_succ]
        clear hB9
        as_aux_lemma =>
          obtain ⟨v, t1, t2, t3, t4⟩ := hF.1.of 0 rfl
          have e := (t1 hA.1).1
          rw [e]
          go_simp
          refine hK.out (updS s 49 (Value.tuple #[v, .bool tb])) _ _ ?_ ⟨St.setR hF.1 0 (selT 64) (TwS 7 8 9 11 57 49 58 10 (upd d 8) (updS s 49 (Value.tuple #[v, .bool tb])) tb w.heap.size L) (keep_TwS 7 8 9 11 57 49 58 10 (upd d 8) (updS s 49 (Value.tuple #[v, .bool tb])) tb w.heap.size L) ⟨v, t1, fun _ => rfl, t3, t4⟩, hF.2.skipS 8 49 _ rfl⟩
          simp only [putL, putT, List.setIfInBounds_toArray, List.set_cons_zero, List.set_cons_succ]
          rw [← e]; rfl
      · intro d s w9 hd hA hC hF K hK
        have hB9 := hF.1.bel
        simp only [putL, putT, List.setIfInBounds_toArray, List.set_cons_zero, List.set_cons_succ]
        clear hB9
        as_aux_lemma =>
          obtain ⟨v, t1, t2, t3, t4⟩ := hF.1.of 0 rfl
          have e := t2 hA.1
          rw [e]
          go_simp
          refine hK.out (updS s 58 v) _ _ ?_ ⟨St.setR hF.1 0 (selT 64) (TwS 7 8 9 11 57 49 58 10 (upd d 9) (updS s 58 v) tb w.heap.size L) (keep_TwS 7 8 9 11 57 49 58 10 (upd d 9) (updS s 58 v) tb w.heap.size L) ⟨v, t1, t2, fun _ => rfl, t4⟩, hF.2.skipS 9 58 _ rfl⟩
          simp only [putL, putT, List.setIfInBounds_toArray, List.set_cons_zero, List.set_cons_succ]
          rw [← e]; rfl
      · intro d s w9 hd hA hC hF K hK
        have hB9 := hF.1.bel
        simp only [putL, putT, List.setIfInBounds_toArray, List.set_cons_zero, List.set_cons_succ]
        clear hB9
        as_aux_lemma =>
          obtain ⟨v, t1, t2, t3, t4⟩ := hF.1.of 0 rfl
          have e := t2 hA.1
          rw [e]
          go_simp
          refine hK.out (updS s 59 (.bool tb)) _ _ ?_ ⟨hF.1, hF.2.put 10 59 (.bool tb) rfl (by simp)⟩
          simp only [putL, putT, List.setIfInBounds_toArray, List.set_cons_zero, List.set_cons_succ]
          rw [← e]; rfl
      · intro d s w9 hd hA hC hF K hK
        have hB9 := hF.1.bel
        simp only [putL, putT, List.setIfInBounds_toArray, List.set_cons_zero, List.set_cons_succ]
        clear hB9
        as_aux_lemma =>
          obtain ⟨v, t1, t2, t3, t4⟩ := hF.1.of 0 rfl
          have e := t3 hA.1
          rw [e]
          go_simp
          refine hK.out (updS s 10 v) _ _ ?_ ⟨St.setR hF.1 0 (selT 64) (TwS 7 8 9 11 57 49 58 10 (upd d 11) (updS s 10 v) tb w.heap.size L) (keep_TwS 7 8 9 11 57 49 58 10 (upd d 11) (updS s 10 v) tb w.heap.size L) ⟨v, t1, t2, t3, fun _ => rfl⟩, hF.2.skipS 11 10 _ rfl⟩
          simp only [putL, putT, List.setIfInBounds_toArray, List.set_cons_zero, List.set_cons_succ]
          rw [← e]; rfl
      · intro d s w9 hd hA hC hF K hK
        have hB9 := hF.1.bel
        simp only [putL, putT, List.setIfInBounds_toArray, List.set_cons_zero, List.set_cons_succ]
        clear hB9
        as_aux_lemma =>
          have eq10 : s 59 = .bool tb := hF.2 (10, 59, .bool tb) (by simp) (hA.1)
          rw [eq10]
          go_simp
          refine hK.out (updS s 11 (.bool tb)) _ _ ?_ ⟨hF.1, hF.2.put 12 11 (.bool tb) rfl (by simp)⟩
          simp only [putL, putT, List.setIfInBounds_toArray, List.set_cons_zero, List.set_cons_succ]; rw [show updS s 11 (.bool tb) 59 = .bool tb from eq10]; rfl
    · intro d s w5 hA hF
      have hS := hF.1
      have eq12 : s 11 = .bool tb := hF.2 (12, 11, .bool tb) (by simp) (hA.2.2.2.2.2.2.2.2.2.2.2.2.1)
      obtain ⟨v, t1, t2, t3, t4⟩ := hS.of 0 rfl
      have eB : s 10 = v := t4 (hA.2.2.2.2.2.2.2.2.2.2.2.1)
      have oC := (t1 (hA.2.2.2.2.2.2.2.1)).2
      have hS := St.setR hS 0 (selT 64) (fun W => OwnS W w.heap.size v L) (keep_owns _ _ _) oC
      clear t1 t2 t3 t4
      have HS5 : Hid (St w.heap.size w [⟨w.heap.size, 31, #[.int .i64 n, .slice a1 xs.length c1]⟩, ⟨w.heap.size + 1, 33, #[.int .i64 m, .int .i64 cl, .int .i64 sv, .int .i64 nc, .slice (some ⟨g2, 0, none⟩) ys.length cap]⟩, ⟨w.heap.size + 1 + 1, 31, #[.int .i64 0, .slice none 0 0]⟩, ⟨w.heap.size + 1 + 1 + 1, 33, #[.int .i64 0, .int .i64 0, .int .i64 0, .int .i64 0, .slice none 0 0]⟩, ⟨w3.heap.size, 64, #[.int .i64 t.k, .int .i64 t.t, .int .i64 t.a, .int .i64 t.b, .int .i64 t.c, .int .i64 t.d, .int .i64 t.e]⟩] [⟨(selT 64), fun W => OwnS W w.heap.size v L⟩] w5) := hS
      clear hS hF hA HS4
      simp only [putL, putT, List.setIfInBounds_toArray, List.set_cons_zero, List.set_cons_succ]
      rw [eq12]
      clear eq12
      rw [eB]
      clear eB
      obtain ⟨av, cv, rfl, _⟩ := oC.row
      clear oC
      have lt0 : w.heap.size < w5.heap.size := (HS5.out.lt 0 rfl).2
      have lt1 : w.heap.size + 1 < w5.heap.size := (HS5.out.lt 1 rfl).2
      have lt2 : w.heap.size + 1 + 1 < w5.heap.size := (HS5.out.lt 2 rfl).2
      have lt3 : w.heap.size + 1 + 1 + 1 < w5.heap.size := (HS5.out.lt 3 rfl).2
      have lt4 : w3.heap.size < w5.heap.size := (HS5.out.lt 4 rfl).2
      have p0 := HS5.out.cell 0 rfl 0 (.int .i64 n) rfl
      have p1 := HS5.out.cell 0 rfl 1 (.slice a1 xs.length c1) rfl
      cases tb
      · skip
        have EA : Hid (tgsK n xs m cl sv nc ys now = keepK n L) := Hid.mk' (by rw [EG2.out]; simp)
        have z0 := HS5.out.cell 2 rfl 0 (.int .i64 0) rfl
        have zf0 := HS5.out.fro 2 rfl 0
        have z1 := HS5.out.cell 2 rfl 1 (.slice none 0 0) rfl
        have zf1 := HS5.out.fro 2 rfl 1
        have y0 := HS5.out.cell 3 rfl 0 (.int .i64 0) rfl
        have yf0 := HS5.out.fro 3 rfl 0
        have y1 := HS5.out.cell 3 rfl 1 (.int .i64 0) rfl
        have yf1 := HS5.out.fro 3 rfl 1
        have y2 := HS5.out.cell 3 rfl 2 (.int .i64 0) rfl
        have yf2 := HS5.out.fro 3 rfl 2
        have y3 := HS5.out.cell 3 rfl 3 (.int .i64 0) rfl
        have yf3 := HS5.out.fro 3 rfl 3
        have y4 := HS5.out.cell 3 rfl 4 (.slice none 0 0) rfl
        have yf4 := HS5.out.fro 3 rfl 4
        go_wp2_with fail
        clear lt0 lt1 lt2 lt3 lt4 p0 p1 z0 zf0 z1 zf1 y0 yf0 y1 yf1 y2 yf2 y3 yf3 y4 yf4
        obtain ⟨V, hX9, HS6⟩ : ∃ X, X = ((((((((w5.setCell ⟨w.heap.size + 1 + 1, 0, none⟩ (.int .i64 n)).setCell ⟨w.heap.size + 1 + 1, 1, none⟩ (.slice av L.length cv)).setCell ⟨w.heap.size + 1 + 1 + 1, 0, none⟩ (.int .i64 0)).setCell ⟨w.heap.size + 1 + 1 + 1, 1, none⟩ (.int .i64 0)).setCell ⟨w.heap.size + 1 + 1 + 1, 2, none⟩ (.int .i64 0)).setCell ⟨w.heap.size + 1 + 1 + 1, 3, none⟩ (.int .i64 0)).setCell ⟨w.heap.size + 1 + 1 + 1, 4, none⟩ (.slice none 0 0)).alloc (.cells #[.int .i64 n, .slice av L.length cv] 31)) ∧ Hid (St w.heap.size w [⟨w.heap.size, 31, #[.int .i64 n, .slice a1 xs.length c1]⟩, ⟨w.heap.size + 1, 33, #[.int .i64 m, .int .i64 cl, .int .i64 sv, .int .i64 nc, .slice (some ⟨g2, 0, none⟩) ys.length cap]⟩, ⟨w.heap.size + 1 + 1, 31, #[.int .i64 n, .slice av L.length cv]⟩, ⟨w.heap.size + 1 + 1 + 1, 33, #[.int .i64 0, .int .i64 0, .int .i64 0, .int .i64 0, .slice none 0 0]⟩, ⟨w3.heap.size, 64, #[.int .i64 t.k, .int .i64 t.t, .int .i64 t.a, .int .i64 t.b, .int .i64 t.c, .int .i64 t.d, .int .i64 t.e]⟩, ⟨w5.heap.size, 31, #[.int .i64 n, .slice av L.length cv]⟩] [⟨(selT 64), fun W => OwnS W w.heap.size (.slice av L.length cv) L⟩] X) := ⟨_, rfl, Hid.mk' (by
          have h := (St.alloc #[.int .i64 n, .slice av L.length cv] 31 (St.put5 3 (St.put2 2 HS5.out rfl rfl (.int .i64 n) (.slice av L.length cv)) rfl rfl (.int .i64 0) (.int .i64 0) (.int .i64 0) (.int .i64 0) (.slice none 0 0)))
          try simp only [World.size_alloc] at h
          try simp only [World.size_setCell] at h
          exact h)⟩
        rw [← hX9]
        clear hX9
        clear HS5
        have y0 := HS6.out.cell 2 rfl 0 (.int .i64 n) rfl
        have y1 := HS6.out.cell 2 rfl 1 (.slice av L.length cv) rfl
        have z0 := HS6.out.cell 3 rfl 0 (.int .i64 0) rfl
        have z1 := HS6.out.cell 3 rfl 1 (.int .i64 0) rfl
        have z2 := HS6.out.cell 3 rfl 2 (.int .i64 0) rfl
        have z3 := HS6.out.cell 3 rfl 3 (.int .i64 0) rfl
        have z4 := HS6.out.cell 3 rfl 4 (.slice none 0 0) rfl
        refine bodyPost_ret (v := .tuple #[.agg #[.int .i64 n, .slice av L.length cv], .agg #[.int .i64 0, .int .i64 0, .int .i64 0, .int .i64 0, .slice none 0 0], .bool false]) (by simp [results, Tryd.results10, go_sem, *]) rfl ?_
        rw [EA.out]
        exact ⟨⟨av, cv, none, 0, w.heap.size, V.heap.size, rfl, HS6.out.of 0 rfl, OwnS.nil _ _, Nat.le_refl _, (HS6.out.bel).size, fun k hk => (OwnS.low (HS6.out.of 0 rfl) k hk).2⟩, HS6.out.bel⟩
      have EA : Hid (tgsK n xs m cl sv nc ys now = ⟨n + 1, L, 4, t.a, 0, 0, [tick t.a sv n now t.e, part t.c sv n nc t.e], true⟩) := Hid.mk' (by rw [EG2.out]; simp)
      have hn10 : 10 ≤ n := by have q9 := inB_is.1 (Bool.and_eq_true_iff.1 u1).1; omega
      have hw1 : wrap64 (n + 1) = n + 1 := by unfold wrap64; omega
      have m0 := HS5.out.cell 1 rfl 0 (.int .i64 m) rfl
      have m1 := HS5.out.cell 1 rfl 1 (.int .i64 cl) rfl
      have m2 := HS5.out.cell 1 rfl 2 (.int .i64 sv) rfl
      have m3 := HS5.out.cell 1 rfl 3 (.int .i64 nc) rfl
      have m4 := HS5.out.cell 1 rfl 4 (.slice (some ⟨g2, 0, none⟩) ys.length cap) rfl
      have r0 := HS5.out.cell 4 rfl 0 (.int .i64 t.k) rfl
      have r1 := HS5.out.cell 4 rfl 1 (.int .i64 t.t) rfl
      have r2 := HS5.out.cell 4 rfl 2 (.int .i64 t.a) rfl
      have r3 := HS5.out.cell 4 rfl 3 (.int .i64 t.b) rfl
      have r4 := HS5.out.cell 4 rfl 4 (.int .i64 t.c) rfl
      have r5 := HS5.out.cell 4 rfl 5 (.int .i64 t.d) rfl
      have r6 := HS5.out.cell 4 rfl 6 (.int .i64 t.e) rfl
      go_wp2_with fail
      clear lt0 lt1 lt2 lt3 lt4 p0 p1 m0 m1 m2 m3 m4 r0 r1 r2 r3 r4 r5 r6
      obtain ⟨w6, hX9, HS6⟩ : ∃ X, X = ((w5.alloc (.cells #[.int .i64 (n + 1), .slice av L.length cv] 31)).alloc (.cells #[.int .i64 t.a, .int .i64 sv, .int .i64 n, .int .i64 now, .int .i64 t.e, .int .i64 t.c, .int .i64 nc] 70)) ∧ Hid (St w.heap.size w [⟨w.heap.size, 31, #[.int .i64 n, .slice a1 xs.length c1]⟩, ⟨w.heap.size + 1, 33, #[.int .i64 m, .int .i64 cl, .int .i64 sv, .int .i64 nc, .slice (some ⟨g2, 0, none⟩) ys.length cap]⟩, ⟨w.heap.size + 1 + 1, 31, #[.int .i64 0, .slice none 0 0]⟩, ⟨w.heap.size + 1 + 1 + 1, 33, #[.int .i64 0, .int .i64 0, .int .i64 0, .int .i64 0, .slice none 0 0]⟩, ⟨w3.heap.size, 64, #[.int .i64 t.k, .int .i64 t.t, .int .i64 t.a, .int .i64 t.b, .int .i64 t.c, .int .i64 t.d, .int .i64 t.e]⟩, ⟨w5.heap.size, 31, #[.int .i64 (n + 1), .slice av L.length cv]⟩, ⟨w5.heap.size + 1, 70, #[.int .i64 t.a, .int .i64 sv, .int .i64 n, .int .i64 now, .int .i64 t.e, .int .i64 t.c, .int .i64 nc]⟩] [⟨(selT 64), fun W => OwnS W w.heap.size (.slice av L.length cv) L⟩] X) := ⟨_, rfl, Hid.mk' (by
        have h := (St.alloc #[.int .i64 t.a, .int .i64 sv, .int .i64 n, .int .i64 now, .int .i64 t.e, .int .i64 t.c, .int .i64 nc] 70 (St.alloc #[.int .i64 (n + 1), .slice av L.length cv] 31 HS5.out))
        try simp only [World.size_alloc] at h
        try simp only [World.size_setCell] at h
        exact h)⟩
      rw [← hX9]
      clear hX9
      clear HS5
      have hz6 : w.heap.size ≤ w6.heap.size := (HS6.out.bel).size
      have hlo : ∀ k, (Value.slice av L.length cv).ownBlock = some k → k < w6.heap.size := fun k hk => (OwnS.low (HS6.out.of 0 rfl) k hk).2
      have HZ : Hid (w.heap.size ≤ w6.heap.size ∧ ∀ k, (Value.slice av L.length cv).ownBlock = some k → k < w6.heap.size) := ⟨hz6, hlo⟩
      clear hz6 hlo
      refine wp_region_walk [8, 86, 87, 88] (fun d s W => St w.heap.size w [⟨w.heap.size, 31, #[.int .i64 n, .slice a1 xs.length c1]⟩, ⟨w.heap.size + 1, 33, #[.int .i64 m, .int .i64 cl, .int .i64 sv, .int .i64 nc, .slice (some ⟨g2, 0, none⟩) ys.length cap]⟩, ⟨w.heap.size + 1 + 1, 31, bif d 3 then #[.int .i64 (n + 1), .slice av L.length cv] else #[.int .i64 0, .slice none 0 0]⟩, ⟨w.heap.size + 1 + 1 + 1, 33, bif d 4 then #[.int .i64 4, .int .i64 t.a, .int .i64 0, .int .i64 0, .slice (some ⟨w6.heap.size + 4, 0, none⟩) 2 2] else #[.int .i64 0, .int .i64 0, .int .i64 0, .int .i64 0, .slice none 0 0]⟩, ⟨w3.heap.size, 64, #[.int .i64 t.k, .int .i64 t.t, .int .i64 t.a, .int .i64 t.b, .int .i64 t.c, .int .i64 t.d, .int .i64 t.e]⟩, ⟨w5.heap.size, 31, #[.int .i64 (n + 1), .slice av L.length cv]⟩, ⟨w5.heap.size + 1, 70, #[.int .i64 t.a, .int .i64 sv, .int .i64 n, .int .i64 now, .int .i64 t.e, .int .i64 t.c, .int .i64 nc]⟩] [⟨(selT 64), fun W => OwnS W w.heap.size (.slice av L.length cv) L⟩, ⟨(selT 64), fun W => d 2 = true → OwnS W w6.heap.size (.slice (some ⟨w6.heap.size + 4, 0, none⟩) 2 2) [tick t.a sv n now t.e, part t.c sv n nc t.e]⟩] W ∧ Looks [(0, 86, Value.agg #[.int .i64 (n + 1), .slice av L.length cv]), (1, 87, Value.agg #[.int .i64 t.a, .int .i64 sv, .int .i64 n, .int .i64 now, .int .i64 t.e, .int .i64 t.c, .int .i64 nc]), (2, 88, Value.agg #[.int .i64 4, .int .i64 t.a, .int .i64 0, .int .i64 0, .slice (some ⟨w6.heap.size + 4, 0, none⟩) 2 2]), (5, 8, .bool true)] d s ∧ (d 2 = false → W.heap.size = w6.heap.size)) [0, 1, 2, 3, 4, 5] (by kernel_rfl) (by kernel_rfl) (by kernel_rfl) ?_ ?_ ?_
      · intro s
        exact ⟨St.add (selT 64) (fun W => (fun _ : Nat => false) 2 = true → OwnS W w6.heap.size (.slice (some ⟨w6.heap.size + 4, 0, none⟩) 2 2) [tick t.a sv n now t.e, part t.c sv n nc t.e]) (keep_imp _ (keep_owns _ _ _)) (fun e => by cases e) HS6.out.drew, Looks.none _ _, fun _ => rfl⟩
      · refine StepsR.cons (k := 0) [] (by kernel_rfl) ?_ (StepsR.cons (k := 1) [] (by kernel_rfl) ?_ (StepsR.cons (k := 2) [1] (by kernel_rfl) ?_ (StepsR.cons (k := 3) [0] (by kernel_rfl) ?_ (StepsR.cons (k := 4) [2] (by kernel_rfl) ?_ (StepsR.cons (k := 5) [] (by kernel_rfl) ?_ (StepsR.nil))))))
        · intro d s w9 hd hA hC hF K hK
          have hB9 := hF.1.bel
          simp only [putL, putT, List.setIfInBounds_toArray, List.set_cons_zero, List.set_cons_succ]
          clear hB9
          as_aux_lemma =>
            have p0 := hF.1.cell 5 rfl 0 (.int .i64 (n + 1)) rfl
            have p1 := hF.1.cell 5 rfl 1 (.slice av L.length cv) rfl
            go_simp
            clear p0 p1
            refine hK.out (updS s 86 (Value.agg #[.int .i64 (n + 1), .slice av L.length cv])) _ _ ?_ ⟨hF.1, hF.2.1.put 0 86 (Value.agg #[.int .i64 (n + 1), .slice av L.length cv]) rfl (by simp), hF.2.2⟩
            simp only [putL, putT, List.setIfInBounds_toArray, List.set_cons_zero, List.set_cons_succ]; rfl
        · intro d s w9 hd hA hC hF K hK
          have hB9 := hF.1.bel
          simp only [putL, putT, List.setIfInBounds_toArray, List.set_cons_zero, List.set_cons_succ]
          clear hB9
          as_aux_lemma =>
            have p0 := hF.1.cell 6 rfl 0 (.int .i64 t.a) rfl
            have p1 := hF.1.cell 6 rfl 1 (.int .i64 sv) rfl
            have p2 := hF.1.cell 6 rfl 2 (.int .i64 n) rfl
            have p3 := hF.1.cell 6 rfl 3 (.int .i64 now) rfl
            have p4 := hF.1.cell 6 rfl 4 (.int .i64 t.e) rfl
            have p5 := hF.1.cell 6 rfl 5 (.int .i64 t.c) rfl
            have p6 := hF.1.cell 6 rfl 6 (.int .i64 nc) rfl
            go_simp
            clear p0 p1 p2 p3 p4 p5 p6
            refine hK.out (updS s 87 (Value.agg #[.int .i64 t.a, .int .i64 sv, .int .i64 n, .int .i64 now, .int .i64 t.e, .int .i64 t.c, .int .i64 nc])) _ _ ?_ ⟨hF.1, hF.2.1.put 1 87 (Value.agg #[.int .i64 t.a, .int .i64 sv, .int .i64 n, .int .i64 now, .int .i64 t.e, .int .i64 t.c, .int .i64 nc]) rfl (by simp), hF.2.2⟩
            simp only [putL, putT, List.setIfInBounds_toArray, List.set_cons_zero, List.set_cons_succ]; rfl
        · intro d s w9 hd hA hC hF K hK
          have hB9 := hF.1.bel
          simp only [putL, putT, List.setIfInBounds_toArray, List.set_cons_zero, List.set_cons_succ]
          clear hB9
          as_aux_lemma =>
            have eq1 : s 87 = Value.agg #[.int .i64 t.a, .int .i64 sv, .int .i64 n, .int .i64 now, .int .i64 t.e, .int .i64 t.c, .int .i64 nc] := hF.2.1 (1, 87, Value.agg #[.int .i64 t.a, .int .i64 sv, .int .i64 n, .int .i64 now, .int .i64 t.e, .int .i64 t.c, .int .i64 nc]) (by simp) (hA.1)
            rw [eq1]
            have hz9 := hF.2.2 hd
            go_simp
            refine (word_at t.a sv n now t.e t.c nc 4 _).mono ?_
            rintro r w8 ⟨rfl, o8, b9⟩
            rw [hz9] at o8 ⊢
            go_simp
            refine hK.out (updS s 88 (Value.agg #[.int .i64 4, .int .i64 t.a, .int .i64 0, .int .i64 0, .slice (some ⟨w6.heap.size + 4, 0, none⟩) 2 2])) _ _ ?_ ⟨St.setR (St.grow b9 hF.1) 1 (selT 64) (fun W => (upd d 2) 2 = true → OwnS W w6.heap.size (.slice (some ⟨w6.heap.size + 4, 0, none⟩) 2 2) [tick t.a sv n now t.e, part t.c sv n nc t.e]) (keep_imp _ (keep_owns _ _ _)) (fun _ => o8), hF.2.1.put 2 88 (Value.agg #[.int .i64 4, .int .i64 t.a, .int .i64 0, .int .i64 0, .slice (some ⟨w6.heap.size + 4, 0, none⟩) 2 2]) rfl (by simp), (fun e => by cases e)⟩
            simp only [putL, putT, List.setIfInBounds_toArray, List.set_cons_zero, List.set_cons_succ]
            rw [← eq1]; rfl
        · intro d s w9 hd hA hC hF K hK
          have hB9 := hF.1.bel
          simp only [putL, putT, List.setIfInBounds_toArray, List.set_cons_zero, List.set_cons_succ]
          clear hB9
          as_aux_lemma =>
            have eq0 : s 86 = Value.agg #[.int .i64 (n + 1), .slice av L.length cv] := hF.2.1 (0, 86, Value.agg #[.int .i64 (n + 1), .slice av L.length cv]) (by simp) (hA.1)
            rw [eq0]
            have hS := hF.1
            rw [hd] at hS
            simp only [cond_false] at hS
            have p0 := hS.cell 2 rfl 0 (.int .i64 0) rfl
            have pf0 := hS.fro 2 rfl 0
            have p1 := hS.cell 2 rfl 1 (.slice none 0 0) rfl
            have pf1 := hS.fro 2 rfl 1
            go_simp
            clear p0 pf0 p1 pf1
            refine hK.out s _ _ ?_ ⟨St.put2 2 hS rfl rfl (.int .i64 (n + 1)) (.slice av L.length cv), hF.2.1.skip 3 rfl, (fun e => by simp only [World.size_setCell]; exact hF.2.2 e)⟩
            simp only [putL, putT, List.setIfInBounds_toArray, List.set_cons_zero, List.set_cons_succ]; rw [eq0] <;> rfl
        · intro d s w9 hd hA hC hF K hK
          have hB9 := hF.1.bel
          simp only [putL, putT, List.setIfInBounds_toArray, List.set_cons_zero, List.set_cons_succ]
          clear hB9
          as_aux_lemma =>
            have eq2 : s 88 = Value.agg #[.int .i64 4, .int .i64 t.a, .int .i64 0, .int .i64 0, .slice (some ⟨w6.heap.size + 4, 0, none⟩) 2 2] := hF.2.1 (2, 88, Value.agg #[.int .i64 4, .int .i64 t.a, .int .i64 0, .int .i64 0, .slice (some ⟨w6.heap.size + 4, 0, none⟩) 2 2]) (by simp) (hA.1)
            rw [eq2]
            have hS := hF.1
            rw [hd] at hS
            simp only [cond_false] at hS
            have p0 := hS.cell 3 rfl 0 (.int .i64 0) rfl
            have pf0 := hS.fro 3 rfl 0
            have p1 := hS.cell 3 rfl 1 (.int .i64 0) rfl
            have pf1 := hS.fro 3 rfl 1
            have p2 := hS.cell 3 rfl 2 (.int .i64 0) rfl
            have pf2 := hS.fro 3 rfl 2
            have p3 := hS.cell 3 rfl 3 (.int .i64 0) rfl
            have pf3 := hS.fro 3 rfl 3
            have p4 := hS.cell 3 rfl 4 (.slice none 0 0) rfl
            have pf4 := hS.fro 3 rfl 4
            go_simp
            clear p0 pf0 p1 pf1 p2 pf2 p3 pf3 p4 pf4
            refine hK.out s _ _ ?_ ⟨St.put5 3 hS rfl rfl (.int .i64 4) (.int .i64 t.a) (.int .i64 0) (.int .i64 0) (.slice (some ⟨w6.heap.size + 4, 0, none⟩) 2 2), hF.2.1.skip 4 rfl, (fun e => by simp only [World.size_setCell]; exact hF.2.2 e)⟩
            simp only [putL, putT, List.setIfInBounds_toArray, List.set_cons_zero, List.set_cons_succ]; rw [eq2] <;> rfl
        · intro d s w9 hd hA hC hF K hK
          have hB9 := hF.1.bel
          simp only [putL, putT, List.setIfInBounds_toArray, List.set_cons_zero, List.set_cons_succ]
          clear hB9
          as_aux_lemma =>
            go_simp
            refine hK.out (updS s 8 (.bool true)) _ _ ?_ ⟨hF.1, hF.2.1.put 5 8 (.bool true) rfl (by simp), hF.2.2⟩
            simp only [putL, putT, List.setIfInBounds_toArray, List.set_cons_zero, List.set_cons_succ]; rfl
      · intro d s w7 hA hF
        have hS := hF.1
        rw [hA.2.2.2.1, hA.2.2.2.2.1] at hS
        simp only [cond_true] at hS
        have eq5 : s 8 = .bool true := hF.2.1 (5, 8, .bool true) (by simp) (hA.2.2.2.2.2.1)
        have oW := hS.of 1 rfl (hA.2.2.1)
        have hS := St.setR hS 1 (selT 64) (fun W => OwnS W w6.heap.size (.slice (some ⟨w6.heap.size + 4, 0, none⟩) 2 2) [tick t.a sv n now t.e, part t.c sv n nc t.e]) (keep_owns _ _ _) oW
        clear oW
        have HS7 : Hid (St w.heap.size w [⟨w.heap.size, 31, #[.int .i64 n, .slice a1 xs.length c1]⟩, ⟨w.heap.size + 1, 33, #[.int .i64 m, .int .i64 cl, .int .i64 sv, .int .i64 nc, .slice (some ⟨g2, 0, none⟩) ys.length cap]⟩, ⟨w.heap.size + 1 + 1, 31, #[.int .i64 (n + 1), .slice av L.length cv]⟩, ⟨w.heap.size + 1 + 1 + 1, 33, #[.int .i64 4, .int .i64 t.a, .int .i64 0, .int .i64 0, .slice (some ⟨w6.heap.size + 4, 0, none⟩) 2 2]⟩, ⟨w3.heap.size, 64, #[.int .i64 t.k, .int .i64 t.t, .int .i64 t.a, .int .i64 t.b, .int .i64 t.c, .int .i64 t.d, .int .i64 t.e]⟩, ⟨w5.heap.size, 31, #[.int .i64 (n + 1), .slice av L.length cv]⟩, ⟨w5.heap.size + 1, 70, #[.int .i64 t.a, .int .i64 sv, .int .i64 n, .int .i64 now, .int .i64 t.e, .int .i64 t.c, .int .i64 nc]⟩] [⟨(selT 64), fun W => OwnS W w.heap.size (.slice av L.length cv) L⟩, ⟨(selT 64), fun W => OwnS W w6.heap.size (.slice (some ⟨w6.heap.size + 4, 0, none⟩) 2 2) [tick t.a sv n now t.e, part t.c sv n nc t.e]⟩] w7) := hS
        clear hS hF hA HS6
        simp only [putL, putT, List.setIfInBounds_toArray, List.set_cons_zero, List.set_cons_succ]
        rw [eq5]
        clear eq5
        go_wp2_with fail
        have y0 := HS7.out.cell 2 rfl 0 (.int .i64 (n + 1)) rfl
        have y1 := HS7.out.cell 2 rfl 1 (.slice av L.length cv) rfl
        have z0 := HS7.out.cell 3 rfl 0 (.int .i64 4) rfl
        have z1 := HS7.out.cell 3 rfl 1 (.int .i64 t.a) rfl
        have z2 := HS7.out.cell 3 rfl 2 (.int .i64 0) rfl
        have z3 := HS7.out.cell 3 rfl 3 (.int .i64 0) rfl
        have z4 := HS7.out.cell 3 rfl 4 (.slice (some ⟨w6.heap.size + 4, 0, none⟩) 2 2) rfl
        refine bodyPost_ret (v := .tuple #[.agg #[.int .i64 (n + 1), .slice av L.length cv], .agg #[.int .i64 4, .int .i64 t.a, .int .i64 0, .int .i64 0, .slice (some ⟨w6.heap.size + 4, 0, none⟩) 2 2], .bool true]) (by simp [results, Tryd.results10, go_sem, *]) rfl ?_
        rw [EA.out]
        exact ⟨⟨av, cv, _, 2, w.heap.size, w6.heap.size, rfl, HS7.out.of 0 rfl, HS7.out.of 1 rfl, Nat.le_refl _, HZ.out.1, HZ.out.2⟩, HS7.out.bel⟩

end Go.Proofs.YtghajmfjekfdpaaDoor
