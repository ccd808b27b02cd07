/-
  A service that hears that somebody calls: what the specification answers, all being ok.
-/
import Derived.Test.YtghajmfjekfdpaaDoorSvHearJ
import Derived.Test.YtghajmfjekfdpaaDoorKdcSpecL
namespace Go.Proofs.YtghajmfjekfdpaaDoor
open Go.RowKit
attribute [local go_sem ↓] Go.wp_at_zero Go.wp_at_succ

theorem numsAt_newH (w : World) (T : TypeId) (l : List Int) : NumsAt (w.alloc (.cells (l.map (Value.int .i64)).toArray T)) w.heap.size 0 l := by
  intro q c hq
  have e := heap_alloc_new w (.cells (l.map (Value.int .i64)).toArray T)
  simp only [World.cell?, e, Nat.zero_add]
  simp [hq]
theorem stopHereH {p : Prop} (h : True → p) : p := h trivial
theorem nrow_newC (W : World) (x : Ca) : NRow celC (W.alloc (.cells ((celC.cs x).map (Value.int .i64)).toArray 90)) (some ⟨W.heap.size, 0, none⟩) [x] := by
  refine Or.inr ⟨_, 0, rfl, by simp, fun j y hj => ?_⟩
  have e := numsAt_newH W 90 (celC.cs x)
  cases j with
  | zero => simp at hj; subst hj; simpa using e
  | succ j => simp at hj
theorem bldMsgB (w : World) (s : Int) (g : Nat) : (Instr.build 33 #[(0, .int .i64 6), (1, .int .i64 s), (4, .slice (some ⟨g, 0, none⟩) 1 1)]).run Tryd.prog w = .ok (.agg #[.int .i64 6, .int .i64 s, .int .i64 0, .int .i64 0, .slice (some ⟨g, 0, none⟩) 1 1]) w := by kernel_rfl
theorem own_one (w : World) {B : Nat} (hB : B ≤ w.heap.size) (s : Sl) : OwnS (w.alloc (.cells #[.int .i64 s.k, .int .i64 s.t, .int .i64 s.a, .int .i64 s.b, .int .i64 s.c, .int .i64 s.d, .int .i64 s.e] 64)) B (.slice (some ⟨w.heap.size, 0, none⟩) 1 1) [s] :=
  ⟨by simp [cellsL, Sl.cs], Or.inr ⟨w.heap.size, 1, _, rfl, hB, heap_alloc_new _ _, Nat.le_refl _, by decide, by simp, by simp [cellsL, Sl.cs]⟩⟩
theorem wp_one {o : Oper} {a : Act} {w : World} {K : Act → World → Prop} {Q : Exit → Act → World → Prop} (x : Operand) {a0 a1 a2 a3 a4 a5 a6 : Int} {d : Tmp} (ho : o.op = .buildSlice 29 1 #[(0, x)]) (hd : o.dst = some d) (hx : a.eval x = .agg #[.int .i64 a0, .int .i64 a1, .int .i64 a2, .int .i64 a3, .int .i64 a4, .int .i64 a5, .int .i64 a6])
    (hK : K (a.put (some d) (.slice (some ⟨w.heap.size, 0, none⟩) 1 1)) (w.alloc (.cells #[.int .i64 a0, .int .i64 a1, .int .i64 a2, .int .i64 a3, .int .i64 a4, .int .i64 a5, .int .i64 a6] 64))) : o.wp Tryd.prog a w K Q := by
  unfold Oper.wp execOp
  simp only [ho, hx, List.map_toArray, List.map_cons, List.map_nil]
  go_simp
  exact hK

set_option maxHeartbeats 8000000 in
set_option maxRecDepth 100000 in
theorem l13Hear_any (B : Nat) (i s9 : Int) (a1 a2 : Option Addr) (c1 c2 : Nat) (xs : List Sl) (ts : List Ca) (m cl sv nc : Int) (g2 : Nat) (cap : Nat) (ys : List Sl) (now : Int) (w : World) (hB : B ≤ w.heap.size) (ho1 : OwnS w B (.slice a1 xs.length c1) xs) (ho2 : OwnN celC 90 w B (.slice a2 ts.length c2) ts) (h : SRow w (some ⟨g2, 0, none⟩) ys) (hgB : ys ≠ [] → g2 < B) (hx : xs.length ≤ 1048576) (ht : ts.length ≤ 1048576) (hy : ys.length ≤ 1048576) (hn : 0 ≤ now ∧ now ≤ 100) (ha : ∀ u ∈ xs, 0 ≤ u.b ∧ u.b ≤ 100)  :
    Calls Tryd.prog 42 #[.agg #[.int .i64 i, .int .i64 s9, .slice a1 xs.length c1, .slice a2 ts.length c2], .agg #[.int .i64 m, .int .i64 cl, .int .i64 sv, .int .i64 nc, .slice (some ⟨g2, 0, none⟩) ys.length cap], .int .i64 now] w fun r w' => HAns B w' (askH i s9 xs ts m cl sv nc ys now) r ∧ Below B w w' := by
  by_cases u3 : m = 5
  rotate_left
  · exact l13Hear0 B i s9 a1 a2 c1 c2 xs ts m cl sv nc g2 cap ys now w hB ho1 ho2 h hgB hx ht hy hn ha u3
  subst u3
  cases u4 : msgB 5 cl sv nc ys
  · exact l13Hear1 B i s9 a1 a2 c1 c2 xs ts cl sv nc g2 cap ys now w hB ho1 ho2 h hgB hx ht hy hn ha u4
  by_cases u5 : sv = i
  rotate_left
  · exact l13Hear2 B i s9 a1 a2 c1 c2 xs ts cl sv nc g2 cap ys now w hB ho1 ho2 h hgB hx ht hy hn ha u4 u5
  subst sv
  obtain ⟨t, u, hys, hto, huo⟩ := msg5 u4
  have hyl : ys.length = 2 := by rw [hys]; rfl
  have EG : Hid (askH i s9 xs ts 5 cl i nc ys now = giveH i s9 xs ts t u now) := Hid.mk' (by unfold askH; rw [if_pos ⟨rfl, u4, rfl⟩, hys])
  have HY : Hid (ys = [t, u] ∧ t.ok = true ∧ u.ok = true) := ⟨hys, hto, huo⟩
  clear hys hto huo
  have hy0 : 0 < ys.length := by omega
  have hy1 : 1 < ys.length := by omega
  have hy2 : (1 : Int) < (ys.length : Int) := by omega
  clear hyl
  cases hsb : shB t u i now
  · exact l13Hear3 B i s9 a1 a2 c1 c2 xs ts cl nc g2 cap ys now w hB ho1 ho2 h hgB hx ht hy hn ha u4 t u HY hsb
  have HH : Hid (SRow w (some ⟨g2, 0, none⟩) ys ∧ (ys ≠ [] → g2 < B)) := ⟨h, hgB⟩
  clear h hgB
  have HL : Hid (0 ≤ now ∧ now ≤ 100 ∧ ∀ u ∈ xs, 0 ≤ u.b ∧ u.b ≤ 100) := ⟨hn.1, hn.2, ha⟩
  clear hn ha
  go_enter Tryd.func42, Tryd.ntmps42
  go_wp2_with fail
  obtain ⟨w1, hX9, HS1⟩ : ∃ X, X = ((((w.alloc (.cells #[.int .i64 i, .int .i64 s9, .slice a1 xs.length c1, .slice a2 ts.length c2] 49)).alloc (.cells #[.int .i64 5, .int .i64 cl, .int .i64 i, .int .i64 nc, .slice (some ⟨g2, 0, none⟩) ys.length cap] 33)).alloc (.cells #[.int .i64 0, .int .i64 0, .slice none 0 0, .slice none 0 0] 49)).alloc (.cells #[.int .i64 0, .int .i64 0, .int .i64 0, .int .i64 0, .slice none 0 0] 33)) ∧ Hid (St B w [⟨w.heap.size, 49, #[.int .i64 i, .int .i64 s9, .slice a1 xs.length c1, .slice a2 ts.length c2]⟩, ⟨w.heap.size + 1, 33, #[.int .i64 5, .int .i64 cl, .int .i64 i, .int .i64 nc, .slice (some ⟨g2, 0, none⟩) ys.length cap]⟩, ⟨w.heap.size + 1 + 1, 49, #[.int .i64 0, .int .i64 0, .slice none 0 0, .slice none 0 0]⟩, ⟨w.heap.size + 1 + 1 + 1, 33, #[.int .i64 0, .int .i64 0, .int .i64 0, .int .i64 0, .slice none 0 0]⟩] [⟨(selT 64), fun W => OwnS W B (.slice a1 xs.length c1) xs⟩, ⟨(selT 90), fun W => OwnN celC 90 W B (.slice a2 ts.length c2) ts⟩] X) := ⟨_, rfl, Hid.mk' (by
    have h := (St.alloc #[.int .i64 0, .int .i64 0, .int .i64 0, .int .i64 0, .slice none 0 0] 33 (St.alloc #[.int .i64 0, .int .i64 0, .slice none 0 0, .slice none 0 0] 49 (St.alloc #[.int .i64 5, .int .i64 cl, .int .i64 i, .int .i64 nc, .slice (some ⟨g2, 0, none⟩) ys.length cap] 33 (St.alloc #[.int .i64 i, .int .i64 s9, .slice a1 xs.length c1, .slice a2 ts.length c2] 49 (St.add (selT 90) (fun W => OwnN celC 90 W B (.slice a2 ts.length c2) ts) (keep_own celC _ _ _ _) ho2 (St.add (selT 64) (fun W => OwnS W B (.slice a1 xs.length c1) xs) (keep_owns _ _ _) ho1 (St.newB hB)))))))
    try simp only [World.size_alloc] at h
    try simp only [World.size_setCell] at h
    exact h)⟩
  rw [← hX9]
  clear hX9
  clear ho1 ho2
  have HSB : Hid (shB t u i now = true) := hsb
  clear hsb
  obtain ⟨le9, hle⟩ : ∃ le9, le9 = decide (u.b ≤ s9) := ⟨_, rfl⟩
  have HLE : Hid (le9 = decide (u.b ≤ s9)) := hle
  clear hle
  refine wp_region_walk [14, 15, 16, 17, 18, 19, 20, 21, 22, 23, 24, 25, 26, 27, 28, 29, 30, 31, 32, 33, 34, 35, 36, 37, 38, 39, 40, 41, 42, 43, 44, 45, 46, 47, 48, 49, 50, 51, 52, 53] (fun d s W => St B w [⟨w.heap.size, 49, #[.int .i64 i, .int .i64 s9, .slice a1 xs.length c1, .slice a2 ts.length c2]⟩, ⟨w.heap.size + 1, 33, #[.int .i64 5, .int .i64 cl, .int .i64 i, .int .i64 nc, .slice (some ⟨g2, 0, none⟩) ys.length cap]⟩, ⟨w.heap.size + 1 + 1, 49, #[.int .i64 0, .int .i64 0, .slice none 0 0, .slice none 0 0]⟩, ⟨w.heap.size + 1 + 1 + 1, 33, #[.int .i64 0, .int .i64 0, .int .i64 0, .int .i64 0, .slice none 0 0]⟩] [⟨(selT 64), fun W => OwnS W B (.slice a1 xs.length c1) xs⟩, ⟨(selT 90), fun W => OwnN celC 90 W B (.slice a2 ts.length c2) ts⟩] W ∧ Looks [(0, 14, Value.pointer (some ⟨w.heap.size + 1, 0, none⟩)), (1, 15, Value.int .i64 5), (2, 16, .bool false), (3, 17, .bool false), (4, 18, Value.agg #[.int .i64 5, .int .i64 cl, .int .i64 i, .int .i64 nc, .slice (some ⟨g2, 0, none⟩) ys.length cap]), (5, 19, .bool true), (6, 20, .bool false), (7, 21, .bool false), (8, 22, .bool false), (9, 23, Value.pointer (some ⟨w.heap.size + 1, 2, none⟩)), (10, 24, Value.int .i64 i), (11, 25, Value.pointer (some ⟨w.heap.size, 0, none⟩)), (12, 26, Value.int .i64 i), (13, 27, .bool false), (14, 28, .bool false), (15, 29, .bool false), (16, 30, Value.pointer (some ⟨w.heap.size + 1, 4, none⟩)), (17, 31, Value.slice (some ⟨g2, 0, none⟩) ys.length cap), (18, 32, Value.pointer (some ⟨g2, 0, none⟩)), (19, 33, Value.agg #[.int .i64 t.k, .int .i64 t.t, .int .i64 t.a, .int .i64 t.b, .int .i64 t.c, .int .i64 t.d, .int .i64 t.e]), (20, 34, Value.pointer (some ⟨w.heap.size + 1, 4, none⟩)), (21, 35, Value.slice (some ⟨g2, 0, none⟩) ys.length cap), (22, 36, Value.pointer (some ⟨g2, 7, none⟩)), (23, 37, Value.agg #[.int .i64 u.k, .int .i64 u.t, .int .i64 u.a, .int .i64 u.b, .int .i64 u.c, .int .i64 u.d, .int .i64 u.e]), (24, 38, Value.pointer (some ⟨w.heap.size, 0, none⟩)), (25, 39, Value.int .i64 i), (26, 40, Value.int .i64 now), (27, 41, .bool true), (28, 42, .bool false), (29, 43, .bool false), (30, 44, .bool false), (31, 45, Value.pointer (some ⟨w.heap.size + 1, 4, none⟩)), (32, 46, Value.slice (some ⟨g2, 0, none⟩) ys.length cap), (33, 47, Value.pointer (some ⟨g2, 7, none⟩)), (34, 48, Value.pointer (some ⟨g2, 10, none⟩)), (35, 49, Value.int .i64 u.b), (36, 50, Value.pointer (some ⟨w.heap.size, 1, none⟩)), (37, 51, Value.int .i64 s9), (38, 52, .bool le9), (39, 53, .bool le9)] d s) [0, 1, 2, 3, 4, 5, 6, 7, 8, 9, 10, 11, 12, 13, 14, 15, 16, 17, 18, 19, 20, 21, 22, 23, 24, 25, 26, 27, 28, 29, 30, 31, 32, 33, 34, 35, 36, 37, 38, 39] (by kernel_rfl) (by kernel_rfl) (by kernel_rfl) ?_ ?_ ?_
  · intro s
    exact ⟨HS1.out.drew, Looks.none _ _⟩
  · refine StepsR.cons (k := 0) [] (by kernel_rfl) ?_ (StepsR.cons (k := 1) [0] (by kernel_rfl) ?_ (StepsR.cons (k := 2) [1] (by kernel_rfl) ?_ (StepsR.cons (k := 3) [2] (by kernel_rfl) ?_ (StepsR.cons (k := 4) [3] (by kernel_rfl) ?_ (StepsR.cons (k := 5) [4, 3] (by kernel_rfl) ?_ (StepsR.cons (k := 6) [3, 5] (by kernel_rfl) ?_ (StepsR.cons (k := 7) [3, 6] (by kernel_rfl) ?_ (StepsR.cons (k := 8) [7] (by kernel_rfl) ?_ (StepsR.cons (k := 9) [8] (by kernel_rfl) ?_ (StepsR.cons (k := 10) [8, 9] (by kernel_rfl) ?_ (StepsR.cons (k := 11) [8] (by kernel_rfl) ?_ (StepsR.cons (k := 12) [8, 11] (by kernel_rfl) ?_ (StepsR.cons (k := 13) [8, 10, 12] (by kernel_rfl) ?_ (StepsR.cons (k := 14) [8, 13] (by kernel_rfl) ?_ (StepsR.cons (k := 15) [14] (by kernel_rfl) ?_ (StepsR.cons (k := 16) [15] (by kernel_rfl) ?_ (StepsR.cons (k := 17) [15, 16] (by kernel_rfl) ?_ (StepsR.cons (k := 18) [15, 17] (by kernel_rfl) ?_ (StepsR.cons (k := 19) [15, 18] (by kernel_rfl) ?_ (StepsR.cons (k := 20) [15] (by kernel_rfl) ?_ (StepsR.cons (k := 21) [15, 20] (by kernel_rfl) ?_ (StepsR.cons (k := 22) [15, 21] (by kernel_rfl) ?_ (StepsR.cons (k := 23) [15, 22] (by kernel_rfl) ?_ (StepsR.cons (k := 24) [15] (by kernel_rfl) ?_ (StepsR.cons (k := 25) [15, 24] (by kernel_rfl) ?_ (StepsR.cons (k := 26) [15] (by kernel_rfl) ?_ (StepsR.cons (k := 27) [19, 23, 25, 26, 15] (by kernel_rfl) ?_ (StepsR.cons (k := 28) [15, 27] (by kernel_rfl) ?_ (StepsR.cons (k := 29) [15, 28] (by kernel_rfl) ?_ (StepsR.cons (k := 30) [29] (by kernel_rfl) ?_ (StepsR.cons (k := 31) [30] (by kernel_rfl) ?_ (StepsR.cons (k := 32) [30, 31] (by kernel_rfl) ?_ (StepsR.cons (k := 33) [30, 32] (by kernel_rfl) ?_ (StepsR.cons (k := 34) [30, 33] (by kernel_rfl) ?_ (StepsR.cons (k := 35) [30, 34] (by kernel_rfl) ?_ (StepsR.cons (k := 36) [30] (by kernel_rfl) ?_ (StepsR.cons (k := 37) [30, 36] (by kernel_rfl) ?_ (StepsR.cons (k := 38) [30, 35, 37] (by kernel_rfl) ?_ (StepsR.cons (k := 39) [30, 38] (by kernel_rfl) ?_ (StepsR.nil))))))))))))))))))))))))))))))))))))))))
    · intro d s w9 hd hA hC hF K hK
      have hB9 := hF.1.bel
      simp only [putL, putT, List.setIfInBounds_toArray, List.set_cons_zero, List.set_cons_succ]
      clear hB9
      as_aux_lemma =>
        go_simp
        refine hK.out (updS s 14 (Value.pointer (some ⟨w.heap.size + 1, 0, none⟩))) _ _ ?_ ⟨hF.1, hF.2.put 0 14 (Value.pointer (some ⟨w.heap.size + 1, 0, none⟩)) rfl (by simp)⟩
        simp only [putL, putT, List.setIfInBounds_toArray, List.set_cons_zero, List.set_cons_succ]; rfl
    · intro d s w9 hd hA hC hF K hK
      have hB9 := hF.1.bel
      simp only [putL, putT, List.setIfInBounds_toArray, List.set_cons_zero, List.set_cons_succ]
      clear hB9
      as_aux_lemma =>
        have eq0 : s 14 = Value.pointer (some ⟨w.heap.size + 1, 0, none⟩) := hF.2 (0, 14, Value.pointer (some ⟨w.heap.size + 1, 0, none⟩)) (by simp) (hA.1)
        rw [eq0]
        have p0 := hF.1.cell 1 rfl 0 (.int .i64 5) rfl
        go_simp
        clear p0
        refine hK.out (updS s 15 (Value.int .i64 5)) _ _ ?_ ⟨hF.1, hF.2.put 1 15 (Value.int .i64 5) rfl (by simp)⟩
        simp only [putL, putT, List.setIfInBounds_toArray, List.set_cons_zero, List.set_cons_succ]; rw [show updS s 15 (Value.int .i64 5) 14 = Value.pointer (some ⟨w.heap.size + 1, 0, none⟩) from eq0]; rfl
    · intro d s w9 hd hA hC hF K hK
      have hB9 := hF.1.bel
      simp only [putL, putT, List.setIfInBounds_toArray, List.set_cons_zero, List.set_cons_succ]
      clear hB9
      as_aux_lemma =>
        have eq1 : s 15 = Value.int .i64 5 := hF.2 (1, 15, Value.int .i64 5) (by simp) (hA.1)
        rw [eq1]
        go_simp
        refine hK.out (updS s 16 (.bool false)) _ _ ?_ ⟨hF.1, hF.2.put 2 16 (.bool false) rfl (by simp)⟩
        simp only [putL, putT, List.setIfInBounds_toArray, List.set_cons_zero, List.set_cons_succ]; rw [show updS s 16 (.bool false) 15 = Value.int .i64 5 from eq1]; rfl
    · intro d s w9 hd hA hC hF K hK
      have hB9 := hF.1.bel
      simp only [putL, putT, List.setIfInBounds_toArray, List.set_cons_zero, List.set_cons_succ]
      clear hB9
      as_aux_lemma =>
        have eq2 : s 16 = .bool false := hF.2 (2, 16, .bool false) (by simp) (hA.1)
        rw [eq2]
        go_simp
        refine hK.out (updS s 17 (.bool false)) _ _ ?_ ⟨hF.1, hF.2.put 3 17 (.bool false) rfl (by simp)⟩
        simp only [putL, putT, List.setIfInBounds_toArray, List.set_cons_zero, List.set_cons_succ]; rw [show updS s 17 (.bool false) 16 = .bool false from eq2]; rfl
    · intro d s w9 hd hA hC hF K hK
      have hB9 := hF.1.bel
      simp only [putL, putT, List.setIfInBounds_toArray, List.set_cons_zero, List.set_cons_succ]
      clear hB9
      as_aux_lemma =>
        have eq3 : s 17 = .bool false := hF.2 (3, 17, .bool false) (by simp) (hA.1)
        rw [eq3]
        have p0 := hF.1.cell 1 rfl 0 (.int .i64 5) rfl
        have p1 := hF.1.cell 1 rfl 1 (.int .i64 cl) rfl
        have p2 := hF.1.cell 1 rfl 2 (.int .i64 i) rfl
        have p3 := hF.1.cell 1 rfl 3 (.int .i64 nc) rfl
        have p4 := hF.1.cell 1 rfl 4 (.slice (some ⟨g2, 0, none⟩) ys.length cap) rfl
        go_simp
        clear p0 p1 p2 p3 p4
        refine hK.out (updS s 18 (Value.agg #[.int .i64 5, .int .i64 cl, .int .i64 i, .int .i64 nc, .slice (some ⟨g2, 0, none⟩) ys.length cap])) _ _ ?_ ⟨hF.1, hF.2.put 4 18 (Value.agg #[.int .i64 5, .int .i64 cl, .int .i64 i, .int .i64 nc, .slice (some ⟨g2, 0, none⟩) ys.length cap]) rfl (by simp)⟩
        simp only [putL, putT, List.setIfInBounds_toArray, List.set_cons_zero, List.set_cons_succ]; rw [show updS s 18 (Value.agg #[.int .i64 5, .int .i64 cl, .int .i64 i, .int .i64 nc, .slice (some ⟨g2, 0, none⟩) ys.length cap]) 17 = .bool false from eq3]; rfl
    · intro d s w9 hd hA hC hF K hK
      have hB9 := hF.1.bel
      simp only [putL, putT, List.setIfInBounds_toArray, List.set_cons_zero, List.set_cons_succ]
      clear hB9
      as_aux_lemma =>
        have eq4 : s 18 = Value.agg #[.int .i64 5, .int .i64 cl, .int .i64 i, .int .i64 nc, .slice (some ⟨g2, 0, none⟩) ys.length cap] := hF.2 (4, 18, Value.agg #[.int .i64 5, .int .i64 cl, .int .i64 i, .int .i64 nc, .slice (some ⟨g2, 0, none⟩) ys.length cap]) (by simp) (hA.1)
        have eq3 : s 17 = .bool false := hF.2 (3, 17, .bool false) (by simp) (hA.2.1)
        rw [eq4, eq3]
        go_simp
        refine (specMsg_any 5 cl i nc _ _ ys _ (srow_base HH.out.1 HH.out.2 hF.1.bel) (by omega)).mono ?_
        rintro r w8 ⟨rfl, b9⟩
        rw [u4]
        go_simp
        refine hK.out (updS s 19 (.bool true)) _ _ ?_ ⟨St.grow b9 hF.1, hF.2.put 5 19 (.bool true) rfl (by simp)⟩
        simp only [putL, putT, List.setIfInBounds_toArray, List.set_cons_zero, List.set_cons_succ]
        rw [show updS s 19 (.bool true) 18 = Value.agg #[.int .i64 5, .int .i64 cl, .int .i64 i, .int .i64 nc, .slice (some ⟨g2, 0, none⟩) ys.length cap] from eq4, show updS s 19 (.bool true) 17 = .bool false from eq3] <;> rfl
    · intro d s w9 hd hA hC hF K hK
      have hB9 := hF.1.bel
      simp only [putL, putT, List.setIfInBounds_toArray, List.set_cons_zero, List.set_cons_succ]
      clear hB9
      as_aux_lemma =>
        have eq3 : s 17 = .bool false := hF.2 (3, 17, .bool false) (by simp) (hA.1)
        have eq5 : s 19 = .bool true := hF.2 (5, 19, .bool true) (by simp) (hA.2.1)
        rw [eq3, eq5]
        go_simp
        refine hK.out (updS s 20 (.bool false)) _ _ ?_ ⟨hF.1, hF.2.put 6 20 (.bool false) rfl (by simp)⟩
        simp only [putL, putT, List.setIfInBounds_toArray, List.set_cons_zero, List.set_cons_succ]; rw [show updS s 20 (.bool false) 17 = .bool false from eq3, show updS s 20 (.bool false) 19 = .bool true from eq5]; rfl
    · intro d s w9 hd hA hC hF K hK
      have hB9 := hF.1.bel
      simp only [putL, putT, List.setIfInBounds_toArray, List.set_cons_zero, List.set_cons_succ]
      clear hB9
      as_aux_lemma =>
        have eq3 : s 17 = .bool false := hF.2 (3, 17, .bool false) (by simp) (hA.1)
        have eq6 : s 20 = .bool false := hF.2 (6, 20, .bool false) (by simp) (hA.2.1)
        rw [eq3, eq6]
        go_simp
        refine hK.out (updS s 21 (.bool false)) _ _ ?_ ⟨hF.1, hF.2.put 7 21 (.bool false) rfl (by simp)⟩
        simp only [putL, putT, List.setIfInBounds_toArray, List.set_cons_zero, List.set_cons_succ]; rw [show updS s 21 (.bool false) 17 = .bool false from eq3, show updS s 21 (.bool false) 20 = .bool false from eq6]; rfl
    · intro d s w9 hd hA hC hF K hK
      have hB9 := hF.1.bel
      simp only [putL, putT, List.setIfInBounds_toArray, List.set_cons_zero, List.set_cons_succ]
      clear hB9
      as_aux_lemma =>
        have eq7 : s 21 = .bool false := hF.2 (7, 21, .bool false) (by simp) (hA.1)
        rw [eq7]
        go_simp
        refine hK.out (updS s 22 (.bool false)) _ _ ?_ ⟨hF.1, hF.2.put 8 22 (.bool false) rfl (by simp)⟩
        simp only [putL, putT, List.setIfInBounds_toArray, List.set_cons_zero, List.set_cons_succ]; rw [show updS s 22 (.bool false) 21 = .bool false from eq7]; rfl
    · intro d s w9 hd hA hC hF K hK
      have hB9 := hF.1.bel
      simp only [putL, putT, List.setIfInBounds_toArray, List.set_cons_zero, List.set_cons_succ]
      clear hB9
      as_aux_lemma =>
        have eq8 : s 22 = .bool false := hF.2 (8, 22, .bool false) (by simp) (hA.1)
        rw [eq8]
        go_simp
        refine hK.out (updS s 23 (Value.pointer (some ⟨w.heap.size + 1, 2, none⟩))) _ _ ?_ ⟨hF.1, hF.2.put 9 23 (Value.pointer (some ⟨w.heap.size + 1, 2, none⟩)) rfl (by simp)⟩
        simp only [putL, putT, List.setIfInBounds_toArray, List.set_cons_zero, List.set_cons_succ]; rw [show updS s 23 (Value.pointer (some ⟨w.heap.size + 1, 2, none⟩)) 22 = .bool false from eq8]; rfl
    · intro d s w9 hd hA hC hF K hK
      have hB9 := hF.1.bel
      simp only [putL, putT, List.setIfInBounds_toArray, List.set_cons_zero, List.set_cons_succ]
      clear hB9
      as_aux_lemma =>
        have eq8 : s 22 = .bool false := hF.2 (8, 22, .bool false) (by simp) (hA.1)
        have eq9 : s 23 = Value.pointer (some ⟨w.heap.size + 1, 2, none⟩) := hF.2 (9, 23, Value.pointer (some ⟨w.heap.size + 1, 2, none⟩)) (by simp) (hA.2.1)
        rw [eq8, eq9]
        have p2 := hF.1.cell 1 rfl 2 (.int .i64 i) rfl
        go_simp
        clear p2
        refine hK.out (updS s 24 (Value.int .i64 i)) _ _ ?_ ⟨hF.1, hF.2.put 10 24 (Value.int .i64 i) rfl (by simp)⟩
        simp only [putL, putT, List.setIfInBounds_toArray, List.set_cons_zero, List.set_cons_succ]; rw [show updS s 24 (Value.int .i64 i) 22 = .bool false from eq8, show updS s 24 (Value.int .i64 i) 23 = Value.pointer (some ⟨w.heap.size + 1, 2, none⟩) from eq9]; rfl
    · intro d s w9 hd hA hC hF K hK
      have hB9 := hF.1.bel
      simp only [putL, putT, List.setIfInBounds_toArray, List.set_cons_zero, List.set_cons_succ]
      clear hB9
      as_aux_lemma =>
        have eq8 : s 22 = .bool false := hF.2 (8, 22, .bool false) (by simp) (hA.1)
        rw [eq8]
        go_simp
        refine hK.out (updS s 25 (Value.pointer (some ⟨w.heap.size, 0, none⟩))) _ _ ?_ ⟨hF.1, hF.2.put 11 25 (Value.pointer (some ⟨w.heap.size, 0, none⟩)) rfl (by simp)⟩
        simp only [putL, putT, List.setIfInBounds_toArray, List.set_cons_zero, List.set_cons_succ]; rw [show updS s 25 (Value.pointer (some ⟨w.heap.size, 0, none⟩)) 22 = .bool false from eq8]; rfl
    · intro d s w9 hd hA hC hF K hK
      have hB9 := hF.1.bel
      simp only [putL, putT, List.setIfInBounds_toArray, List.set_cons_zero, List.set_cons_succ]
      clear hB9
      as_aux_lemma =>
        have eq8 : s 22 = .bool false := hF.2 (8, 22, .bool false) (by simp) (hA.1)
        have eq11 : s 25 = Value.pointer (some ⟨w.heap.size, 0, none⟩) := hF.2 (11, 25, Value.pointer (some ⟨w.heap.size, 0, none⟩)) (by simp) (hA.2.1)
        rw [eq8, eq11]
        have p0 := hF.1.cell 0 rfl 0 (.int .i64 i) rfl
        go_simp
        clear p0
        refine hK.out (updS s 26 (Value.int .i64 i)) _ _ ?_ ⟨hF.1, hF.2.put 12 26 (Value.int .i64 i) rfl (by simp)⟩
        simp only [putL, putT, List.setIfInBounds_toArray, List.set_cons_zero, List.set_cons_succ]; rw [show updS s 26 (Value.int .i64 i) 22 = .bool false from eq8, show updS s 26 (Value.int .i64 i) 25 = Value.pointer (some ⟨w.heap.size, 0, none⟩) from eq11]; rfl
    · intro d s w9 hd hA hC hF K hK
      have hB9 := hF.1.bel
      simp only [putL, putT, List.setIfInBounds_toArray, List.set_cons_zero, List.set_cons_succ]
      clear hB9
      as_aux_lemma =>
        have eq8 : s 22 = .bool false := hF.2 (8, 22, .bool false) (by simp) (hA.1)
        have eq10 : s 24 = Value.int .i64 i := hF.2 (10, 24, Value.int .i64 i) (by simp) (hA.2.1)
        have eq12 : s 26 = Value.int .i64 i := hF.2 (12, 26, Value.int .i64 i) (by simp) (hA.2.2.1)
        rw [eq8, eq10, eq12]
        go_simp
        refine hK.out (updS s 27 (.bool false)) _ _ ?_ ⟨hF.1, hF.2.put 13 27 (.bool false) rfl (by simp)⟩
        simp only [putL, putT, List.setIfInBounds_toArray, List.set_cons_zero, List.set_cons_succ]; rw [show updS s 27 (.bool false) 22 = .bool false from eq8, show updS s 27 (.bool false) 24 = Value.int .i64 i from eq10, show updS s 27 (.bool false) 26 = Value.int .i64 i from eq12]; rfl
    · intro d s w9 hd hA hC hF K hK
      have hB9 := hF.1.bel
      simp only [putL, putT, List.setIfInBounds_toArray, List.set_cons_zero, List.set_cons_succ]
      clear hB9
      as_aux_lemma =>
        have eq8 : s 22 = .bool false := hF.2 (8, 22, .bool false) (by simp) (hA.1)
        have eq13 : s 27 = .bool false := hF.2 (13, 27, .bool false) (by simp) (hA.2.1)
        rw [eq8, eq13]
        go_simp
        refine hK.out (updS s 28 (.bool false)) _ _ ?_ ⟨hF.1, hF.2.put 14 28 (.bool false) rfl (by simp)⟩
        simp only [putL, putT, List.setIfInBounds_toArray, List.set_cons_zero, List.set_cons_succ]; rw [show updS s 28 (.bool false) 22 = .bool false from eq8, show updS s 28 (.bool false) 27 = .bool false from eq13]; rfl
    · intro d s w9 hd hA hC hF K hK
      have hB9 := hF.1.bel
      simp only [putL, putT, List.setIfInBounds_toArray, List.set_cons_zero, List.set_cons_succ]
      clear hB9
      as_aux_lemma =>
        have eq14 : s 28 = .bool false := hF.2 (14, 28, .bool false) (by simp) (hA.1)
        rw [eq14]
        go_simp
        refine hK.out (updS s 29 (.bool false)) _ _ ?_ ⟨hF.1, hF.2.put 15 29 (.bool false) rfl (by simp)⟩
        simp only [putL, putT, List.setIfInBounds_toArray, List.set_cons_zero, List.set_cons_succ]; rw [show updS s 29 (.bool false) 28 = .bool false from eq14]; rfl
    · intro d s w9 hd hA hC hF K hK
      have hB9 := hF.1.bel
      simp only [putL, putT, List.setIfInBounds_toArray, List.set_cons_zero, List.set_cons_succ]
      clear hB9
      as_aux_lemma =>
        have eq15 : s 29 = .bool false := hF.2 (15, 29, .bool false) (by simp) (hA.1)
        rw [eq15]
        go_simp
        refine hK.out (updS s 30 (Value.pointer (some ⟨w.heap.size + 1, 4, none⟩))) _ _ ?_ ⟨hF.1, hF.2.put 16 30 (Value.pointer (some ⟨w.heap.size + 1, 4, none⟩)) rfl (by simp)⟩
        simp only [putL, putT, List.setIfInBounds_toArray, List.set_cons_zero, List.set_cons_succ]; rw [show updS s 30 (Value.pointer (some ⟨w.heap.size + 1, 4, none⟩)) 29 = .bool false from eq15]; rfl
    · intro d s w9 hd hA hC hF K hK
      have hB9 := hF.1.bel
      simp only [putL, putT, List.setIfInBounds_toArray, List.set_cons_zero, List.set_cons_succ]
      clear hB9
      as_aux_lemma =>
        have eq15 : s 29 = .bool false := hF.2 (15, 29, .bool false) (by simp) (hA.1)
        have eq16 : s 30 = Value.pointer (some ⟨w.heap.size + 1, 4, none⟩) := hF.2 (16, 30, Value.pointer (some ⟨w.heap.size + 1, 4, none⟩)) (by simp) (hA.2.1)
        rw [eq15, eq16]
        have p4 := hF.1.cell 1 rfl 4 (.slice (some ⟨g2, 0, none⟩) ys.length cap) rfl
        go_simp
        clear p4
        refine hK.out (updS s 31 (Value.slice (some ⟨g2, 0, none⟩) ys.length cap)) _ _ ?_ ⟨hF.1, hF.2.put 17 31 (Value.slice (some ⟨g2, 0, none⟩) ys.length cap) rfl (by simp)⟩
        simp only [putL, putT, List.setIfInBounds_toArray, List.set_cons_zero, List.set_cons_succ]; rw [show updS s 31 (Value.slice (some ⟨g2, 0, none⟩) ys.length cap) 29 = .bool false from eq15, show updS s 31 (Value.slice (some ⟨g2, 0, none⟩) ys.length cap) 30 = Value.pointer (some ⟨w.heap.size + 1, 4, none⟩) from eq16]; rfl
    · intro d s w9 hd hA hC hF K hK
      have hB9 := hF.1.bel
      simp only [putL, putT, List.setIfInBounds_toArray, List.set_cons_zero, List.set_cons_succ]
      clear hB9
      as_aux_lemma =>
        have eq15 : s 29 = .bool false := hF.2 (15, 29, .bool false) (by simp) (hA.1)
        have eq17 : s 31 = Value.slice (some ⟨g2, 0, none⟩) ys.length cap := hF.2 (17, 31, Value.slice (some ⟨g2, 0, none⟩) ys.length cap) (by simp) (hA.2.1)
        rw [eq15, eq17]
        go_simp
        refine hK.out (updS s 32 (Value.pointer (some ⟨g2, 0, none⟩))) _ _ ?_ ⟨hF.1, hF.2.put 18 32 (Value.pointer (some ⟨g2, 0, none⟩)) rfl (by simp)⟩
        simp only [putL, putT, List.setIfInBounds_toArray, List.set_cons_zero, List.set_cons_succ]; rw [show updS s 32 (Value.pointer (some ⟨g2, 0, none⟩)) 29 = .bool false from eq15, show updS s 32 (Value.pointer (some ⟨g2, 0, none⟩)) 31 = Value.slice (some ⟨g2, 0, none⟩) ys.length cap from eq17]; rfl
    · intro d s w9 hd hA hC hF K hK
      have hB9 := hF.1.bel
      simp only [putL, putT, List.setIfInBounds_toArray, List.set_cons_zero, List.set_cons_succ]
      clear hB9
      as_aux_lemma =>
        have eq15 : s 29 = .bool false := hF.2 (15, 29, .bool false) (by simp) (hA.1)
        have eq18 : s 32 = Value.pointer (some ⟨g2, 0, none⟩) := hF.2 (18, 32, Value.pointer (some ⟨g2, 0, none⟩)) (by simp) (hA.2.1)
        rw [eq15, eq18]
        obtain ⟨q0, q1, q2, q3, q4, q5, q6⟩ := (srow_two' (srow_base HH.out.1 HH.out.2 hF.1.bel) HY.out.1).1
        simp only [Nat.zero_add] at q0 q1 q2 q3 q4 q5 q6
        go_simp
        clear q0 q1 q2 q3 q4 q5 q6
        refine hK.out (updS s 33 (Value.agg #[.int .i64 t.k, .int .i64 t.t, .int .i64 t.a, .int .i64 t.b, .int .i64 t.c, .int .i64 t.d, .int .i64 t.e])) _ _ ?_ ⟨hF.1, hF.2.put 19 33 (Value.agg #[.int .i64 t.k, .int .i64 t.t, .int .i64 t.a, .int .i64 t.b, .int .i64 t.c, .int .i64 t.d, .int .i64 t.e]) rfl (by simp)⟩
        simp only [putL, putT, List.setIfInBounds_toArray, List.set_cons_zero, List.set_cons_succ]; rw [show updS s 33 (Value.agg #[.int .i64 t.k, .int .i64 t.t, .int .i64 t.a, .int .i64 t.b, .int .i64 t.c, .int .i64 t.d, .int .i64 t.e]) 29 = .bool false from eq15, show updS s 33 (Value.agg #[.int .i64 t.k, .int .i64 t.t, .int .i64 t.a, .int .i64 t.b, .int .i64 t.c, .int .i64 t.d, .int .i64 t.e]) 32 = Value.pointer (some ⟨g2, 0, none⟩) from eq18]; rfl
    · intro d s w9 hd hA hC hF K hK
      have hB9 := hF.1.bel
      simp only [putL, putT, List.setIfInBounds_toArray, List.set_cons_zero, List.set_cons_succ]
      clear hB9
      as_aux_lemma =>
        have eq15 : s 29 = .bool false := hF.2 (15, 29, .bool false) (by simp) (hA.1)
        rw [eq15]
        go_simp
        refine hK.out (updS s 34 (Value.pointer (some ⟨w.heap.size + 1, 4, none⟩))) _ _ ?_ ⟨hF.1, hF.2.put 20 34 (Value.pointer (some ⟨w.heap.size + 1, 4, none⟩)) rfl (by simp)⟩
        simp only [putL, putT, List.setIfInBounds_toArray, List.set_cons_zero, List.set_cons_succ]; rw [show updS s 34 (Value.pointer (some ⟨w.heap.size + 1, 4, none⟩)) 29 = .bool false from eq15]; rfl
    · intro d s w9 hd hA hC hF K hK
      have hB9 := hF.1.bel
      simp only [putL, putT, List.setIfInBounds_toArray, List.set_cons_zero, List.set_cons_succ]
      clear hB9
      as_aux_lemma =>
        have eq15 : s 29 = .bool false := hF.2 (15, 29, .bool false) (by simp) (hA.1)
        have eq20 : s 34 = Value.pointer (some ⟨w.heap.size + 1, 4, none⟩) := hF.2 (20, 34, Value.pointer (some ⟨w.heap.size + 1, 4, none⟩)) (by simp) (hA.2.1)
        rw [eq15, eq20]
        have p4 := hF.1.cell 1 rfl 4 (.slice (some ⟨g2, 0, none⟩) ys.length cap) rfl
        go_simp
        clear p4
        refine hK.out (updS s 35 (Value.slice (some ⟨g2, 0, none⟩) ys.length cap)) _ _ ?_ ⟨hF.1, hF.2.put 21 35 (Value.slice (some ⟨g2, 0, none⟩) ys.length cap) rfl (by simp)⟩
        simp only [putL, putT, List.setIfInBounds_toArray, List.set_cons_zero, List.set_cons_succ]; rw [show updS s 35 (Value.slice (some ⟨g2, 0, none⟩) ys.length cap) 29 = .bool false from eq15, show updS s 35 (Value.slice (some ⟨g2, 0, none⟩) ys.length cap) 34 = Value.pointer (some ⟨w.heap.size + 1, 4, none⟩) from eq20]; rfl
    · intro d s w9 hd hA hC hF K hK
      have hB9 := hF.1.bel
      simp only [putL, putT, List.setIfInBounds_toArray, List.set_cons_zero, List.set_cons_succ]
      clear hB9
      as_aux_lemma =>
        have eq15 : s 29 = .bool false := hF.2 (15, 29, .bool false) (by simp) (hA.1)
        have eq21 : s 35 = Value.slice (some ⟨g2, 0, none⟩) ys.length cap := hF.2 (21, 35, Value.slice (some ⟨g2, 0, none⟩) ys.length cap) (by simp) (hA.2.1)
        rw [eq15, eq21]
        go_simp
        refine hK.out (updS s 36 (Value.pointer (some ⟨g2, 7, none⟩))) _ _ ?_ ⟨hF.1, hF.2.put 22 36 (Value.pointer (some ⟨g2, 7, none⟩)) rfl (by simp)⟩
        simp only [putL, putT, List.setIfInBounds_toArray, List.set_cons_zero, List.set_cons_succ]; rw [show updS s 36 (Value.pointer (some ⟨g2, 7, none⟩)) 29 = .bool false from eq15, show updS s 36 (Value.pointer (some ⟨g2, 7, none⟩)) 35 = Value.slice (some ⟨g2, 0, none⟩) ys.length cap from eq21]; rfl
    · intro d s w9 hd hA hC hF K hK
      have hB9 := hF.1.bel
      simp only [putL, putT, List.setIfInBounds_toArray, List.set_cons_zero, List.set_cons_succ]
      clear hB9
      as_aux_lemma =>
        have eq15 : s 29 = .bool false := hF.2 (15, 29, .bool false) (by simp) (hA.1)
        have eq22 : s 36 = Value.pointer (some ⟨g2, 7, none⟩) := hF.2 (22, 36, Value.pointer (some ⟨g2, 7, none⟩)) (by simp) (hA.2.1)
        rw [eq15, eq22]
        obtain ⟨q0, q1, q2, q3, q4, q5, q6⟩ := (srow_two' (srow_base HH.out.1 HH.out.2 hF.1.bel) HY.out.1).2
        go_simp
        clear q0 q1 q2 q3 q4 q5 q6
        refine hK.out (updS s 37 (Value.agg #[.int .i64 u.k, .int .i64 u.t, .int .i64 u.a, .int .i64 u.b, .int .i64 u.c, .int .i64 u.d, .int .i64 u.e])) _ _ ?_ ⟨hF.1, hF.2.put 23 37 (Value.agg #[.int .i64 u.k, .int .i64 u.t, .int .i64 u.a, .int .i64 u.b, .int .i64 u.c, .int .i64 u.d, .int .i64 u.e]) rfl (by simp)⟩
        simp only [putL, putT, List.setIfInBounds_toArray, List.set_cons_zero, List.set_cons_succ]; rw [show updS s 37 (Value.agg #[.int .i64 u.k, .int .i64 u.t, .int .i64 u.a, .int .i64 u.b, .int .i64 u.c, .int .i64 u.d, .int .i64 u.e]) 29 = .bool false from eq15, show updS s 37 (Value.agg #[.int .i64 u.k, .int .i64 u.t, .int .i64 u.a, .int .i64 u.b, .int .i64 u.c, .int .i64 u.d, .int .i64 u.e]) 36 = Value.pointer (some ⟨g2, 7, none⟩) from eq22]; rfl
    · intro d s w9 hd hA hC hF K hK
      have hB9 := hF.1.bel
      simp only [putL, putT, List.setIfInBounds_toArray, List.set_cons_zero, List.set_cons_succ]
      clear hB9
      as_aux_lemma =>
        have eq15 : s 29 = .bool false := hF.2 (15, 29, .bool false) (by simp) (hA.1)
        rw [eq15]
        go_simp
        refine hK.out (updS s 38 (Value.pointer (some ⟨w.heap.size, 0, none⟩))) _ _ ?_ ⟨hF.1, hF.2.put 24 38 (Value.pointer (some ⟨w.heap.size, 0, none⟩)) rfl (by simp)⟩
        simp only [putL, putT, List.setIfInBounds_toArray, List.set_cons_zero, List.set_cons_succ]; rw [show updS s 38 (Value.pointer (some ⟨w.heap.size, 0, none⟩)) 29 = .bool false from eq15]; rfl
    · intro d s w9 hd hA hC hF K hK
      have hB9 := hF.1.bel
      simp only [putL, putT, List.setIfInBounds_toArray, List.set_cons_zero, List.set_cons_succ]
      clear hB9
      as_aux_lemma =>
        have eq15 : s 29 = .bool false := hF.2 (15, 29, .bool false) (by simp) (hA.1)
        have eq24 : s 38 = Value.pointer (some ⟨w.heap.size, 0, none⟩) := hF.2 (24, 38, Value.pointer (some ⟨w.heap.size, 0, none⟩)) (by simp) (hA.2.1)
        rw [eq15, eq24]
        have p0 := hF.1.cell 0 rfl 0 (.int .i64 i) rfl
        go_simp
        clear p0
        refine hK.out (updS s 39 (Value.int .i64 i)) _ _ ?_ ⟨hF.1, hF.2.put 25 39 (Value.int .i64 i) rfl (by simp)⟩
        simp only [putL, putT, List.setIfInBounds_toArray, List.set_cons_zero, List.set_cons_succ]; rw [show updS s 39 (Value.int .i64 i) 29 = .bool false from eq15, show updS s 39 (Value.int .i64 i) 38 = Value.pointer (some ⟨w.heap.size, 0, none⟩) from eq24]; rfl
    · intro d s w9 hd hA hC hF K hK
      have hB9 := hF.1.bel
      simp only [putL, putT, List.setIfInBounds_toArray, List.set_cons_zero, List.set_cons_succ]
      clear hB9
      as_aux_lemma =>
        have eq15 : s 29 = .bool false := hF.2 (15, 29, .bool false) (by simp) (hA.1)
        rw [eq15]
        go_simp
        refine hK.out (updS s 40 (Value.int .i64 now)) _ _ ?_ ⟨hF.1, hF.2.put 26 40 (Value.int .i64 now) rfl (by simp)⟩
        simp only [putL, putT, List.setIfInBounds_toArray, List.set_cons_zero, List.set_cons_succ]; rw [show updS s 40 (Value.int .i64 now) 29 = .bool false from eq15]; rfl
    · intro d s w9 hd hA hC hF K hK
      have hB9 := hF.1.bel
      simp only [putL, putT, List.setIfInBounds_toArray, List.set_cons_zero, List.set_cons_succ]
      clear hB9
      as_aux_lemma =>
        have eq19 : s 33 = Value.agg #[.int .i64 t.k, .int .i64 t.t, .int .i64 t.a, .int .i64 t.b, .int .i64 t.c, .int .i64 t.d, .int .i64 t.e] := hF.2 (19, 33, Value.agg #[.int .i64 t.k, .int .i64 t.t, .int .i64 t.a, .int .i64 t.b, .int .i64 t.c, .int .i64 t.d, .int .i64 t.e]) (by simp) (hA.1)
        have eq23 : s 37 = Value.agg #[.int .i64 u.k, .int .i64 u.t, .int .i64 u.a, .int .i64 u.b, .int .i64 u.c, .int .i64 u.d, .int .i64 u.e] := hF.2 (23, 37, Value.agg #[.int .i64 u.k, .int .i64 u.t, .int .i64 u.a, .int .i64 u.b, .int .i64 u.c, .int .i64 u.d, .int .i64 u.e]) (by simp) (hA.2.1)
        have eq25 : s 39 = Value.int .i64 i := hF.2 (25, 39, Value.int .i64 i) (by simp) (hA.2.2.1)
        have eq26 : s 40 = Value.int .i64 now := hF.2 (26, 40, Value.int .i64 now) (by simp) (hA.2.2.2.1)
        have eq15 : s 29 = .bool false := hF.2 (15, 29, .bool false) (by simp) (hA.2.2.2.2.1)
        rw [eq19, eq23, eq25, eq26, eq15]
        go_simp
        refine (l11Shown_any t u i now _).mono ?_
        rintro r w8 ⟨rfl, b9⟩
        rw [HSB.out]
        go_simp
        refine hK.out (updS s 41 (.bool true)) _ _ ?_ ⟨St.grow b9 hF.1, hF.2.put 27 41 (.bool true) rfl (by simp)⟩
        simp only [putL, putT, List.setIfInBounds_toArray, List.set_cons_zero, List.set_cons_succ]
        rw [show updS s 41 (.bool true) 33 = Value.agg #[.int .i64 t.k, .int .i64 t.t, .int .i64 t.a, .int .i64 t.b, .int .i64 t.c, .int .i64 t.d, .int .i64 t.e] from eq19, show updS s 41 (.bool true) 37 = Value.agg #[.int .i64 u.k, .int .i64 u.t, .int .i64 u.a, .int .i64 u.b, .int .i64 u.c, .int .i64 u.d, .int .i64 u.e] from eq23, show updS s 41 (.bool true) 39 = Value.int .i64 i from eq25, show updS s 41 (.bool true) 40 = Value.int .i64 now from eq26, show updS s 41 (.bool true) 29 = .bool false from eq15] <;> rfl
    · intro d s w9 hd hA hC hF K hK
      have hB9 := hF.1.bel
      simp only [putL, putT, List.setIfInBounds_toArray, List.set_cons_zero, List.set_cons_succ]
      clear hB9
      as_aux_lemma =>
        have eq15 : s 29 = .bool false := hF.2 (15, 29, .bool false) (by simp) (hA.1)
        have eq27 : s 41 = .bool true := hF.2 (27, 41, .bool true) (by simp) (hA.2.1)
        rw [eq15, eq27]
        go_simp
        refine hK.out (updS s 42 (.bool false)) _ _ ?_ ⟨hF.1, hF.2.put 28 42 (.bool false) rfl (by simp)⟩
        simp only [putL, putT, List.setIfInBounds_toArray, List.set_cons_zero, List.set_cons_succ]; rw [show updS s 42 (.bool false) 29 = .bool false from eq15, show updS s 42 (.bool false) 41 = .bool true from eq27]; rfl
    · intro d s w9 hd hA hC hF K hK
      have hB9 := hF.1.bel
      simp only [putL, putT, List.setIfInBounds_toArray, List.set_cons_zero, List.set_cons_succ]
      clear hB9
      as_aux_lemma =>
        have eq15 : s 29 = .bool false := hF.2 (15, 29, .bool false) (by simp) (hA.1)
        have eq28 : s 42 = .bool false := hF.2 (28, 42, .bool false) (by simp) (hA.2.1)
        rw [eq15, eq28]
        go_simp
        refine hK.out (updS s 43 (.bool false)) _ _ ?_ ⟨hF.1, hF.2.put 29 43 (.bool false) rfl (by simp)⟩
        simp only [putL, putT, List.setIfInBounds_toArray, List.set_cons_zero, List.set_cons_succ]; rw [show updS s 43 (.bool false) 29 = .bool false from eq15, show updS s 43 (.bool false) 42 = .bool false from eq28]; rfl
    · intro d s w9 hd hA hC hF K hK
      have hB9 := hF.1.bel
      simp only [putL, putT, List.setIfInBounds_toArray, List.set_cons_zero, List.set_cons_succ]
      clear hB9
      as_aux_lemma =>
        have eq29 : s 43 = .bool false := hF.2 (29, 43, .bool false) (by simp) (hA.1)
        rw [eq29]
        go_simp
        refine hK.out (updS s 44 (.bool false)) _ _ ?_ ⟨hF.1, hF.2.put 30 44 (.bool false) rfl (by simp)⟩
        simp only [putL, putT, List.setIfInBounds_toArray, List.set_cons_zero, List.set_cons_succ]; rw [show updS s 44 (.bool false) 43 = .bool false from eq29]; rfl
    · intro d s w9 hd hA hC hF K hK
      have hB9 := hF.1.bel
      simp only [putL, putT, List.setIfInBounds_toArray, List.set_cons_zero, List.set_cons_succ]
      clear hB9
      as_aux_lemma =>
        have eq30 : s 44 = .bool false := hF.2 (30, 44, .bool false) (by simp) (hA.1)
        rw [eq30]
        go_simp
        refine hK.out (updS s 45 (Value.pointer (some ⟨w.heap.size + 1, 4, none⟩))) _ _ ?_ ⟨hF.1, hF.2.put 31 45 (Value.pointer (some ⟨w.heap.size + 1, 4, none⟩)) rfl (by simp)⟩
        simp only [putL, putT, List.setIfInBounds_toArray, List.set_cons_zero, List.set_cons_succ]; rw [show updS s 45 (Value.pointer (some ⟨w.heap.size + 1, 4, none⟩)) 44 = .bool false from eq30]; rfl
    · intro d s w9 hd hA hC hF K hK
      have hB9 := hF.1.bel
      simp only [putL, putT, List.setIfInBounds_toArray, List.set_cons_zero, List.set_cons_succ]
      clear hB9
      as_aux_lemma =>
        have eq30 : s 44 = .bool false := hF.2 (30, 44, .bool false) (by simp) (hA.1)
        have eq31 : s 45 = Value.pointer (some ⟨w.heap.size + 1, 4, none⟩) := hF.2 (31, 45, Value.pointer (some ⟨w.heap.size + 1, 4, none⟩)) (by simp) (hA.2.1)
        rw [eq30, eq31]
        have p4 := hF.1.cell 1 rfl 4 (.slice (some ⟨g2, 0, none⟩) ys.length cap) rfl
        go_simp
        clear p4
        refine hK.out (updS s 46 (Value.slice (some ⟨g2, 0, none⟩) ys.length cap)) _ _ ?_ ⟨hF.1, hF.2.put 32 46 (Value.slice (some ⟨g2, 0, none⟩) ys.length cap) rfl (by simp)⟩
        simp only [putL, putT, List.setIfInBounds_toArray, List.set_cons_zero, List.set_cons_succ]; rw [show updS s 46 (Value.slice (some ⟨g2, 0, none⟩) ys.length cap) 44 = .bool false from eq30, show updS s 46 (Value.slice (some ⟨g2, 0, none⟩) ys.length cap) 45 = Value.pointer (some ⟨w.heap.size + 1, 4, none⟩) from eq31]; rfl
    · intro d s w9 hd hA hC hF K hK
      have hB9 := hF.1.bel
      simp only [putL, putT, List.setIfInBounds_toArray, List.set_cons_zero, List.set_cons_succ]
      clear hB9
      as_aux_lemma =>
        have eq30 : s 44 = .bool false := hF.2 (30, 44, .bool false) (by simp) (hA.1)
        have eq32 : s 46 = Value.slice (some ⟨g2, 0, none⟩) ys.length cap := hF.2 (32, 46, Value.slice (some ⟨g2, 0, none⟩) ys.length cap) (by simp) (hA.2.1)
        rw [eq30, eq32]
        go_simp
        refine hK.out (updS s 47 (Value.pointer (some ⟨g2, 7, none⟩))) _ _ ?_ ⟨hF.1, hF.2.put 33 47 (Value.pointer (some ⟨g2, 7, none⟩)) rfl (by simp)⟩
        simp only [putL, putT, List.setIfInBounds_toArray, List.set_cons_zero, List.set_cons_succ]; rw [show updS s 47 (Value.pointer (some ⟨g2, 7, none⟩)) 44 = .bool false from eq30, show updS s 47 (Value.pointer (some ⟨g2, 7, none⟩)) 46 = Value.slice (some ⟨g2, 0, none⟩) ys.length cap from eq32]; rfl
    · intro d s w9 hd hA hC hF K hK
      have hB9 := hF.1.bel
      simp only [putL, putT, List.setIfInBounds_toArray, List.set_cons_zero, List.set_cons_succ]
      clear hB9
      as_aux_lemma =>
        have eq30 : s 44 = .bool false := hF.2 (30, 44, .bool false) (by simp) (hA.1)
        have eq33 : s 47 = Value.pointer (some ⟨g2, 7, none⟩) := hF.2 (33, 47, Value.pointer (some ⟨g2, 7, none⟩)) (by simp) (hA.2.1)
        rw [eq30, eq33]
        go_simp
        refine hK.out (updS s 48 (Value.pointer (some ⟨g2, 10, none⟩))) _ _ ?_ ⟨hF.1, hF.2.put 34 48 (Value.pointer (some ⟨g2, 10, none⟩)) rfl (by simp)⟩
        simp only [putL, putT, List.setIfInBounds_toArray, List.set_cons_zero, List.set_cons_succ]; rw [show updS s 48 (Value.pointer (some ⟨g2, 10, none⟩)) 44 = .bool false from eq30, show updS s 48 (Value.pointer (some ⟨g2, 10, none⟩)) 47 = Value.pointer (some ⟨g2, 7, none⟩) from eq33]; rfl
    · intro d s w9 hd hA hC hF K hK
      have hB9 := hF.1.bel
      simp only [putL, putT, List.setIfInBounds_toArray, List.set_cons_zero, List.set_cons_succ]
      clear hB9
      as_aux_lemma =>
        have eq30 : s 44 = .bool false := hF.2 (30, 44, .bool false) (by simp) (hA.1)
        have eq34 : s 48 = Value.pointer (some ⟨g2, 10, none⟩) := hF.2 (34, 48, Value.pointer (some ⟨g2, 10, none⟩)) (by simp) (hA.2.1)
        rw [eq30, eq34]
        obtain ⟨q0, q1, q2, q3, q4, q5, q6⟩ := (srow_two' (srow_base HH.out.1 HH.out.2 hF.1.bel) HY.out.1).2
        go_simp
        clear q0 q1 q2 q3 q4 q5 q6
        refine hK.out (updS s 49 (Value.int .i64 u.b)) _ _ ?_ ⟨hF.1, hF.2.put 35 49 (Value.int .i64 u.b) rfl (by simp)⟩
        simp only [putL, putT, List.setIfInBounds_toArray, List.set_cons_zero, List.set_cons_succ]; rw [show updS s 49 (Value.int .i64 u.b) 44 = .bool false from eq30, show updS s 49 (Value.int .i64 u.b) 48 = Value.pointer (some ⟨g2, 10, none⟩) from eq34]; rfl
    · intro d s w9 hd hA hC hF K hK
      have hB9 := hF.1.bel
      simp only [putL, putT, List.setIfInBounds_toArray, List.set_cons_zero, List.set_cons_succ]
      clear hB9
      as_aux_lemma =>
        have eq30 : s 44 = .bool false := hF.2 (30, 44, .bool false) (by simp) (hA.1)
        rw [eq30]
        go_simp
        refine hK.out (updS s 50 (Value.pointer (some ⟨w.heap.size, 1, none⟩))) _ _ ?_ ⟨hF.1, hF.2.put 36 50 (Value.pointer (some ⟨w.heap.size, 1, none⟩)) rfl (by simp)⟩
        simp only [putL, putT, List.setIfInBounds_toArray, List.set_cons_zero, List.set_cons_succ]; rw [show updS s 50 (Value.pointer (some ⟨w.heap.size, 1, none⟩)) 44 = .bool false from eq30]; rfl
    · intro d s w9 hd hA hC hF K hK
      have hB9 := hF.1.bel
      simp only [putL, putT, List.setIfInBounds_toArray, List.set_cons_zero, List.set_cons_succ]
      clear hB9
      as_aux_lemma =>
        have eq30 : s 44 = .bool false := hF.2 (30, 44, .bool false) (by simp) (hA.1)
        have eq36 : s 50 = Value.pointer (some ⟨w.heap.size, 1, none⟩) := hF.2 (36, 50, Value.pointer (some ⟨w.heap.size, 1, none⟩)) (by simp) (hA.2.1)
        rw [eq30, eq36]
        have p1 := hF.1.cell 0 rfl 1 (.int .i64 s9) rfl
        go_simp
        clear p1
        refine hK.out (updS s 51 (Value.int .i64 s9)) _ _ ?_ ⟨hF.1, hF.2.put 37 51 (Value.int .i64 s9) rfl (by simp)⟩
        simp only [putL, putT, List.setIfInBounds_toArray, List.set_cons_zero, List.set_cons_succ]; rw [show updS s 51 (Value.int .i64 s9) 44 = .bool false from eq30, show updS s 51 (Value.int .i64 s9) 50 = Value.pointer (some ⟨w.heap.size, 1, none⟩) from eq36]; rfl
    · intro d s w9 hd hA hC hF K hK
      have hB9 := hF.1.bel
      simp only [putL, putT, List.setIfInBounds_toArray, List.set_cons_zero, List.set_cons_succ]
      clear hB9
      as_aux_lemma =>
        have eq30 : s 44 = .bool false := hF.2 (30, 44, .bool false) (by simp) (hA.1)
        have eq35 : s 49 = Value.int .i64 u.b := hF.2 (35, 49, Value.int .i64 u.b) (by simp) (hA.2.1)
        have eq37 : s 51 = Value.int .i64 s9 := hF.2 (37, 51, Value.int .i64 s9) (by simp) (hA.2.2.1)
        rw [eq30, eq35, eq37]
        go_simp
        try rw [← HLE.out]
        refine hK.out (updS s 52 (.bool le9)) _ _ ?_ ⟨hF.1, hF.2.put 38 52 (.bool le9) rfl (by simp)⟩
        simp only [putL, putT, List.setIfInBounds_toArray, List.set_cons_zero, List.set_cons_succ]; rw [show updS s 52 (.bool le9) 44 = .bool false from eq30, show updS s 52 (.bool le9) 49 = Value.int .i64 u.b from eq35, show updS s 52 (.bool le9) 51 = Value.int .i64 s9 from eq37]; rfl
    · intro d s w9 hd hA hC hF K hK
      have hB9 := hF.1.bel
      simp only [putL, putT, List.setIfInBounds_toArray, List.set_cons_zero, List.set_cons_succ]
      clear hB9
      as_aux_lemma =>
        have eq30 : s 44 = .bool false := hF.2 (30, 44, .bool false) (by simp) (hA.1)
        have eq38 : s 52 = .bool le9 := hF.2 (38, 52, .bool le9) (by simp) (hA.2.1)
        rw [eq30, eq38]
        go_simp
        refine hK.out (updS s 53 (.bool le9)) _ _ ?_ ⟨hF.1, hF.2.put 39 53 (.bool le9) rfl (by simp)⟩
        simp only [putL, putT, List.setIfInBounds_toArray, List.set_cons_zero, List.set_cons_succ]; rw [show updS s 53 (.bool le9) 44 = .bool false from eq30, show updS s 53 (.bool le9) 52 = .bool le9 from eq38]; rfl
  · intro d s w3 hA hF
    have hS := hF.1
    have eq39 : s 53 = .bool le9 := hF.2 (39, 53, .bool le9) (by simp) (hA.2.2.2.2.2.2.2.2.2.2.2.2.2.2.2.2.2.2.2.2.2.2.2.2.2.2.2.2.2.2.2.2.2.2.2.2.2.2.2.1)
    have HS2 : Hid (St B w [⟨w.heap.size, 49, #[.int .i64 i, .int .i64 s9, .slice a1 xs.length c1, .slice a2 ts.length c2]⟩, ⟨w.heap.size + 1, 33, #[.int .i64 5, .int .i64 cl, .int .i64 i, .int .i64 nc, .slice (some ⟨g2, 0, none⟩) ys.length cap]⟩, ⟨w.heap.size + 1 + 1, 49, #[.int .i64 0, .int .i64 0, .slice none 0 0, .slice none 0 0]⟩, ⟨w.heap.size + 1 + 1 + 1, 33, #[.int .i64 0, .int .i64 0, .int .i64 0, .int .i64 0, .slice none 0 0]⟩] [⟨(selT 64), fun W => OwnS W B (.slice a1 xs.length c1) xs⟩, ⟨(selT 90), fun W => OwnN celC 90 W B (.slice a2 ts.length c2) ts⟩] w3) := hS
    clear hS hF hA HS1
    simp only [putL, putT, List.setIfInBounds_toArray, List.set_cons_zero, List.set_cons_succ]
    rw [eq39]
    clear eq39
    clear u4
    cases le9
    rotate_left
    · skip
      have EA : Hid (askH i s9 xs ts 5 cl i nc ys now = keepH i s9 xs ts) := Hid.mk' (by rw [EG.out]; unfold giveH; rw [if_neg (by have h9 := HLE.out; simp at h9; intro hq; omega)])
      have lt0 : w.heap.size < w3.heap.size := (HS2.out.lt 0 rfl).2
      have lt1 : w.heap.size + 1 < w3.heap.size := (HS2.out.lt 1 rfl).2
      have lt2 : w.heap.size + 1 + 1 < w3.heap.size := (HS2.out.lt 2 rfl).2
      have lt3 : w.heap.size + 1 + 1 + 1 < w3.heap.size := (HS2.out.lt 3 rfl).2
      have p0 := HS2.out.cell 0 rfl 0 (.int .i64 i) rfl
      have p1 := HS2.out.cell 0 rfl 1 (.int .i64 s9) rfl
      have p2 := HS2.out.cell 0 rfl 2 (.slice a1 xs.length c1) rfl
      have p3 := HS2.out.cell 0 rfl 3 (.slice a2 ts.length c2) rfl
      have z0 := HS2.out.cell 2 rfl 0 (.int .i64 0) rfl
      have zf0 := HS2.out.fro 2 rfl 0
      have z1 := HS2.out.cell 2 rfl 1 (.int .i64 0) rfl
      have zf1 := HS2.out.fro 2 rfl 1
      have z2 := HS2.out.cell 2 rfl 2 (.slice none 0 0) rfl
      have zf2 := HS2.out.fro 2 rfl 2
      have z3 := HS2.out.cell 2 rfl 3 (.slice none 0 0) rfl
      have zf3 := HS2.out.fro 2 rfl 3
      have y0 := HS2.out.cell 3 rfl 0 (.int .i64 0) rfl
      have yf0 := HS2.out.fro 3 rfl 0
      have y1 := HS2.out.cell 3 rfl 1 (.int .i64 0) rfl
      have yf1 := HS2.out.fro 3 rfl 1
      have y2 := HS2.out.cell 3 rfl 2 (.int .i64 0) rfl
      have yf2 := HS2.out.fro 3 rfl 2
      have y3 := HS2.out.cell 3 rfl 3 (.int .i64 0) rfl
      have yf3 := HS2.out.fro 3 rfl 3
      have y4 := HS2.out.cell 3 rfl 4 (.slice none 0 0) rfl
      have yf4 := HS2.out.fro 3 rfl 4
      go_wp2_with fail
      clear lt0 lt1 lt2 lt3 p0 p1 p2 p3 z0 zf0 z1 zf1 z2 zf2 z3 zf3 y0 yf0 y1 yf1 y2 yf2 y3 yf3 y4 yf4
      obtain ⟨V, hX9, HS3⟩ : ∃ X, X = (((((((((w3.setCell ⟨w.heap.size + 1 + 1, 0, none⟩ (.int .i64 i)).setCell ⟨w.heap.size + 1 + 1, 1, none⟩ (.int .i64 s9)).setCell ⟨w.heap.size + 1 + 1, 2, none⟩ (.slice a1 xs.length c1)).setCell ⟨w.heap.size + 1 + 1, 3, none⟩ (.slice a2 ts.length c2)).setCell ⟨w.heap.size + 1 + 1 + 1, 0, none⟩ (.int .i64 0)).setCell ⟨w.heap.size + 1 + 1 + 1, 1, none⟩ (.int .i64 0)).setCell ⟨w.heap.size + 1 + 1 + 1, 2, none⟩ (.int .i64 0)).setCell ⟨w.heap.size + 1 + 1 + 1, 3, none⟩ (.int .i64 0)).setCell ⟨w.heap.size + 1 + 1 + 1, 4, none⟩ (.slice none 0 0)) ∧ Hid (St B w [⟨w.heap.size, 49, #[.int .i64 i, .int .i64 s9, .slice a1 xs.length c1, .slice a2 ts.length c2]⟩, ⟨w.heap.size + 1, 33, #[.int .i64 5, .int .i64 cl, .int .i64 i, .int .i64 nc, .slice (some ⟨g2, 0, none⟩) ys.length cap]⟩, ⟨w.heap.size + 1 + 1, 49, #[.int .i64 i, .int .i64 s9, .slice a1 xs.length c1, .slice a2 ts.length c2]⟩, ⟨w.heap.size + 1 + 1 + 1, 33, #[.int .i64 0, .int .i64 0, .int .i64 0, .int .i64 0, .slice none 0 0]⟩] [⟨(selT 64), fun W => OwnS W B (.slice a1 xs.length c1) xs⟩, ⟨(selT 90), fun W => OwnN celC 90 W B (.slice a2 ts.length c2) ts⟩] X) := ⟨_, rfl, Hid.mk' (by
        have h := (St.put5 3 (St.put4 2 HS2.out rfl rfl (.int .i64 i) (.int .i64 s9) (.slice a1 xs.length c1) (.slice a2 ts.length c2)) rfl rfl (.int .i64 0) (.int .i64 0) (.int .i64 0) (.int .i64 0) (.slice none 0 0))
        try simp only [World.size_alloc] at h
        try simp only [World.size_setCell] at h
        exact h)⟩
      rw [← hX9]
      clear hX9
      clear HS2
      have y0 := HS3.out.cell 2 rfl 0 (.int .i64 i) rfl
      have y1 := HS3.out.cell 2 rfl 1 (.int .i64 s9) rfl
      have y2 := HS3.out.cell 2 rfl 2 (.slice a1 xs.length c1) rfl
      have y3 := HS3.out.cell 2 rfl 3 (.slice a2 ts.length c2) rfl
      have z0 := HS3.out.cell 3 rfl 0 (.int .i64 0) rfl
      have z1 := HS3.out.cell 3 rfl 1 (.int .i64 0) rfl
      have z2 := HS3.out.cell 3 rfl 2 (.int .i64 0) rfl
      have z3 := HS3.out.cell 3 rfl 3 (.int .i64 0) rfl
      have z4 := HS3.out.cell 3 rfl 4 (.slice none 0 0) rfl
      refine bodyPost_ret (v := .tuple #[.agg #[.int .i64 i, .int .i64 s9, .slice a1 xs.length c1, .slice a2 ts.length c2], .agg #[.int .i64 0, .int .i64 0, .int .i64 0, .int .i64 0, .slice none 0 0], .bool false]) (by simp [results, Tryd.results42, go_sem, *]) rfl ?_
      rw [EA.out]
      exact ⟨⟨a1, c1, a2, c2, none, 0, V.heap.size, rfl, HS3.out.of 0 rfl, HS3.out.of 1 rfl, OwnS.nil _ _, HS3.out.sz, fun k hk => (OwnS.low (HS3.out.of 0 rfl) k hk).2⟩, HS3.out.bel⟩
    have hau := shB_auth HSB.out HY.out.2.2
    obtain ⟨L, hL⟩ : ∃ L, L = withL now xs u := ⟨_, rfl⟩
    obtain ⟨tb, htb⟩ : ∃ tb, tb = takes now xs u := ⟨_, rfl⟩
    have HC : Hid (takes now xs u = tb ∧ withL now xs u = L ∧ (0 ≤ u.b ∧ u.b ≤ 100)) := ⟨htb.symm, hL.symm, by obtain ⟨_, _, _, _, _, _, e1, e2, _⟩ := auth_parts hau; exact ⟨e1, e2⟩⟩
    have EG2 : Hid (askH i s9 xs ts 5 cl i nc ys now = if tb = true then ⟨i, s9, L, ts ++ [⟨u.a, u.k, u.b, u.c⟩], 6, u.a, 0, 0, [backS u], true⟩ else keepH i s9 L ts) := Hid.mk' (by rw [EG.out, hL, htb]; unfold giveH; rw [if_pos ⟨HSB.out, by have h9 := HLE.out; simp at h9; omega⟩])
    clear hL htb hau EG HLE
    obtain ⟨r0, r1, r2, r3, r4, r5, r6⟩ := (srow_two' (srow_base HH.out.1 HH.out.2 HS2.out.bel) HY.out.1).2
    have lt0 : w.heap.size < w3.heap.size := (HS2.out.lt 0 rfl).2
    have lt1 : w.heap.size + 1 < w3.heap.size := (HS2.out.lt 1 rfl).2
    have lt2 : w.heap.size + 1 + 1 < w3.heap.size := (HS2.out.lt 2 rfl).2
    have lt3 : w.heap.size + 1 + 1 + 1 < w3.heap.size := (HS2.out.lt 3 rfl).2
    have hlt3 : w.heap.size < w3.heap.size := lt0
    have p0 := HS2.out.cell 0 rfl 0 (.int .i64 i) rfl
    have p1 := HS2.out.cell 0 rfl 1 (.int .i64 s9) rfl
    have p2 := HS2.out.cell 0 rfl 2 (.slice a1 xs.length c1) rfl
    have p3 := HS2.out.cell 0 rfl 3 (.slice a2 ts.length c2) rfl
    have m0 := HS2.out.cell 1 rfl 0 (.int .i64 5) rfl
    have m1 := HS2.out.cell 1 rfl 1 (.int .i64 cl) rfl
    have m2 := HS2.out.cell 1 rfl 2 (.int .i64 i) rfl
    have m3 := HS2.out.cell 1 rfl 3 (.int .i64 nc) rfl
    have m4 := HS2.out.cell 1 rfl 4 (.slice (some ⟨g2, 0, none⟩) ys.length cap) rfl
    go_wp2_with fail
    clear lt0 lt1 lt2 lt3 p0 p1 p2 p3 m0 m1 m2 m3 m4
    clear r0 r1 r2 r3 r4 r5 r6
    obtain ⟨w4, hX9, HS3⟩ : ∃ X, X = (w3.alloc (.cells #[.int .i64 u.k, .int .i64 u.t, .int .i64 u.a, .int .i64 u.b, .int .i64 u.c, .int .i64 u.d, .int .i64 u.e] 64)) ∧ Hid (St B w [⟨w.heap.size, 49, #[.int .i64 i, .int .i64 s9, .slice a1 xs.length c1, .slice a2 ts.length c2]⟩, ⟨w.heap.size + 1, 33, #[.int .i64 5, .int .i64 cl, .int .i64 i, .int .i64 nc, .slice (some ⟨g2, 0, none⟩) ys.length cap]⟩, ⟨w.heap.size + 1 + 1, 49, #[.int .i64 0, .int .i64 0, .slice none 0 0, .slice none 0 0]⟩, ⟨w.heap.size + 1 + 1 + 1, 33, #[.int .i64 0, .int .i64 0, .int .i64 0, .int .i64 0, .slice none 0 0]⟩, ⟨w3.heap.size, 64, #[.int .i64 u.k, .int .i64 u.t, .int .i64 u.a, .int .i64 u.b, .int .i64 u.c, .int .i64 u.d, .int .i64 u.e]⟩] [⟨(selT 64), fun W => OwnS W B (.slice a1 xs.length c1) xs⟩, ⟨(selT 90), fun W => OwnN celC 90 W B (.slice a2 ts.length c2) ts⟩] X) := ⟨_, rfl, Hid.mk' (by
      have h := (St.alloc #[.int .i64 u.k, .int .i64 u.t, .int .i64 u.a, .int .i64 u.b, .int .i64 u.c, .int .i64 u.d, .int .i64 u.e] 64 HS2.out)
      try simp only [World.size_alloc] at h
      try simp only [World.size_setCell] at h
      exact h)⟩
    rw [← hX9]
    clear hX9
    clear HS2
    have hB4 := HS3.out.sz
    refine (l11With_any a1 c1 xs u now _ (OwnS.rowAt (HS3.out.of 0 rfl)) ⟨HL.out.1, HL.out.2.1⟩ (by omega) HL.out.2.2 HC.out.2.2).mono ?_
    rintro r w5 ⟨⟨v, rfl, o8⟩, b9⟩
    rw [HC.out.2.1] at o8
    rw [HC.out.1]
    obtain ⟨av, cv, rfl, _⟩ := o8.row
    have HS4 : Hid (St B w [⟨w.heap.size, 49, #[.int .i64 i, .int .i64 s9, .slice a1 xs.length c1, .slice a2 ts.length c2]⟩, ⟨w.heap.size + 1, 33, #[.int .i64 5, .int .i64 cl, .int .i64 i, .int .i64 nc, .slice (some ⟨g2, 0, none⟩) ys.length cap]⟩, ⟨w.heap.size + 1 + 1, 49, #[.int .i64 0, .int .i64 0, .slice none 0 0, .slice none 0 0]⟩, ⟨w.heap.size + 1 + 1 + 1, 33, #[.int .i64 0, .int .i64 0, .int .i64 0, .int .i64 0, .slice none 0 0]⟩, ⟨w3.heap.size, 64, #[.int .i64 u.k, .int .i64 u.t, .int .i64 u.a, .int .i64 u.b, .int .i64 u.c, .int .i64 u.d, .int .i64 u.e]⟩] [⟨(selT 64), fun W => OwnS W B (.slice a1 xs.length c1) xs⟩, ⟨(selT 90), fun W => OwnN celC 90 W B (.slice a2 ts.length c2) ts⟩] w5) := Hid.mk' (by
      have h := St.grow b9 HS3.out
      try simp only [World.size_alloc] at h
      try simp only [World.size_setCell] at h
      exact h)
    clear HS3
    clear b9
    have HS5 : Hid (St B w [⟨w.heap.size, 49, #[.int .i64 i, .int .i64 s9, .slice a1 xs.length c1, .slice a2 ts.length c2]⟩, ⟨w.heap.size + 1, 33, #[.int .i64 5, .int .i64 cl, .int .i64 i, .int .i64 nc, .slice (some ⟨g2, 0, none⟩) ys.length cap]⟩, ⟨w.heap.size + 1 + 1, 49, #[.int .i64 0, .int .i64 0, .slice none 0 0, .slice none 0 0]⟩, ⟨w.heap.size + 1 + 1 + 1, 33, #[.int .i64 0, .int .i64 0, .int .i64 0, .int .i64 0, .slice none 0 0]⟩, ⟨w3.heap.size, 64, #[.int .i64 u.k, .int .i64 u.t, .int .i64 u.a, .int .i64 u.b, .int .i64 u.c, .int .i64 u.d, .int .i64 u.e]⟩] [⟨(selT 64), fun W => OwnS W B (.slice av L.length cv) L⟩, ⟨(selT 90), fun W => OwnN celC 90 W B (.slice a2 ts.length c2) ts⟩] w5) := Hid.mk' (by
      have h := St.setR HS4.out 0 (selT 64) (fun W => OwnS W B (.slice av L.length cv) L) (keep_owns _ _ _) (OwnS.less o8 hB4)
      try simp only [World.size_alloc] at h
      try simp only [World.size_setCell] at h
      exact h)
    clear HS4
    clear o8 hB4
    have lt0 : w.heap.size < w5.heap.size := (HS5.out.lt 0 rfl).2
    have lt1 : w.heap.size + 1 < w5.heap.size := (HS5.out.lt 1 rfl).2
    have lt2 : w.heap.size + 1 + 1 < w5.heap.size := (HS5.out.lt 2 rfl).2
    have lt3 : w.heap.size + 1 + 1 + 1 < w5.heap.size := (HS5.out.lt 3 rfl).2
    have lt4 : w3.heap.size < w5.heap.size := (HS5.out.lt 4 rfl).2
    have p0 := HS5.out.cell 0 rfl 0 (.int .i64 i) rfl
    have pf0 := HS5.out.fro 0 rfl 0
    have p1 := HS5.out.cell 0 rfl 1 (.int .i64 s9) rfl
    have pf1 := HS5.out.fro 0 rfl 1
    have p2 := HS5.out.cell 0 rfl 2 (.slice a1 xs.length c1) rfl
    have pf2 := HS5.out.fro 0 rfl 2
    have p3 := HS5.out.cell 0 rfl 3 (.slice a2 ts.length c2) rfl
    have pf3 := HS5.out.fro 0 rfl 3
    cases tb
    · skip
      have EA : Hid (askH i s9 xs ts 5 cl i nc ys now = keepH i s9 L ts) := Hid.mk' (by rw [EG2.out]; simp)
      have z0 := HS5.out.cell 2 rfl 0 (.int .i64 0) rfl
      have zf0 := HS5.out.fro 2 rfl 0
      have z1 := HS5.out.cell 2 rfl 1 (.int .i64 0) rfl
      have zf1 := HS5.out.fro 2 rfl 1
      have z2 := HS5.out.cell 2 rfl 2 (.slice none 0 0) rfl
      have zf2 := HS5.out.fro 2 rfl 2
      have z3 := HS5.out.cell 2 rfl 3 (.slice none 0 0) rfl
      have zf3 := HS5.out.fro 2 rfl 3
      have y0 := HS5.out.cell 3 rfl 0 (.int .i64 0) rfl
      have yf0 := HS5.out.fro 3 rfl 0
      have y1 := HS5.out.cell 3 rfl 1 (.int .i64 0) rfl
      have yf1 := HS5.out.fro 3 rfl 1
      have y2 := HS5.out.cell 3 rfl 2 (.int .i64 0) rfl
      have yf2 := HS5.out.fro 3 rfl 2
      have y3 := HS5.out.cell 3 rfl 3 (.int .i64 0) rfl
      have yf3 := HS5.out.fro 3 rfl 3
      have y4 := HS5.out.cell 3 rfl 4 (.slice none 0 0) rfl
      have yf4 := HS5.out.fro 3 rfl 4
      go_wp2_with fail
      clear lt0 lt1 lt2 lt3 lt4 p0 pf0 p1 pf1 p2 pf2 p3 pf3 z0 zf0 z1 zf1 z2 zf2 z3 zf3 y0 yf0 y1 yf1 y2 yf2 y3 yf3 y4 yf4
      obtain ⟨V, hX9, HS6⟩ : ∃ X, X = ((((((((((w5.setCell ⟨w.heap.size, 2, none⟩ (.slice av L.length cv)).setCell ⟨w.heap.size + 1 + 1, 0, none⟩ (.int .i64 i)).setCell ⟨w.heap.size + 1 + 1, 1, none⟩ (.int .i64 s9)).setCell ⟨w.heap.size + 1 + 1, 2, none⟩ (.slice av L.length cv)).setCell ⟨w.heap.size + 1 + 1, 3, none⟩ (.slice a2 ts.length c2)).setCell ⟨w.heap.size + 1 + 1 + 1, 0, none⟩ (.int .i64 0)).setCell ⟨w.heap.size + 1 + 1 + 1, 1, none⟩ (.int .i64 0)).setCell ⟨w.heap.size + 1 + 1 + 1, 2, none⟩ (.int .i64 0)).setCell ⟨w.heap.size + 1 + 1 + 1, 3, none⟩ (.int .i64 0)).setCell ⟨w.heap.size + 1 + 1 + 1, 4, none⟩ (.slice none 0 0)) ∧ Hid (St B w [⟨w.heap.size, 49, #[.int .i64 i, .int .i64 s9, .slice av L.length cv, .slice a2 ts.length c2]⟩, ⟨w.heap.size + 1, 33, #[.int .i64 5, .int .i64 cl, .int .i64 i, .int .i64 nc, .slice (some ⟨g2, 0, none⟩) ys.length cap]⟩, ⟨w.heap.size + 1 + 1, 49, #[.int .i64 i, .int .i64 s9, .slice av L.length cv, .slice a2 ts.length c2]⟩, ⟨w.heap.size + 1 + 1 + 1, 33, #[.int .i64 0, .int .i64 0, .int .i64 0, .int .i64 0, .slice none 0 0]⟩, ⟨w3.heap.size, 64, #[.int .i64 u.k, .int .i64 u.t, .int .i64 u.a, .int .i64 u.b, .int .i64 u.c, .int .i64 u.d, .int .i64 u.e]⟩] [⟨(selT 64), fun W => OwnS W B (.slice av L.length cv) L⟩, ⟨(selT 90), fun W => OwnN celC 90 W B (.slice a2 ts.length c2) ts⟩] X) := ⟨_, rfl, Hid.mk' (by
        have h := (St.put5 3 (St.put4 2 (St.set 0 (q := 2) (v := .slice av L.length cv) HS5.out rfl rfl) rfl rfl (.int .i64 i) (.int .i64 s9) (.slice av L.length cv) (.slice a2 ts.length c2)) rfl rfl (.int .i64 0) (.int .i64 0) (.int .i64 0) (.int .i64 0) (.slice none 0 0))
        try simp only [World.size_alloc] at h
        try simp only [World.size_setCell] at h
        exact h)⟩
      rw [← hX9]
      clear hX9
      clear HS5
      have y0 := HS6.out.cell 2 rfl 0 (.int .i64 i) rfl
      have y1 := HS6.out.cell 2 rfl 1 (.int .i64 s9) rfl
      have y2 := HS6.out.cell 2 rfl 2 (.slice av L.length cv) rfl
      have y3 := HS6.out.cell 2 rfl 3 (.slice a2 ts.length c2) rfl
      have z0 := HS6.out.cell 3 rfl 0 (.int .i64 0) rfl
      have z1 := HS6.out.cell 3 rfl 1 (.int .i64 0) rfl
      have z2 := HS6.out.cell 3 rfl 2 (.int .i64 0) rfl
      have z3 := HS6.out.cell 3 rfl 3 (.int .i64 0) rfl
      have z4 := HS6.out.cell 3 rfl 4 (.slice none 0 0) rfl
      refine bodyPost_ret (v := .tuple #[.agg #[.int .i64 i, .int .i64 s9, .slice av L.length cv, .slice a2 ts.length c2], .agg #[.int .i64 0, .int .i64 0, .int .i64 0, .int .i64 0, .slice none 0 0], .bool false]) (by simp [results, Tryd.results42, go_sem, *]) rfl ?_
      rw [EA.out]
      exact ⟨⟨av, cv, a2, c2, none, 0, V.heap.size, rfl, HS6.out.of 0 rfl, HS6.out.of 1 rfl, OwnS.nil _ _, HS6.out.sz, fun k hk => (OwnS.low (HS6.out.of 0 rfl) k hk).2⟩, HS6.out.bel⟩
    have EA : Hid (askH i s9 xs ts 5 cl i nc ys now = ⟨i, s9, L, ts ++ [⟨u.a, u.k, u.b, u.c⟩], 6, u.a, 0, 0, [backS u], true⟩) := Hid.mk' (by rw [EG2.out]; simp)
    clear EG2
    have r0 := HS5.out.cell 4 rfl 0 (.int .i64 u.k) rfl
    have r1 := HS5.out.cell 4 rfl 1 (.int .i64 u.t) rfl
    have r2 := HS5.out.cell 4 rfl 2 (.int .i64 u.a) rfl
    have r3 := HS5.out.cell 4 rfl 3 (.int .i64 u.b) rfl
    have r4 := HS5.out.cell 4 rfl 4 (.int .i64 u.c) rfl
    have r5 := HS5.out.cell 4 rfl 5 (.int .i64 u.d) rfl
    have r6 := HS5.out.cell 4 rfl 6 (.int .i64 u.e) rfl
    have la1 : w.heap.size < w5.heap.size + 1 := by omega
    have la5 : ¬ w.heap.size = w5.heap.size + 1 := by omega
    have la6 : ¬ w.heap.size = w5.heap.size := by omega
    have la7 : ¬ w.heap.size = w3.heap.size := by omega
    have la8 : ¬ w3.heap.size = w.heap.size := by omega
    go_wp2_with (at_builtin; apply stopHereH)
    clear lt0 lt1 lt2 lt3 lt4 p0 pf0 p1 pf1 p2 pf2 p3 pf3 r0 r1 r2 r3 r4 r5 r6
    intro hst
    clear hst la1 la5 la6
    have HR : Hid (St B w [⟨w.heap.size, 49, #[.int .i64 i, .int .i64 s9, .slice av L.length cv, .slice a2 ts.length c2]⟩, ⟨w.heap.size + 1, 33, #[.int .i64 5, .int .i64 cl, .int .i64 i, .int .i64 nc, .slice (some ⟨g2, 0, none⟩) ys.length cap]⟩, ⟨w.heap.size + 1 + 1, 49, #[.int .i64 0, .int .i64 0, .slice none 0 0, .slice none 0 0]⟩, ⟨w.heap.size + 1 + 1 + 1, 33, #[.int .i64 0, .int .i64 0, .int .i64 0, .int .i64 0, .slice none 0 0]⟩, ⟨w3.heap.size, 64, #[.int .i64 u.k, .int .i64 u.t, .int .i64 u.a, .int .i64 u.b, .int .i64 u.c, .int .i64 u.d, .int .i64 u.e]⟩] [⟨(selT 64), fun W => OwnS W B (.slice av L.length cv) L⟩, ⟨(selT 90), fun W => OwnN celC 90 W B (.slice a2 ts.length c2) ts⟩] (((w5.setCell ⟨w.heap.size, 2, none⟩ (.slice av L.length cv)).alloc (.cells #[.int .i64 u.a, .int .i64 u.k, .int .i64 u.b, .int .i64 u.c] 90)).alloc (.cells #[.int .i64 u.a, .int .i64 u.k, .int .i64 u.b, .int .i64 u.c] 90))) := Hid.mk' (by
      have h := (St.lay (.cells #[.int .i64 u.a, .int .i64 u.k, .int .i64 u.b, .int .i64 u.c] 90) (St.lay (.cells #[.int .i64 u.a, .int .i64 u.k, .int .i64 u.b, .int .i64 u.c] 90) (St.set 0 (q := 2) (v := .slice av L.length cv) HS5.out rfl rfl)))
      try simp only [World.size_alloc] at h
      try simp only [World.size_setCell] at h
      exact h)
    have HN : Hid (NRow celC (((w5.setCell ⟨w.heap.size, 2, none⟩ (.slice av L.length cv)).alloc (.cells #[.int .i64 u.a, .int .i64 u.k, .int .i64 u.b, .int .i64 u.c] 90)).alloc (.cells #[.int .i64 u.a, .int .i64 u.k, .int .i64 u.b, .int .i64 u.c] 90)) (some ⟨w5.heap.size + 1, 0, none⟩) [⟨u.a, u.k, u.b, u.c⟩]) := Hid.mk' (by
      have h := nrow_newC ((w5.setCell ⟨w.heap.size, 2, none⟩ (.slice av L.length cv)).alloc (.cells #[.int .i64 u.a, .int .i64 u.k, .int .i64 u.b, .int .i64 u.c] 90)) ⟨u.a, u.k, u.b, u.c⟩
      simp only [World.size_alloc, World.size_setCell] at h
      exact h)
    have hO := HR.out.of 1 rfl
    refine wpList_app_one celC _ 90 47 32 _ Tryd.underlying47 infoCall rfl (by omega) rfl (.tmp 84) (.tmp 86) rfl B (.slice a2 ts.length c2) ts rfl hO (some ⟨w5.heap.size + 1, 0, none⟩) ⟨u.a, u.k, u.b, u.c⟩ 1 rfl HN.out (by omega) HR.out.sz ?_
    intro b5 c5 w6 o5 g5 k5
    clear k5
    generalize hWS : (ts ++ [(⟨u.a, u.k, u.b, u.c⟩ : Ca)]) = WS at o5 EA ⊢
    clear hWS
    have HS6 : Hid (St B w [⟨w.heap.size, 49, #[.int .i64 i, .int .i64 s9, .slice av L.length cv, .slice a2 ts.length c2]⟩, ⟨w.heap.size + 1, 33, #[.int .i64 5, .int .i64 cl, .int .i64 i, .int .i64 nc, .slice (some ⟨g2, 0, none⟩) ys.length cap]⟩, ⟨w.heap.size + 1 + 1, 49, #[.int .i64 0, .int .i64 0, .slice none 0 0, .slice none 0 0]⟩, ⟨w.heap.size + 1 + 1 + 1, 33, #[.int .i64 0, .int .i64 0, .int .i64 0, .int .i64 0, .slice none 0 0]⟩, ⟨w3.heap.size, 64, #[.int .i64 u.k, .int .i64 u.t, .int .i64 u.a, .int .i64 u.b, .int .i64 u.c, .int .i64 u.d, .int .i64 u.e]⟩] [⟨(selT 64), fun W => OwnS W B (.slice av L.length cv) L⟩, ⟨(selT 90), fun W => OwnN celC 90 W B (.slice b5 WS.length c5) WS⟩] w6) := Hid.mk' (by
      have h := St.appR HR.out 1 90 (fun b e => ⟨(hO.lt b e).1, hO.type e⟩) g5 rfl (fun _ => rfl) (selT 90) (fun W => OwnN celC 90 W B (.slice b5 WS.length c5) WS) (keep_own celC _ _ _ _) o5
      try simp only [World.size_alloc] at h
      try simp only [World.size_setCell] at h
      exact h)
    clear HS5
    clear hO o5 g5 HR HN
    have p0 := HS6.out.cell 0 rfl 0 (.int .i64 i) rfl
    have pf0 := HS6.out.fro 0 rfl 0
    have p1 := HS6.out.cell 0 rfl 1 (.int .i64 s9) rfl
    have pf1 := HS6.out.fro 0 rfl 1
    have p2 := HS6.out.cell 0 rfl 2 (.slice av L.length cv) rfl
    have pf2 := HS6.out.fro 0 rfl 2
    have p3 := HS6.out.cell 0 rfl 3 (.slice a2 ts.length c2) rfl
    have pf3 := HS6.out.fro 0 rfl 3
    have r0 := HS6.out.cell 4 rfl 0 (.int .i64 u.k) rfl
    have r1 := HS6.out.cell 4 rfl 1 (.int .i64 u.t) rfl
    have r2 := HS6.out.cell 4 rfl 2 (.int .i64 u.a) rfl
    have r3 := HS6.out.cell 4 rfl 3 (.int .i64 u.b) rfl
    have r4 := HS6.out.cell 4 rfl 4 (.int .i64 u.c) rfl
    have r5 := HS6.out.cell 4 rfl 5 (.int .i64 u.d) rfl
    have r6 := HS6.out.cell 4 rfl 6 (.int .i64 u.e) rfl
    have lt0 : w.heap.size < w6.heap.size := (HS6.out.lt 0 rfl).2
    have lt1 : w.heap.size + 1 < w6.heap.size := (HS6.out.lt 1 rfl).2
    have lt2 : w.heap.size + 1 + 1 < w6.heap.size := (HS6.out.lt 2 rfl).2
    have lt3 : w.heap.size + 1 + 1 + 1 < w6.heap.size := (HS6.out.lt 3 rfl).2
    have lt4 : w3.heap.size < w6.heap.size := (HS6.out.lt 4 rfl).2
    go_wp2_with fail
    clear p0 pf0 p1 pf1 p2 pf2 p3 pf3 r0 r1 r2 r3 r4 r5 r6 lt0 lt1 lt2 lt3 lt4
    obtain ⟨w7, hX9, HS7⟩ : ∃ X, X = ((w6.setCell ⟨w.heap.size, 3, none⟩ (.slice b5 WS.length c5)).alloc (.cells #[.int .i64 u.k, .int .i64 4, .int .i64 u.b, .int .i64 u.c, .int .i64 0, .int .i64 0, .int .i64 0] 64)) ∧ Hid (St B w [⟨w.heap.size, 49, #[.int .i64 i, .int .i64 s9, .slice av L.length cv, .slice b5 WS.length c5]⟩, ⟨w.heap.size + 1, 33, #[.int .i64 5, .int .i64 cl, .int .i64 i, .int .i64 nc, .slice (some ⟨g2, 0, none⟩) ys.length cap]⟩, ⟨w.heap.size + 1 + 1, 49, #[.int .i64 0, .int .i64 0, .slice none 0 0, .slice none 0 0]⟩, ⟨w.heap.size + 1 + 1 + 1, 33, #[.int .i64 0, .int .i64 0, .int .i64 0, .int .i64 0, .slice none 0 0]⟩, ⟨w3.heap.size, 64, #[.int .i64 u.k, .int .i64 u.t, .int .i64 u.a, .int .i64 u.b, .int .i64 u.c, .int .i64 u.d, .int .i64 u.e]⟩, ⟨w6.heap.size, 64, #[.int .i64 u.k, .int .i64 4, .int .i64 u.b, .int .i64 u.c, .int .i64 0, .int .i64 0, .int .i64 0]⟩] [⟨(selT 64), fun W => OwnS W B (.slice av L.length cv) L⟩, ⟨(selT 90), fun W => OwnN celC 90 W B (.slice b5 WS.length c5) WS⟩] X) := ⟨_, rfl, Hid.mk' (by
      have h := (St.alloc #[.int .i64 u.k, .int .i64 4, .int .i64 u.b, .int .i64 u.c, .int .i64 0, .int .i64 0, .int .i64 0] 64 (St.set 0 (q := 3) (v := .slice b5 WS.length c5) HS6.out rfl rfl))
      try simp only [World.size_alloc] at h
      try simp only [World.size_setCell] at h
      exact h)⟩
    rw [← hX9]
    clear hX9
    clear HS6
    have hlo : ∀ k, (Value.slice av L.length cv).ownBlock = some k → k < w7.heap.size := fun k hk => (OwnS.low (HS7.out.of 0 rfl) k hk).2
    have HZ : Hid (B ≤ w7.heap.size ∧ ∀ k, (Value.slice av L.length cv).ownBlock = some k → k < w7.heap.size) := ⟨HS7.out.sz, hlo⟩
    clear hlo
    refine wp_region_walk [8, 96, 97, 98, 99, 100, 101] (fun d s W => St B w [⟨w.heap.size, 49, #[.int .i64 i, .int .i64 s9, .slice av L.length cv, .slice b5 WS.length c5]⟩, ⟨w.heap.size + 1, 33, #[.int .i64 5, .int .i64 cl, .int .i64 i, .int .i64 nc, .slice (some ⟨g2, 0, none⟩) ys.length cap]⟩, ⟨w.heap.size + 1 + 1, 49, bif d 6 then #[.int .i64 i, .int .i64 s9, .slice av L.length cv, .slice b5 WS.length c5] else #[.int .i64 0, .int .i64 0, .slice none 0 0, .slice none 0 0]⟩, ⟨w.heap.size + 1 + 1 + 1, 33, bif d 7 then #[.int .i64 6, .int .i64 u.a, .int .i64 0, .int .i64 0, .slice (some ⟨w7.heap.size, 0, none⟩) 1 1] else #[.int .i64 0, .int .i64 0, .int .i64 0, .int .i64 0, .slice none 0 0]⟩, ⟨w3.heap.size, 64, #[.int .i64 u.k, .int .i64 u.t, .int .i64 u.a, .int .i64 u.b, .int .i64 u.c, .int .i64 u.d, .int .i64 u.e]⟩, ⟨w6.heap.size, 64, #[.int .i64 u.k, .int .i64 4, .int .i64 u.b, .int .i64 u.c, .int .i64 0, .int .i64 0, .int .i64 0]⟩] [⟨(selT 64), fun W => OwnS W B (.slice av L.length cv) L⟩, ⟨(selT 90), fun W => OwnN celC 90 W B (.slice b5 WS.length c5) WS⟩, ⟨(selT 64), fun W => d 4 = true → OwnS W w7.heap.size (.slice (some ⟨w7.heap.size, 0, none⟩) 1 1) [backS u]⟩] W ∧ Looks [(0, 96, Value.agg #[.int .i64 i, .int .i64 s9, .slice av L.length cv, .slice b5 WS.length c5]), (1, 97, Value.pointer (some ⟨w3.heap.size, 2, none⟩)), (2, 98, Value.int .i64 u.a), (3, 99, Value.agg #[.int .i64 u.k, .int .i64 4, .int .i64 u.b, .int .i64 u.c, .int .i64 0, .int .i64 0, .int .i64 0]), (4, 100, Value.slice (some ⟨w7.heap.size, 0, none⟩) 1 1), (5, 101, Value.agg #[.int .i64 6, .int .i64 u.a, .int .i64 0, .int .i64 0, .slice (some ⟨w7.heap.size, 0, none⟩) 1 1]), (8, 8, .bool true)] d s ∧ (d 4 = false → W.heap.size = w7.heap.size)) [0, 1, 2, 3, 4, 5, 6, 7, 8] (by kernel_rfl) (by kernel_rfl) (by kernel_rfl) ?_ ?_ ?_
    · intro s
      exact ⟨St.add (selT 64) (fun W => (fun _ : Nat => false) 4 = true → OwnS W w7.heap.size (.slice (some ⟨w7.heap.size, 0, none⟩) 1 1) [backS u]) (keep_imp _ (keep_owns _ _ _)) (fun e => by cases e) HS7.out.drew, Looks.none _ _, fun _ => rfl⟩
    · refine StepsR.cons (k := 0) [] (by kernel_rfl) ?_ (StepsR.cons (k := 1) [] (by kernel_rfl) ?_ (StepsR.cons (k := 2) [1] (by kernel_rfl) ?_ (StepsR.cons (k := 3) [] (by kernel_rfl) ?_ (StepsR.cons (k := 4) [3] (by kernel_rfl) ?_ (StepsR.cons (k := 5) [2, 4] (by kernel_rfl) ?_ (StepsR.cons (k := 6) [0] (by kernel_rfl) ?_ (StepsR.cons (k := 7) [5] (by kernel_rfl) ?_ (StepsR.cons (k := 8) [] (by kernel_rfl) ?_ (StepsR.nil)))))))))
      · intro d s w9 hd hA hC hF K hK
        have hB9 := hF.1.bel
        simp only [putL, putT, List.setIfInBounds_toArray, List.set_cons_zero, List.set_cons_succ]
        clear hB9
        as_aux_lemma =>
          have p0 := hF.1.cell 0 rfl 0 (.int .i64 i) rfl
          have p1 := hF.1.cell 0 rfl 1 (.int .i64 s9) rfl
          have p2 := hF.1.cell 0 rfl 2 (.slice av L.length cv) rfl
          have p3 := hF.1.cell 0 rfl 3 (.slice b5 WS.length c5) rfl
          go_simp
          clear p0 p1 p2 p3
          refine hK.out (updS s 96 (Value.agg #[.int .i64 i, .int .i64 s9, .slice av L.length cv, .slice b5 WS.length c5])) _ _ ?_ ⟨hF.1, hF.2.1.put 0 96 (Value.agg #[.int .i64 i, .int .i64 s9, .slice av L.length cv, .slice b5 WS.length c5]) rfl (by simp), hF.2.2⟩
          simp only [putL, putT, List.setIfInBounds_toArray, List.set_cons_zero, List.set_cons_succ]; rfl
      · intro d s w9 hd hA hC hF K hK
        have hB9 := hF.1.bel
        simp only [putL, putT, List.setIfInBounds_toArray, List.set_cons_zero, List.set_cons_succ]
        clear hB9
        as_aux_lemma =>
          go_simp
          refine hK.out (updS s 97 (Value.pointer (some ⟨w3.heap.size, 2, none⟩))) _ _ ?_ ⟨hF.1, hF.2.1.put 1 97 (Value.pointer (some ⟨w3.heap.size, 2, none⟩)) rfl (by simp), hF.2.2⟩
          simp only [putL, putT, List.setIfInBounds_toArray, List.set_cons_zero, List.set_cons_succ]; rfl
      · intro d s w9 hd hA hC hF K hK
        have hB9 := hF.1.bel
        simp only [putL, putT, List.setIfInBounds_toArray, List.set_cons_zero, List.set_cons_succ]
        clear hB9
        as_aux_lemma =>
          have eq1 : s 97 = Value.pointer (some ⟨w3.heap.size, 2, none⟩) := hF.2.1 (1, 97, Value.pointer (some ⟨w3.heap.size, 2, none⟩)) (by simp) (hA.1)
          rw [eq1]
          have p2 := hF.1.cell 4 rfl 2 (.int .i64 u.a) rfl
          go_simp
          clear p2
          refine hK.out (updS s 98 (Value.int .i64 u.a)) _ _ ?_ ⟨hF.1, hF.2.1.put 2 98 (Value.int .i64 u.a) rfl (by simp), hF.2.2⟩
          simp only [putL, putT, List.setIfInBounds_toArray, List.set_cons_zero, List.set_cons_succ]; rw [show updS s 98 (Value.int .i64 u.a) 97 = Value.pointer (some ⟨w3.heap.size, 2, none⟩) from eq1]; rfl
      · intro d s w9 hd hA hC hF K hK
        have hB9 := hF.1.bel
        simp only [putL, putT, List.setIfInBounds_toArray, List.set_cons_zero, List.set_cons_succ]
        clear hB9
        as_aux_lemma =>
          have p0 := hF.1.cell 5 rfl 0 (.int .i64 u.k) rfl
          have p1 := hF.1.cell 5 rfl 1 (.int .i64 4) rfl
          have p2 := hF.1.cell 5 rfl 2 (.int .i64 u.b) rfl
          have p3 := hF.1.cell 5 rfl 3 (.int .i64 u.c) rfl
          have p4 := hF.1.cell 5 rfl 4 (.int .i64 0) rfl
          have p5 := hF.1.cell 5 rfl 5 (.int .i64 0) rfl
          have p6 := hF.1.cell 5 rfl 6 (.int .i64 0) rfl
          go_simp
          clear p0 p1 p2 p3 p4 p5 p6
          refine hK.out (updS s 99 (Value.agg #[.int .i64 u.k, .int .i64 4, .int .i64 u.b, .int .i64 u.c, .int .i64 0, .int .i64 0, .int .i64 0])) _ _ ?_ ⟨hF.1, hF.2.1.put 3 99 (Value.agg #[.int .i64 u.k, .int .i64 4, .int .i64 u.b, .int .i64 u.c, .int .i64 0, .int .i64 0, .int .i64 0]) rfl (by simp), hF.2.2⟩
          simp only [putL, putT, List.setIfInBounds_toArray, List.set_cons_zero, List.set_cons_succ]; rfl
      · intro d s w9 hd hA hC hF K hK
        have hB9 := hF.1.bel
        simp only [putL, putT, List.setIfInBounds_toArray, List.set_cons_zero, List.set_cons_succ]
        clear hB9
        as_aux_lemma =>
          have eq3 : s 99 = Value.agg #[.int .i64 u.k, .int .i64 4, .int .i64 u.b, .int .i64 u.c, .int .i64 0, .int .i64 0, .int .i64 0] := hF.2.1 (3, 99, Value.agg #[.int .i64 u.k, .int .i64 4, .int .i64 u.b, .int .i64 u.c, .int .i64 0, .int .i64 0, .int .i64 0]) (by simp) (hA.1)
          rw [eq3]
          have hz9 := hF.2.2 hd
          have hO2 := own_one w9 (B := w7.heap.size) (by omega) (backS u)
          simp only [Region.wanted, if_true]
          refine wp_one (.tmp 99) rfl rfl rfl ?_
          rw [hz9] at hO2 ⊢
          refine hK.out (updS s 100 (Value.slice (some ⟨w7.heap.size, 0, none⟩) 1 1)) _ _ ?_ ⟨St.setR (St.lay _ hF.1) 2 (selT 64) (fun W => (upd d 4) 4 = true → OwnS W w7.heap.size (.slice (some ⟨w7.heap.size, 0, none⟩) 1 1) [backS u]) (keep_imp _ (keep_owns _ _ _)) (fun _ => hO2), hF.2.1.put 4 100 (Value.slice (some ⟨w7.heap.size, 0, none⟩) 1 1) rfl (by simp), (fun e => by cases e)⟩
          simp only [putL, putT, List.setIfInBounds_toArray, List.set_cons_zero, List.set_cons_succ]
          rw [show updS s 100 (Value.slice (some ⟨w7.heap.size, 0, none⟩) 1 1) 99 = Value.agg #[.int .i64 u.k, .int .i64 4, .int .i64 u.b, .int .i64 u.c, .int .i64 0, .int .i64 0, .int .i64 0] from eq3] <;> rfl
      · intro d s w9 hd hA hC hF K hK
        have hB9 := hF.1.bel
        simp only [putL, putT, List.setIfInBounds_toArray, List.set_cons_zero, List.set_cons_succ]
        clear hB9
        as_aux_lemma =>
          have eq2 : s 98 = Value.int .i64 u.a := hF.2.1 (2, 98, Value.int .i64 u.a) (by simp) (hA.1)
          have eq4 : s 100 = Value.slice (some ⟨w7.heap.size, 0, none⟩) 1 1 := hF.2.1 (4, 100, Value.slice (some ⟨w7.heap.size, 0, none⟩) 1 1) (by simp) (hA.2.1)
          rw [eq2, eq4]
          simp only [Region.wanted, if_true]
          refine wp_built 33 _ _ _ rfl (by simp only [List.map_toArray, List.map_cons, List.map_nil]; rfl) (bldMsgB w9 u.a w7.heap.size) ?_
          refine hK.out (updS s 101 (Value.agg #[.int .i64 6, .int .i64 u.a, .int .i64 0, .int .i64 0, .slice (some ⟨w7.heap.size, 0, none⟩) 1 1])) _ _ ?_ ⟨hF.1, hF.2.1.put 5 101 (Value.agg #[.int .i64 6, .int .i64 u.a, .int .i64 0, .int .i64 0, .slice (some ⟨w7.heap.size, 0, none⟩) 1 1]) rfl (by simp), hF.2.2⟩
          simp only [putL, putT, List.setIfInBounds_toArray, List.set_cons_zero, List.set_cons_succ]; rw [show updS s 101 (Value.agg #[.int .i64 6, .int .i64 u.a, .int .i64 0, .int .i64 0, .slice (some ⟨w7.heap.size, 0, none⟩) 1 1]) 98 = Value.int .i64 u.a from eq2, show updS s 101 (Value.agg #[.int .i64 6, .int .i64 u.a, .int .i64 0, .int .i64 0, .slice (some ⟨w7.heap.size, 0, none⟩) 1 1]) 100 = Value.slice (some ⟨w7.heap.size, 0, none⟩) 1 1 from eq4]; rfl
      · intro d s w9 hd hA hC hF K hK
        have hB9 := hF.1.bel
        simp only [putL, putT, List.setIfInBounds_toArray, List.set_cons_zero, List.set_cons_succ]
        clear hB9
        as_aux_lemma =>
          have eq0 : s 96 = Value.agg #[.int .i64 i, .int .i64 s9, .slice av L.length cv, .slice b5 WS.length c5] := hF.2.1 (0, 96, Value.agg #[.int .i64 i, .int .i64 s9, .slice av L.length cv, .slice b5 WS.length c5]) (by simp) (hA.1)
          rw [eq0]
          have hS := hF.1
          rw [hd] at hS
          simp only [cond_false] at hS
          have p0 := hS.cell 2 rfl 0 (.int .i64 0) rfl
          have pf0 := hS.fro 2 rfl 0
          have p1 := hS.cell 2 rfl 1 (.int .i64 0) rfl
          have pf1 := hS.fro 2 rfl 1
          have p2 := hS.cell 2 rfl 2 (.slice none 0 0) rfl
          have pf2 := hS.fro 2 rfl 2
          have p3 := hS.cell 2 rfl 3 (.slice none 0 0) rfl
          have pf3 := hS.fro 2 rfl 3
          go_simp
          clear p0 pf0 p1 pf1 p2 pf2 p3 pf3
          refine hK.out s _ _ ?_ ⟨St.put4 2 hS rfl rfl (.int .i64 i) (.int .i64 s9) (.slice av L.length cv) (.slice b5 WS.length c5), hF.2.1.skip 6 rfl, (fun e => by simp only [World.size_setCell]; exact hF.2.2 e)⟩
          simp only [putL, putT, List.setIfInBounds_toArray, List.set_cons_zero, List.set_cons_succ]; rw [eq0] <;> rfl
      · intro d s w9 hd hA hC hF K hK
        have hB9 := hF.1.bel
        simp only [putL, putT, List.setIfInBounds_toArray, List.set_cons_zero, List.set_cons_succ]
        clear hB9
        as_aux_lemma =>
          have eq5 : s 101 = Value.agg #[.int .i64 6, .int .i64 u.a, .int .i64 0, .int .i64 0, .slice (some ⟨w7.heap.size, 0, none⟩) 1 1] := hF.2.1 (5, 101, Value.agg #[.int .i64 6, .int .i64 u.a, .int .i64 0, .int .i64 0, .slice (some ⟨w7.heap.size, 0, none⟩) 1 1]) (by simp) (hA.1)
          rw [eq5]
          have hS := hF.1
          rw [hd] at hS
          simp only [cond_false] at hS
          have p0 := hS.cell 3 rfl 0 (.int .i64 0) rfl
          have pf0 := hS.fro 3 rfl 0
          have p1 := hS.cell 3 rfl 1 (.int .i64 0) rfl
          have pf1 := hS.fro 3 rfl 1
          have p2 := hS.cell 3 rfl 2 (.int .i64 0) rfl
          have pf2 := hS.fro 3 rfl 2
          have p3 := hS.cell 3 rfl 3 (.int .i64 0) rfl
          have pf3 := hS.fro 3 rfl 3
          have p4 := hS.cell 3 rfl 4 (.slice none 0 0) rfl
          have pf4 := hS.fro 3 rfl 4
          go_simp
          clear p0 pf0 p1 pf1 p2 pf2 p3 pf3 p4 pf4
          refine hK.out s _ _ ?_ ⟨St.put5 3 hS rfl rfl (.int .i64 6) (.int .i64 u.a) (.int .i64 0) (.int .i64 0) (.slice (some ⟨w7.heap.size, 0, none⟩) 1 1), hF.2.1.skip 7 rfl, (fun e => by simp only [World.size_setCell]; exact hF.2.2 e)⟩
          simp only [putL, putT, List.setIfInBounds_toArray, List.set_cons_zero, List.set_cons_succ]; rw [eq5] <;> rfl
      · intro d s w9 hd hA hC hF K hK
        have hB9 := hF.1.bel
        simp only [putL, putT, List.setIfInBounds_toArray, List.set_cons_zero, List.set_cons_succ]
        clear hB9
        as_aux_lemma =>
          go_simp
          refine hK.out (updS s 8 (.bool true)) _ _ ?_ ⟨hF.1, hF.2.1.put 8 8 (.bool true) rfl (by simp), hF.2.2⟩
          simp only [putL, putT, List.setIfInBounds_toArray, List.set_cons_zero, List.set_cons_succ]; rfl
    · intro d s w8 hA hF
      have hS := hF.1
      rw [hA.2.2.2.2.2.2.1, hA.2.2.2.2.2.2.2.1] at hS
      simp only [cond_true] at hS
      have eq8 : s 8 = .bool true := hF.2.1 (8, 8, .bool true) (by simp) (hA.2.2.2.2.2.2.2.2.1)
      have oW := hS.of 2 rfl (hA.2.2.2.2.1)
      have hS := St.setR hS 2 (selT 64) (fun W => OwnS W w7.heap.size (.slice (some ⟨w7.heap.size, 0, none⟩) 1 1) [backS u]) (keep_owns _ _ _) oW
      clear oW
      have HS8 : Hid (St B w [⟨w.heap.size, 49, #[.int .i64 i, .int .i64 s9, .slice av L.length cv, .slice b5 WS.length c5]⟩, ⟨w.heap.size + 1, 33, #[.int .i64 5, .int .i64 cl, .int .i64 i, .int .i64 nc, .slice (some ⟨g2, 0, none⟩) ys.length cap]⟩, ⟨w.heap.size + 1 + 1, 49, #[.int .i64 i, .int .i64 s9, .slice av L.length cv, .slice b5 WS.length c5]⟩, ⟨w.heap.size + 1 + 1 + 1, 33, #[.int .i64 6, .int .i64 u.a, .int .i64 0, .int .i64 0, .slice (some ⟨w7.heap.size, 0, none⟩) 1 1]⟩, ⟨w3.heap.size, 64, #[.int .i64 u.k, .int .i64 u.t, .int .i64 u.a, .int .i64 u.b, .int .i64 u.c, .int .i64 u.d, .int .i64 u.e]⟩, ⟨w6.heap.size, 64, #[.int .i64 u.k, .int .i64 4, .int .i64 u.b, .int .i64 u.c, .int .i64 0, .int .i64 0, .int .i64 0]⟩] [⟨(selT 64), fun W => OwnS W B (.slice av L.length cv) L⟩, ⟨(selT 90), fun W => OwnN celC 90 W B (.slice b5 WS.length c5) WS⟩, ⟨(selT 64), fun W => OwnS W w7.heap.size (.slice (some ⟨w7.heap.size, 0, none⟩) 1 1) [backS u]⟩] w8) := hS
      clear hS hF hA HS7
      simp only [putL, putT, List.setIfInBounds_toArray, List.set_cons_zero, List.set_cons_succ]
      rw [eq8]
      clear eq8
      go_wp2_with fail
      have y0 := HS8.out.cell 2 rfl 0 (.int .i64 i) rfl
      have y1 := HS8.out.cell 2 rfl 1 (.int .i64 s9) rfl
      have y2 := HS8.out.cell 2 rfl 2 (.slice av L.length cv) rfl
      have y3 := HS8.out.cell 2 rfl 3 (.slice b5 WS.length c5) rfl
      have z0 := HS8.out.cell 3 rfl 0 (.int .i64 6) rfl
      have z1 := HS8.out.cell 3 rfl 1 (.int .i64 u.a) rfl
      have z2 := HS8.out.cell 3 rfl 2 (.int .i64 0) rfl
      have z3 := HS8.out.cell 3 rfl 3 (.int .i64 0) rfl
      have z4 := HS8.out.cell 3 rfl 4 (.slice (some ⟨w7.heap.size, 0, none⟩) 1 1) rfl
      refine bodyPost_ret (v := .tuple #[.agg #[.int .i64 i, .int .i64 s9, .slice av L.length cv, .slice b5 WS.length c5], .agg #[.int .i64 6, .int .i64 u.a, .int .i64 0, .int .i64 0, .slice (some ⟨w7.heap.size, 0, none⟩) 1 1], .bool true]) (by simp [results, Tryd.results42, go_sem, *]) rfl ?_
      rw [EA.out]
      exact ⟨⟨av, cv, b5, c5, _, 1, w7.heap.size, rfl, HS8.out.of 0 rfl, HS8.out.of 1 rfl, HS8.out.of 2 rfl, HZ.out.1, HZ.out.2⟩, HS8.out.bel⟩

end Go.Proofs.YtghajmfjekfdpaaDoor
