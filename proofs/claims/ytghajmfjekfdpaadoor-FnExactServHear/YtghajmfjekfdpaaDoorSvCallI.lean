/-
  A service asks whether it is called by a word: the program's.
-/
import Derived.Test.YtghajmfjekfdpaaDoorSvHearM
import Derived.Test.YtghajmfjekfdpaaDoorMsgJ
namespace Go.Proofs.YtghajmfjekfdpaaDoor
open Go.RowKit
attribute [local go_sem ↓] Go.wp_at_zero Go.wp_at_succ

/-- Whether a service is called by a word. -/
def calledH (i s m cl sv nc : Int) (ys : List Sl) (now : Int) : Bool :=
  (m == 5 && sv == i && msgB m cl sv nc ys) && (match ys with
    | [t, u] => shB t u i now && decide (s < u.b)
    | _ => false)
theorem bldShowI (w : World) (t u : Sl) (i now : Int) : (Instr.build 66 #[(0, .agg #[.int .i64 t.k, .int .i64 t.t, .int .i64 t.a, .int .i64 t.b, .int .i64 t.c, .int .i64 t.d, .int .i64 t.e]), (1, .agg #[.int .i64 u.k, .int .i64 u.t, .int .i64 u.a, .int .i64 u.b, .int .i64 u.c, .int .i64 u.d, .int .i64 u.e]), (2, .int .i64 i), (3, .int .i64 now)]).run Tryd.prog w = .ok (shV t u i now) w := by kernel_rfl
/-- Two boxes, made in any order, and then filled one behind the other. -/
def TwoB (B : Nat) (t u : Sl) (d : Nat → Bool) (s : Nat → Value) (W : World) : Prop :=
  ∃ p q, (d 8 = true → s 7 = .pointer (some ⟨p, 0, none⟩) ∧ ABlk 64 W p (bif d 10 then #[.int .i64 t.k, .int .i64 t.t, .int .i64 t.a, .int .i64 t.b, .int .i64 t.c, .int .i64 t.d, .int .i64 t.e] else #[Value.int .i64 0, Value.int .i64 0, Value.int .i64 0, Value.int .i64 0, Value.int .i64 0, Value.int .i64 0, Value.int .i64 0]) ∧ B ≤ p)
    ∧ (d 9 = true → s 8 = .pointer (some ⟨q, 0, none⟩) ∧ ABlk 64 W q (bif d 11 then #[.int .i64 u.k, .int .i64 u.t, .int .i64 u.a, .int .i64 u.b, .int .i64 u.c, .int .i64 u.d, .int .i64 u.e] else #[Value.int .i64 0, Value.int .i64 0, Value.int .i64 0, Value.int .i64 0, Value.int .i64 0, Value.int .i64 0, Value.int .i64 0]) ∧ B ≤ q) ∧ (d 8 = true → d 9 = true → p ≠ q)

theorem blk_type {T T' : TypeId} {w : World} {b : Nat} {c c' : Array Value} (h : ABlk T w b c) (h' : ABlk T' w b c') (hn : T ≠ T') : False := by
  unfold ABlk at h h'
  rw [h] at h'
  cases h'
  exact hn rfl
/-- A block outside of those that are told of is turned. -/
theorem St.outside {B : Nat} {w0 : World} {F : List BF} {R : List RF} {w w' : World} (h : St B w0 F R w) {b : Nat} (hB : B ≤ b) (g : GrL w w' [some b]) (hF : ∀ y ∈ F, y.b ≠ b) (hR : ∀ p ∈ R, p.P w') : St B w0 F R w' :=
  ⟨h.bs, below_grl h.bel g h.sz (fun k hk => by have : k = b := by simpa using hk
                                                rw [this]; exact hB), fun x hx => (h.blk x hx).grl g (by simpa using hF x hx), h.ge, h.nd, h.keep, hR⟩

set_option maxHeartbeats 8000000 in
set_option maxRecDepth 100000 in
theorem isCalled_any (x : Nat) (pv : Value) (i s9 : Int) (a2 : Option Addr) (lt c2 : Nat) (m cl sv nc : Int) (g2 : Nat) (cap : Nat) (ys : List Sl) (now : Int) (w : World) (hx : ABlk 87 w x #[pv, .int .i64 i, .int .i64 s9, .slice a2 lt c2]) (h : SRow w (some ⟨g2, 0, none⟩) ys) (hy : ys.length ≤ 2000000) (hf : Forms w) :
    Calls Tryd.prog 47 #[.pointer (some ⟨x, 0, none⟩), .agg #[.int .i64 m, .int .i64 cl, .int .i64 sv, .int .i64 nc, .slice (some ⟨g2, 0, none⟩) ys.length cap], .int .i64 now] w fun r w' => r = .returned (.bool (calledH i s9 m cl sv nc ys now)) ∧ Below w.heap.size w w' := by
  have HX : Hid (ABlk 87 w x #[pv, .int .i64 i, .int .i64 s9, .slice a2 lt c2] ∧ SRow w (some ⟨g2, 0, none⟩) ys ∧ Forms w) := ⟨hx, h, hf⟩
  clear hx h hf
  by_cases u3 : m = 5
  rotate_left
  · skip
    go_enter Tryd.func47, Tryd.ntmps47
    go_wp2_with fail
    obtain ⟨w1, hX9, HS1⟩ : ∃ X, X = (w.alloc (.cells #[.int .i64 m, .int .i64 cl, .int .i64 sv, .int .i64 nc, .slice (some ⟨g2, 0, none⟩) ys.length cap] 33)) ∧ Hid (St w.heap.size w [⟨w.heap.size, 33, #[.int .i64 m, .int .i64 cl, .int .i64 sv, .int .i64 nc, .slice (some ⟨g2, 0, none⟩) ys.length cap]⟩] [] X) := ⟨_, rfl, Hid.mk' (by
      have h := (St.alloc #[.int .i64 m, .int .i64 cl, .int .i64 sv, .int .i64 nc, .slice (some ⟨g2, 0, none⟩) ys.length cap] 33 (St.new w))
      try simp only [World.size_alloc] at h
      try simp only [World.size_setCell] at h
      exact h)⟩
    rw [← hX9]
    clear hX9
    refine wp_region_walk [9, 10, 11, 12, 13, 14, 15, 16, 17, 18, 19, 20, 21, 22, 23, 24, 25] (fun d s W => St w.heap.size w [⟨w.heap.size, 33, #[.int .i64 m, .int .i64 cl, .int .i64 sv, .int .i64 nc, .slice (some ⟨g2, 0, none⟩) ys.length cap]⟩] [] W ∧ Looks [(0, 9, Value.pointer (some ⟨w.heap.size, 0, none⟩)), (1, 10, Value.int .i64 m), (2, 11, .bool true), (3, 12, .bool true), (4, 13, undef), (5, 14, undef), (6, 15, undef), (7, 16, undef), (8, 17, undef), (9, 18, undef), (10, 19, undef), (11, 20, .bool true), (12, 21, .bool true), (13, 22, undef), (14, 23, undef), (15, 24, undef), (16, 25, .bool true)] d s) [0, 1, 2, 3, 4, 5, 6, 7, 8, 9, 10, 11, 12, 13, 14, 15, 16] (by kernel_rfl) (by kernel_rfl) (by kernel_rfl) ?_ ?_ ?_
    · intro s
      exact ⟨HS1.out.drew, Looks.none _ _⟩
    · refine StepsR.cons (k := 0) [] (by kernel_rfl) ?_ (StepsR.cons (k := 1) [0] (by kernel_rfl) ?_ (StepsR.cons (k := 2) [1] (by kernel_rfl) ?_ (StepsR.cons (k := 3) [2] (by kernel_rfl) ?_ (StepsR.cons (k := 4) [3] (by kernel_rfl) ?_ (StepsR.cons (k := 5) [3] (by kernel_rfl) ?_ (StepsR.cons (k := 6) [3] (by kernel_rfl) ?_ (StepsR.cons (k := 7) [3] (by kernel_rfl) ?_ (StepsR.cons (k := 8) [3] (by kernel_rfl) ?_ (StepsR.cons (k := 9) [3] (by kernel_rfl) ?_ (StepsR.cons (k := 10) [3] (by kernel_rfl) ?_ (StepsR.cons (k := 11) [3, 10] (by kernel_rfl) ?_ (StepsR.cons (k := 12) [11] (by kernel_rfl) ?_ (StepsR.cons (k := 13) [12] (by kernel_rfl) ?_ (StepsR.cons (k := 14) [12] (by kernel_rfl) ?_ (StepsR.cons (k := 15) [12] (by kernel_rfl) ?_ (StepsR.cons (k := 16) [12, 15] (by kernel_rfl) ?_ (StepsR.nil)))))))))))))))))
      · intro d s w9 hd hA hC hF K hK
        have hB9 := hF.1.bel
        simp only [putL, putT, List.setIfInBounds_toArray, List.set_cons_zero, List.set_cons_succ]
        clear hB9
        as_aux_lemma =>
          go_simp
          refine hK.out (updS s 9 (Value.pointer (some ⟨w.heap.size, 0, none⟩))) _ _ ?_ ⟨hF.1, hF.2.put 0 9 (Value.pointer (some ⟨w.heap.size, 0, none⟩)) rfl (by simp)⟩
          simp only [putL, putT, List.setIfInBounds_toArray, List.set_cons_zero, List.set_cons_succ]; rfl
      · intro d s w9 hd hA hC hF K hK
        have hB9 := hF.1.bel
        simp only [putL, putT, List.setIfInBounds_toArray, List.set_cons_zero, List.set_cons_succ]
        clear hB9
        as_aux_lemma =>
          have eq0 : s 9 = Value.pointer (some ⟨w.heap.size, 0, none⟩) := hF.2 (0, 9, Value.pointer (some ⟨w.heap.size, 0, none⟩)) (by simp) (hA.1)
          rw [eq0]
          have p0 := hF.1.cell 0 rfl 0 (.int .i64 m) rfl
          go_simp
          clear p0
          refine hK.out (updS s 10 (Value.int .i64 m)) _ _ ?_ ⟨hF.1, hF.2.put 1 10 (Value.int .i64 m) rfl (by simp)⟩
          simp only [putL, putT, List.setIfInBounds_toArray, List.set_cons_zero, List.set_cons_succ]; rw [show updS s 10 (Value.int .i64 m) 9 = Value.pointer (some ⟨w.heap.size, 0, none⟩) from eq0]; rfl
      · intro d s w9 hd hA hC hF K hK
        have hB9 := hF.1.bel
        simp only [putL, putT, List.setIfInBounds_toArray, List.set_cons_zero, List.set_cons_succ]
        clear hB9
        as_aux_lemma =>
          have eq1 : s 10 = Value.int .i64 m := hF.2 (1, 10, Value.int .i64 m) (by simp) (hA.1)
          rw [eq1]
          have hne9 : (m != 5) = true := by simpa using u3
          go_simp
          try rw [hne9]
          refine hK.out (updS s 11 (.bool true)) _ _ ?_ ⟨hF.1, hF.2.put 2 11 (.bool true) rfl (by simp)⟩
          simp only [putL, putT, List.setIfInBounds_toArray, List.set_cons_zero, List.set_cons_succ]; rw [show updS s 11 (.bool true) 10 = Value.int .i64 m from eq1]; rfl
      · intro d s w9 hd hA hC hF K hK
        have hB9 := hF.1.bel
        simp only [putL, putT, List.setIfInBounds_toArray, List.set_cons_zero, List.set_cons_succ]
        clear hB9
        as_aux_lemma =>
          have eq2 : s 11 = .bool true := hF.2 (2, 11, .bool true) (by simp) (hA.1)
          rw [eq2]
          go_simp
          refine hK.out (updS s 12 (.bool true)) _ _ ?_ ⟨hF.1, hF.2.put 3 12 (.bool true) rfl (by simp)⟩
          simp only [putL, putT, List.setIfInBounds_toArray, List.set_cons_zero, List.set_cons_succ]; rw [show updS s 12 (.bool true) 11 = .bool true from eq2]; rfl
      · intro d s w9 hd hA hC hF K hK
        have hB9 := hF.1.bel
        simp only [putL, putT, List.setIfInBounds_toArray, List.set_cons_zero, List.set_cons_succ]
        clear hB9
        as_aux_lemma =>
          have eq3 : s 12 = .bool true := hF.2 (3, 12, .bool true) (by simp) (hA.1)
          rw [eq3]
          go_simp
          refine hK.out (updS s 13 (undef)) _ _ ?_ ⟨hF.1, hF.2.put 4 13 (undef) rfl (by simp)⟩
          simp only [putL, putT, List.setIfInBounds_toArray, List.set_cons_zero, List.set_cons_succ]; rw [show updS s 13 (undef) 12 = .bool true from eq3]; rfl
      · intro d s w9 hd hA hC hF K hK
        have hB9 := hF.1.bel
        simp only [putL, putT, List.setIfInBounds_toArray, List.set_cons_zero, List.set_cons_succ]
        clear hB9
        as_aux_lemma =>
          have eq3 : s 12 = .bool true := hF.2 (3, 12, .bool true) (by simp) (hA.1)
          rw [eq3]
          go_simp
          refine hK.out (updS s 14 (undef)) _ _ ?_ ⟨hF.1, hF.2.put 5 14 (undef) rfl (by simp)⟩
          simp only [putL, putT, List.setIfInBounds_toArray, List.set_cons_zero, List.set_cons_succ]; rw [show updS s 14 (undef) 12 = .bool true from eq3]; rfl
      · intro d s w9 hd hA hC hF K hK
        have hB9 := hF.1.bel
        simp only [putL, putT, List.setIfInBounds_toArray, List.set_cons_zero, List.set_cons_succ]
        clear hB9
        as_aux_lemma =>
          have eq3 : s 12 = .bool true := hF.2 (3, 12, .bool true) (by simp) (hA.1)
          rw [eq3]
          go_simp
          refine hK.out (updS s 15 (undef)) _ _ ?_ ⟨hF.1, hF.2.put 6 15 (undef) rfl (by simp)⟩
          simp only [putL, putT, List.setIfInBounds_toArray, List.set_cons_zero, List.set_cons_succ]; rw [show updS s 15 (undef) 12 = .bool true from eq3]; rfl
      · intro d s w9 hd hA hC hF K hK
        have hB9 := hF.1.bel
        simp only [putL, putT, List.setIfInBounds_toArray, List.set_cons_zero, List.set_cons_succ]
        clear hB9
        as_aux_lemma =>
          have eq3 : s 12 = .bool true := hF.2 (3, 12, .bool true) (by simp) (hA.1)
          rw [eq3]
          go_simp
          refine hK.out (updS s 16 (undef)) _ _ ?_ ⟨hF.1, hF.2.put 7 16 (undef) rfl (by simp)⟩
          simp only [putL, putT, List.setIfInBounds_toArray, List.set_cons_zero, List.set_cons_succ]; rw [show updS s 16 (undef) 12 = .bool true from eq3]; rfl
      · intro d s w9 hd hA hC hF K hK
        have hB9 := hF.1.bel
        simp only [putL, putT, List.setIfInBounds_toArray, List.set_cons_zero, List.set_cons_succ]
        clear hB9
        as_aux_lemma =>
          have eq3 : s 12 = .bool true := hF.2 (3, 12, .bool true) (by simp) (hA.1)
          rw [eq3]
          go_simp
          refine hK.out (updS s 17 (undef)) _ _ ?_ ⟨hF.1, hF.2.put 8 17 (undef) rfl (by simp)⟩
          simp only [putL, putT, List.setIfInBounds_toArray, List.set_cons_zero, List.set_cons_succ]; rw [show updS s 17 (undef) 12 = .bool true from eq3]; rfl
      · intro d s w9 hd hA hC hF K hK
        have hB9 := hF.1.bel
        simp only [putL, putT, List.setIfInBounds_toArray, List.set_cons_zero, List.set_cons_succ]
        clear hB9
        as_aux_lemma =>
          have eq3 : s 12 = .bool true := hF.2 (3, 12, .bool true) (by simp) (hA.1)
          rw [eq3]
          go_simp
          refine hK.out (updS s 18 (undef)) _ _ ?_ ⟨hF.1, hF.2.put 9 18 (undef) rfl (by simp)⟩
          simp only [putL, putT, List.setIfInBounds_toArray, List.set_cons_zero, List.set_cons_succ]; rw [show updS s 18 (undef) 12 = .bool true from eq3]; rfl
      · intro d s w9 hd hA hC hF K hK
        have hB9 := hF.1.bel
        simp only [putL, putT, List.setIfInBounds_toArray, List.set_cons_zero, List.set_cons_succ]
        clear hB9
        as_aux_lemma =>
          have eq3 : s 12 = .bool true := hF.2 (3, 12, .bool true) (by simp) (hA.1)
          rw [eq3]
          go_simp
          refine hK.out (updS s 19 (undef)) _ _ ?_ ⟨hF.1, hF.2.put 10 19 (undef) rfl (by simp)⟩
          simp only [putL, putT, List.setIfInBounds_toArray, List.set_cons_zero, List.set_cons_succ]; rw [show updS s 19 (undef) 12 = .bool true from eq3]; rfl
      · intro d s w9 hd hA hC hF K hK
        have hB9 := hF.1.bel
        simp only [putL, putT, List.setIfInBounds_toArray, List.set_cons_zero, List.set_cons_succ]
        clear hB9
        as_aux_lemma =>
          have eq3 : s 12 = .bool true := hF.2 (3, 12, .bool true) (by simp) (hA.1)
          rw [eq3]
          go_simp
          refine hK.out (updS s 20 (.bool true)) _ _ ?_ ⟨hF.1, hF.2.put 11 20 (.bool true) rfl (by simp)⟩
          simp only [putL, putT, List.setIfInBounds_toArray, List.set_cons_zero, List.set_cons_succ]; rw [show updS s 20 (.bool true) 12 = .bool true from eq3]; rfl
      · intro d s w9 hd hA hC hF K hK
        have hB9 := hF.1.bel
        simp only [putL, putT, List.setIfInBounds_toArray, List.set_cons_zero, List.set_cons_succ]
        clear hB9
        as_aux_lemma =>
          have eq11 : s 20 = .bool true := hF.2 (11, 20, .bool true) (by simp) (hA.1)
          rw [eq11]
          go_simp
          refine hK.out (updS s 21 (.bool true)) _ _ ?_ ⟨hF.1, hF.2.put 12 21 (.bool true) rfl (by simp)⟩
          simp only [putL, putT, List.setIfInBounds_toArray, List.set_cons_zero, List.set_cons_succ]; rw [show updS s 21 (.bool true) 20 = .bool true from eq11]; rfl
      · intro d s w9 hd hA hC hF K hK
        have hB9 := hF.1.bel
        simp only [putL, putT, List.setIfInBounds_toArray, List.set_cons_zero, List.set_cons_succ]
        clear hB9
        as_aux_lemma =>
          have eq12 : s 21 = .bool true := hF.2 (12, 21, .bool true) (by simp) (hA.1)
          rw [eq12]
          go_simp
          refine hK.out (updS s 22 (undef)) _ _ ?_ ⟨hF.1, hF.2.put 13 22 (undef) rfl (by simp)⟩
          simp only [putL, putT, List.setIfInBounds_toArray, List.set_cons_zero, List.set_cons_succ]; rw [show updS s 22 (undef) 21 = .bool true from eq12]; rfl
      · intro d s w9 hd hA hC hF K hK
        have hB9 := hF.1.bel
        simp only [putL, putT, List.setIfInBounds_toArray, List.set_cons_zero, List.set_cons_succ]
        clear hB9
        as_aux_lemma =>
          have eq12 : s 21 = .bool true := hF.2 (12, 21, .bool true) (by simp) (hA.1)
          rw [eq12]
          go_simp
          refine hK.out (updS s 23 (undef)) _ _ ?_ ⟨hF.1, hF.2.put 14 23 (undef) rfl (by simp)⟩
          simp only [putL, putT, List.setIfInBounds_toArray, List.set_cons_zero, List.set_cons_succ]; rw [show updS s 23 (undef) 21 = .bool true from eq12]; rfl
      · intro d s w9 hd hA hC hF K hK
        have hB9 := hF.1.bel
        simp only [putL, putT, List.setIfInBounds_toArray, List.set_cons_zero, List.set_cons_succ]
        clear hB9
        as_aux_lemma =>
          have eq12 : s 21 = .bool true := hF.2 (12, 21, .bool true) (by simp) (hA.1)
          rw [eq12]
          go_simp
          refine hK.out (updS s 24 (undef)) _ _ ?_ ⟨hF.1, hF.2.put 15 24 (undef) rfl (by simp)⟩
          simp only [putL, putT, List.setIfInBounds_toArray, List.set_cons_zero, List.set_cons_succ]; rw [show updS s 24 (undef) 21 = .bool true from eq12]; rfl
      · intro d s w9 hd hA hC hF K hK
        have hB9 := hF.1.bel
        simp only [putL, putT, List.setIfInBounds_toArray, List.set_cons_zero, List.set_cons_succ]
        clear hB9
        as_aux_lemma =>
          have eq12 : s 21 = .bool true := hF.2 (12, 21, .bool true) (by simp) (hA.1)
          rw [eq12]
          go_simp
          refine hK.out (updS s 25 (.bool true)) _ _ ?_ ⟨hF.1, hF.2.put 16 25 (.bool true) rfl (by simp)⟩
          simp only [putL, putT, List.setIfInBounds_toArray, List.set_cons_zero, List.set_cons_succ]; rw [show updS s 25 (.bool true) 21 = .bool true from eq12]; rfl
    · intro d s w3 hA hF
      have hS := hF.1
      have eq16 : s 25 = .bool true := hF.2 (16, 25, .bool true) (by simp) (hA.2.2.2.2.2.2.2.2.2.2.2.2.2.2.2.2.1)
      have HS2 : Hid (St w.heap.size w [⟨w.heap.size, 33, #[.int .i64 m, .int .i64 cl, .int .i64 sv, .int .i64 nc, .slice (some ⟨g2, 0, none⟩) ys.length cap]⟩] [] w3) := hS
      clear hS hF hA HS1
      simp only [putL, putT, List.setIfInBounds_toArray, List.set_cons_zero, List.set_cons_succ]
      rw [eq16]
      clear eq16
      go_wp2_with fail
      go_ret
      exact ⟨by unfold calledH; simp [u3], HS2.out.bel⟩
  subst u3
  by_cases u5 : sv = i
  rotate_left
  · skip
    go_enter Tryd.func47, Tryd.ntmps47
    go_wp2_with fail
    obtain ⟨w1, hX9, HS2⟩ : ∃ X, X = (w.alloc (.cells #[.int .i64 5, .int .i64 cl, .int .i64 sv, .int .i64 nc, .slice (some ⟨g2, 0, none⟩) ys.length cap] 33)) ∧ Hid (St w.heap.size w [⟨w.heap.size, 33, #[.int .i64 5, .int .i64 cl, .int .i64 sv, .int .i64 nc, .slice (some ⟨g2, 0, none⟩) ys.length cap]⟩] [] X) := ⟨_, rfl, Hid.mk' (by
      have h := (St.alloc #[.int .i64 5, .int .i64 cl, .int .i64 sv, .int .i64 nc, .slice (some ⟨g2, 0, none⟩) ys.length cap] 33 (St.new w))
      try simp only [World.size_alloc] at h
      try simp only [World.size_setCell] at h
      exact h)⟩
    rw [← hX9]
    clear hX9
    refine wp_region_walk [9, 10, 11, 12, 13, 14, 15, 16, 17, 18, 19, 20, 21, 22, 23, 24, 25] (fun d s W => St w.heap.size w [⟨w.heap.size, 33, #[.int .i64 5, .int .i64 cl, .int .i64 sv, .int .i64 nc, .slice (some ⟨g2, 0, none⟩) ys.length cap]⟩] [] W ∧ Looks [(0, 9, Value.pointer (some ⟨w.heap.size, 0, none⟩)), (1, 10, Value.int .i64 5), (2, 11, .bool false), (3, 12, .bool false), (4, 13, Value.pointer (some ⟨w.heap.size, 2, none⟩)), (5, 14, Value.int .i64 sv), (6, 15, Value.pointer (some ⟨x, 0, none⟩)), (7, 16, Value.pointer (some ⟨x, 0, none⟩)), (8, 17, Value.pointer (some ⟨x, 1, none⟩)), (9, 18, Value.int .i64 i), (10, 19, .bool true), (11, 20, .bool true), (12, 21, .bool true), (13, 22, undef), (14, 23, undef), (15, 24, undef), (16, 25, .bool true)] d s) [0, 1, 2, 3, 4, 5, 6, 7, 8, 9, 10, 11, 12, 13, 14, 15, 16] (by kernel_rfl) (by kernel_rfl) (by kernel_rfl) ?_ ?_ ?_
    · intro s
      exact ⟨HS2.out.drew, Looks.none _ _⟩
    · refine StepsR.cons (k := 0) [] (by kernel_rfl) ?_ (StepsR.cons (k := 1) [0] (by kernel_rfl) ?_ (StepsR.cons (k := 2) [1] (by kernel_rfl) ?_ (StepsR.cons (k := 3) [2] (by kernel_rfl) ?_ (StepsR.cons (k := 4) [3] (by kernel_rfl) ?_ (StepsR.cons (k := 5) [3, 4] (by kernel_rfl) ?_ (StepsR.cons (k := 6) [3] (by kernel_rfl) ?_ (StepsR.cons (k := 7) [3, 6] (by kernel_rfl) ?_ (StepsR.cons (k := 8) [3, 7] (by kernel_rfl) ?_ (StepsR.cons (k := 9) [3, 8] (by kernel_rfl) ?_ (StepsR.cons (k := 10) [3, 5, 9] (by kernel_rfl) ?_ (StepsR.cons (k := 11) [3, 10] (by kernel_rfl) ?_ (StepsR.cons (k := 12) [11] (by kernel_rfl) ?_ (StepsR.cons (k := 13) [12] (by kernel_rfl) ?_ (StepsR.cons (k := 14) [12] (by kernel_rfl) ?_ (StepsR.cons (k := 15) [12] (by kernel_rfl) ?_ (StepsR.cons (k := 16) [12, 15] (by kernel_rfl) ?_ (StepsR.nil)))))))))))))))))
      · intro d s w9 hd hA hC hF K hK
        have hB9 := hF.1.bel
        simp only [putL, putT, List.setIfInBounds_toArray, List.set_cons_zero, List.set_cons_succ]
        clear hB9
        as_aux_lemma =>
          go_simp
          refine hK.out (updS s 9 (Value.pointer (some ⟨w.heap.size, 0, none⟩))) _ _ ?_ ⟨hF.1, hF.2.put 0 9 (Value.pointer (some ⟨w.heap.size, 0, none⟩)) rfl (by simp)⟩
          simp only [putL, putT, List.setIfInBounds_toArray, List.set_cons_zero, List.set_cons_succ]; rfl
      · intro d s w9 hd hA hC hF K hK
        have hB9 := hF.1.bel
        simp only [putL, putT, List.setIfInBounds_toArray, List.set_cons_zero, List.set_cons_succ]
        clear hB9
        as_aux_lemma =>
          have eq0 : s 9 = Value.pointer (some ⟨w.heap.size, 0, none⟩) := hF.2 (0, 9, Value.pointer (some ⟨w.heap.size, 0, none⟩)) (by simp) (hA.1)
          rw [eq0]
          have p0 := hF.1.cell 0 rfl 0 (.int .i64 5) rfl
          go_simp
          clear p0
          refine hK.out (updS s 10 (Value.int .i64 5)) _ _ ?_ ⟨hF.1, hF.2.put 1 10 (Value.int .i64 5) rfl (by simp)⟩
          simp only [putL, putT, List.setIfInBounds_toArray, List.set_cons_zero, List.set_cons_succ]; rw [show updS s 10 (Value.int .i64 5) 9 = Value.pointer (some ⟨w.heap.size, 0, none⟩) from eq0]; rfl
      · intro d s w9 hd hA hC hF K hK
        have hB9 := hF.1.bel
        simp only [putL, putT, List.setIfInBounds_toArray, List.set_cons_zero, List.set_cons_succ]
        clear hB9
        as_aux_lemma =>
          have eq1 : s 10 = Value.int .i64 5 := hF.2 (1, 10, Value.int .i64 5) (by simp) (hA.1)
          rw [eq1]
          go_simp
          refine hK.out (updS s 11 (.bool false)) _ _ ?_ ⟨hF.1, hF.2.put 2 11 (.bool false) rfl (by simp)⟩
          simp only [putL, putT, List.setIfInBounds_toArray, List.set_cons_zero, List.set_cons_succ]; rw [show updS s 11 (.bool false) 10 = Value.int .i64 5 from eq1]; rfl
      · intro d s w9 hd hA hC hF K hK
        have hB9 := hF.1.bel
        simp only [putL, putT, List.setIfInBounds_toArray, List.set_cons_zero, List.set_cons_succ]
        clear hB9
        as_aux_lemma =>
          have eq2 : s 11 = .bool false := hF.2 (2, 11, .bool false) (by simp) (hA.1)
          rw [eq2]
          go_simp
          refine hK.out (updS s 12 (.bool false)) _ _ ?_ ⟨hF.1, hF.2.put 3 12 (.bool false) rfl (by simp)⟩
          simp only [putL, putT, List.setIfInBounds_toArray, List.set_cons_zero, List.set_cons_succ]; rw [show updS s 12 (.bool false) 11 = .bool false from eq2]; rfl
      · intro d s w9 hd hA hC hF K hK
        have hB9 := hF.1.bel
        simp only [putL, putT, List.setIfInBounds_toArray, List.set_cons_zero, List.set_cons_succ]
        clear hB9
        as_aux_lemma =>
          have eq3 : s 12 = .bool false := hF.2 (3, 12, .bool false) (by simp) (hA.1)
          rw [eq3]
          go_simp
          refine hK.out (updS s 13 (Value.pointer (some ⟨w.heap.size, 2, none⟩))) _ _ ?_ ⟨hF.1, hF.2.put 4 13 (Value.pointer (some ⟨w.heap.size, 2, none⟩)) rfl (by simp)⟩
          simp only [putL, putT, List.setIfInBounds_toArray, List.set_cons_zero, List.set_cons_succ]; rw [show updS s 13 (Value.pointer (some ⟨w.heap.size, 2, none⟩)) 12 = .bool false from eq3]; rfl
      · intro d s w9 hd hA hC hF K hK
        have hB9 := hF.1.bel
        simp only [putL, putT, List.setIfInBounds_toArray, List.set_cons_zero, List.set_cons_succ]
        clear hB9
        as_aux_lemma =>
          have eq3 : s 12 = .bool false := hF.2 (3, 12, .bool false) (by simp) (hA.1)
          have eq4 : s 13 = Value.pointer (some ⟨w.heap.size, 2, none⟩) := hF.2 (4, 13, Value.pointer (some ⟨w.heap.size, 2, none⟩)) (by simp) (hA.2.1)
          rw [eq3, eq4]
          have p2 := hF.1.cell 0 rfl 2 (.int .i64 sv) rfl
          go_simp
          clear p2
          refine hK.out (updS s 14 (Value.int .i64 sv)) _ _ ?_ ⟨hF.1, hF.2.put 5 14 (Value.int .i64 sv) rfl (by simp)⟩
          simp only [putL, putT, List.setIfInBounds_toArray, List.set_cons_zero, List.set_cons_succ]; rw [show updS s 14 (Value.int .i64 sv) 12 = .bool false from eq3, show updS s 14 (Value.int .i64 sv) 13 = Value.pointer (some ⟨w.heap.size, 2, none⟩) from eq4]; rfl
      · intro d s w9 hd hA hC hF K hK
        have hB9 := hF.1.bel
        simp only [putL, putT, List.setIfInBounds_toArray, List.set_cons_zero, List.set_cons_succ]
        clear hB9
        as_aux_lemma =>
          have eq3 : s 12 = .bool false := hF.2 (3, 12, .bool false) (by simp) (hA.1)
          rw [eq3]
          go_simp
          refine hK.out (updS s 15 (Value.pointer (some ⟨x, 0, none⟩))) _ _ ?_ ⟨hF.1, hF.2.put 6 15 (Value.pointer (some ⟨x, 0, none⟩)) rfl (by simp)⟩
          simp only [putL, putT, List.setIfInBounds_toArray, List.set_cons_zero, List.set_cons_succ]; rw [show updS s 15 (Value.pointer (some ⟨x, 0, none⟩)) 12 = .bool false from eq3]; rfl
      · intro d s w9 hd hA hC hF K hK
        have hB9 := hF.1.bel
        simp only [putL, putT, List.setIfInBounds_toArray, List.set_cons_zero, List.set_cons_succ]
        clear hB9
        as_aux_lemma =>
          have eq3 : s 12 = .bool false := hF.2 (3, 12, .bool false) (by simp) (hA.1)
          have eq6 : s 15 = Value.pointer (some ⟨x, 0, none⟩) := hF.2 (6, 15, Value.pointer (some ⟨x, 0, none⟩)) (by simp) (hA.2.1)
          rw [eq3, eq6]
          go_simp
          refine hK.out (updS s 16 (Value.pointer (some ⟨x, 0, none⟩))) _ _ ?_ ⟨hF.1, hF.2.put 7 16 (Value.pointer (some ⟨x, 0, none⟩)) rfl (by simp)⟩
          simp only [putL, putT, List.setIfInBounds_toArray, List.set_cons_zero, List.set_cons_succ]; rw [show updS s 16 (Value.pointer (some ⟨x, 0, none⟩)) 12 = .bool false from eq3, show updS s 16 (Value.pointer (some ⟨x, 0, none⟩)) 15 = Value.pointer (some ⟨x, 0, none⟩) from eq6]; rfl
      · intro d s w9 hd hA hC hF K hK
        have hB9 := hF.1.bel
        simp only [putL, putT, List.setIfInBounds_toArray, List.set_cons_zero, List.set_cons_succ]
        clear hB9
        as_aux_lemma =>
          have eq3 : s 12 = .bool false := hF.2 (3, 12, .bool false) (by simp) (hA.1)
          have eq7 : s 16 = Value.pointer (some ⟨x, 0, none⟩) := hF.2 (7, 16, Value.pointer (some ⟨x, 0, none⟩)) (by simp) (hA.2.1)
          rw [eq3, eq7]
          go_simp
          refine hK.out (updS s 17 (Value.pointer (some ⟨x, 1, none⟩))) _ _ ?_ ⟨hF.1, hF.2.put 8 17 (Value.pointer (some ⟨x, 1, none⟩)) rfl (by simp)⟩
          simp only [putL, putT, List.setIfInBounds_toArray, List.set_cons_zero, List.set_cons_succ]; rw [show updS s 17 (Value.pointer (some ⟨x, 1, none⟩)) 12 = .bool false from eq3, show updS s 17 (Value.pointer (some ⟨x, 1, none⟩)) 16 = Value.pointer (some ⟨x, 0, none⟩) from eq7]; rfl
      · intro d s w9 hd hA hC hF K hK
        have hB9 := hF.1.bel
        simp only [putL, putT, List.setIfInBounds_toArray, List.set_cons_zero, List.set_cons_succ]
        clear hB9
        as_aux_lemma =>
          have eq3 : s 12 = .bool false := hF.2 (3, 12, .bool false) (by simp) (hA.1)
          have eq8 : s 17 = Value.pointer (some ⟨x, 1, none⟩) := hF.2 (8, 17, Value.pointer (some ⟨x, 1, none⟩)) (by simp) (hA.2.1)
          rw [eq3, eq8]
          have hx9 := HX.out.1.later hF.1.bel
          have p1 := hx9.at 1 _ rfl
          go_simp
          clear hx9 p1
          refine hK.out (updS s 18 (Value.int .i64 i)) _ _ ?_ ⟨hF.1, hF.2.put 9 18 (Value.int .i64 i) rfl (by simp)⟩
          simp only [putL, putT, List.setIfInBounds_toArray, List.set_cons_zero, List.set_cons_succ]; rw [show updS s 18 (Value.int .i64 i) 12 = .bool false from eq3, show updS s 18 (Value.int .i64 i) 17 = Value.pointer (some ⟨x, 1, none⟩) from eq8]; rfl
      · intro d s w9 hd hA hC hF K hK
        have hB9 := hF.1.bel
        simp only [putL, putT, List.setIfInBounds_toArray, List.set_cons_zero, List.set_cons_succ]
        clear hB9
        as_aux_lemma =>
          have eq3 : s 12 = .bool false := hF.2 (3, 12, .bool false) (by simp) (hA.1)
          have eq5 : s 14 = Value.int .i64 sv := hF.2 (5, 14, Value.int .i64 sv) (by simp) (hA.2.1)
          have eq9 : s 18 = Value.int .i64 i := hF.2 (9, 18, Value.int .i64 i) (by simp) (hA.2.2.1)
          rw [eq3, eq5, eq9]
          have hne9 : (sv != i) = true := by simpa using u5
          go_simp
          try rw [hne9]
          refine hK.out (updS s 19 (.bool true)) _ _ ?_ ⟨hF.1, hF.2.put 10 19 (.bool true) rfl (by simp)⟩
          simp only [putL, putT, List.setIfInBounds_toArray, List.set_cons_zero, List.set_cons_succ]; rw [show updS s 19 (.bool true) 12 = .bool false from eq3, show updS s 19 (.bool true) 14 = Value.int .i64 sv from eq5, show updS s 19 (.bool true) 18 = Value.int .i64 i from eq9]; rfl
      · intro d s w9 hd hA hC hF K hK
        have hB9 := hF.1.bel
        simp only [putL, putT, List.setIfInBounds_toArray, List.set_cons_zero, List.set_cons_succ]
        clear hB9
        as_aux_lemma =>
          have eq3 : s 12 = .bool false := hF.2 (3, 12, .bool false) (by simp) (hA.1)
          have eq10 : s 19 = .bool true := hF.2 (10, 19, .bool true) (by simp) (hA.2.1)
          rw [eq3, eq10]
          go_simp
          refine hK.out (updS s 20 (.bool true)) _ _ ?_ ⟨hF.1, hF.2.put 11 20 (.bool true) rfl (by simp)⟩
          simp only [putL, putT, List.setIfInBounds_toArray, List.set_cons_zero, List.set_cons_succ]; rw [show updS s 20 (.bool true) 12 = .bool false from eq3, show updS s 20 (.bool true) 19 = .bool true from eq10]; rfl
      · intro d s w9 hd hA hC hF K hK
        have hB9 := hF.1.bel
        simp only [putL, putT, List.setIfInBounds_toArray, List.set_cons_zero, List.set_cons_succ]
        clear hB9
        as_aux_lemma =>
          have eq11 : s 20 = .bool true := hF.2 (11, 20, .bool true) (by simp) (hA.1)
          rw [eq11]
          go_simp
          refine hK.out (updS s 21 (.bool true)) _ _ ?_ ⟨hF.1, hF.2.put 12 21 (.bool true) rfl (by simp)⟩
          simp only [putL, putT, List.setIfInBounds_toArray, List.set_cons_zero, List.set_cons_succ]; rw [show updS s 21 (.bool true) 20 = .bool true from eq11]; rfl
      · intro d s w9 hd hA hC hF K hK
        have hB9 := hF.1.bel
        simp only [putL, putT, List.setIfInBounds_toArray, List.set_cons_zero, List.set_cons_succ]
        clear hB9
        as_aux_lemma =>
          have eq12 : s 21 = .bool true := hF.2 (12, 21, .bool true) (by simp) (hA.1)
          rw [eq12]
          go_simp
          refine hK.out (updS s 22 (undef)) _ _ ?_ ⟨hF.1, hF.2.put 13 22 (undef) rfl (by simp)⟩
          simp only [putL, putT, List.setIfInBounds_toArray, List.set_cons_zero, List.set_cons_succ]; rw [show updS s 22 (undef) 21 = .bool true from eq12]; rfl
      · intro d s w9 hd hA hC hF K hK
        have hB9 := hF.1.bel
        simp only [putL, putT, List.setIfInBounds_toArray, List.set_cons_zero, List.set_cons_succ]
        clear hB9
        as_aux_lemma =>
          have eq12 : s 21 = .bool true := hF.2 (12, 21, .bool true) (by simp) (hA.1)
          rw [eq12]
          go_simp
          refine hK.out (updS s 23 (undef)) _ _ ?_ ⟨hF.1, hF.2.put 14 23 (undef) rfl (by simp)⟩
          simp only [putL, putT, List.setIfInBounds_toArray, List.set_cons_zero, List.set_cons_succ]; rw [show updS s 23 (undef) 21 = .bool true from eq12]; rfl
      · intro d s w9 hd hA hC hF K hK
        have hB9 := hF.1.bel
        simp only [putL, putT, List.setIfInBounds_toArray, List.set_cons_zero, List.set_cons_succ]
        clear hB9
        as_aux_lemma =>
          have eq12 : s 21 = .bool true := hF.2 (12, 21, .bool true) (by simp) (hA.1)
          rw [eq12]
          go_simp
          refine hK.out (updS s 24 (undef)) _ _ ?_ ⟨hF.1, hF.2.put 15 24 (undef) rfl (by simp)⟩
          simp only [putL, putT, List.setIfInBounds_toArray, List.set_cons_zero, List.set_cons_succ]; rw [show updS s 24 (undef) 21 = .bool true from eq12]; rfl
      · intro d s w9 hd hA hC hF K hK
        have hB9 := hF.1.bel
        simp only [putL, putT, List.setIfInBounds_toArray, List.set_cons_zero, List.set_cons_succ]
        clear hB9
        as_aux_lemma =>
          have eq12 : s 21 = .bool true := hF.2 (12, 21, .bool true) (by simp) (hA.1)
          rw [eq12]
          go_simp
          refine hK.out (updS s 25 (.bool true)) _ _ ?_ ⟨hF.1, hF.2.put 16 25 (.bool true) rfl (by simp)⟩
          simp only [putL, putT, List.setIfInBounds_toArray, List.set_cons_zero, List.set_cons_succ]; rw [show updS s 25 (.bool true) 21 = .bool true from eq12]; rfl
    · intro d s w3 hA hF
      have hS := hF.1
      have eq16 : s 25 = .bool true := hF.2 (16, 25, .bool true) (by simp) (hA.2.2.2.2.2.2.2.2.2.2.2.2.2.2.2.2.1)
      have HS3 : Hid (St w.heap.size w [⟨w.heap.size, 33, #[.int .i64 5, .int .i64 cl, .int .i64 sv, .int .i64 nc, .slice (some ⟨g2, 0, none⟩) ys.length cap]⟩] [] w3) := hS
      clear hS hF hA HS2
      simp only [putL, putT, List.setIfInBounds_toArray, List.set_cons_zero, List.set_cons_succ]
      rw [eq16]
      clear eq16
      go_wp2_with fail
      go_ret
      exact ⟨by unfold calledH; simp [u5], HS3.out.bel⟩
  subst sv
  cases u4 : msgB 5 cl i nc ys
  · skip
    go_enter Tryd.func47, Tryd.ntmps47
    go_wp2_with fail
    obtain ⟨w1, hX9, HS3⟩ : ∃ X, X = (w.alloc (.cells #[.int .i64 5, .int .i64 cl, .int .i64 i, .int .i64 nc, .slice (some ⟨g2, 0, none⟩) ys.length cap] 33)) ∧ Hid (St w.heap.size w [⟨w.heap.size, 33, #[.int .i64 5, .int .i64 cl, .int .i64 i, .int .i64 nc, .slice (some ⟨g2, 0, none⟩) ys.length cap]⟩] [] X) := ⟨_, rfl, Hid.mk' (by
      have h := (St.alloc #[.int .i64 5, .int .i64 cl, .int .i64 i, .int .i64 nc, .slice (some ⟨g2, 0, none⟩) ys.length cap] 33 (St.new w))
      try simp only [World.size_alloc] at h
      try simp only [World.size_setCell] at h
      exact h)⟩
    rw [← hX9]
    clear hX9
    refine wp_region_walk [9, 10, 11, 12, 13, 14, 15, 16, 17, 18, 19, 20, 21, 22, 23, 24, 25] (fun d s W => St w.heap.size w [⟨w.heap.size, 33, #[.int .i64 5, .int .i64 cl, .int .i64 i, .int .i64 nc, .slice (some ⟨g2, 0, none⟩) ys.length cap]⟩] [] W ∧ Looks [(0, 9, Value.pointer (some ⟨w.heap.size, 0, none⟩)), (1, 10, Value.int .i64 5), (2, 11, .bool false), (3, 12, .bool false), (4, 13, Value.pointer (some ⟨w.heap.size, 2, none⟩)), (5, 14, Value.int .i64 i), (6, 15, Value.pointer (some ⟨x, 0, none⟩)), (7, 16, Value.pointer (some ⟨x, 0, none⟩)), (8, 17, Value.pointer (some ⟨x, 1, none⟩)), (9, 18, Value.int .i64 i), (10, 19, .bool false), (11, 20, .bool false), (12, 21, .bool false), (13, 22, Value.agg #[.int .i64 5, .int .i64 cl, .int .i64 i, .int .i64 nc, .slice (some ⟨g2, 0, none⟩) ys.length cap]), (14, 23, .bool false), (15, 24, .bool true), (16, 25, .bool true)] d s) [0, 1, 2, 3, 4, 5, 6, 7, 8, 9, 10, 11, 12, 13, 14, 15, 16] (by kernel_rfl) (by kernel_rfl) (by kernel_rfl) ?_ ?_ ?_
    · intro s
      exact ⟨HS3.out.drew, Looks.none _ _⟩
    · refine StepsR.cons (k := 0) [] (by kernel_rfl) ?_ (StepsR.cons (k := 1) [0] (by kernel_rfl) ?_ (StepsR.cons (k := 2) [1] (by kernel_rfl) ?_ (StepsR.cons (k := 3) [2] (by kernel_rfl) ?_ (StepsR.cons (k := 4) [3] (by kernel_rfl) ?_ (StepsR.cons (k := 5) [3, 4] (by kernel_rfl) ?_ (StepsR.cons (k := 6) [3] (by kernel_rfl) ?_ (StepsR.cons (k := 7) [3, 6] (by kernel_rfl) ?_ (StepsR.cons (k := 8) [3, 7] (by kernel_rfl) ?_ (StepsR.cons (k := 9) [3, 8] (by kernel_rfl) ?_ (StepsR.cons (k := 10) [3, 5, 9] (by kernel_rfl) ?_ (StepsR.cons (k := 11) [3, 10] (by kernel_rfl) ?_ (StepsR.cons (k := 12) [11] (by kernel_rfl) ?_ (StepsR.cons (k := 13) [12] (by kernel_rfl) ?_ (StepsR.cons (k := 14) [13, 12] (by kernel_rfl) ?_ (StepsR.cons (k := 15) [12, 14] (by kernel_rfl) ?_ (StepsR.cons (k := 16) [12, 15] (by kernel_rfl) ?_ (StepsR.nil)))))))))))))))))
      · intro d s w9 hd hA hC hF K hK
        have hB9 := hF.1.bel
        simp only [putL, putT, List.setIfInBounds_toArray, List.set_cons_zero, List.set_cons_succ]
        clear hB9
        as_aux_lemma =>
          go_simp
          refine hK.out (updS s 9 (Value.pointer (some ⟨w.heap.size, 0, none⟩))) _ _ ?_ ⟨hF.1, hF.2.put 0 9 (Value.pointer (some ⟨w.heap.size, 0, none⟩)) rfl (by simp)⟩
          simp only [putL, putT, List.setIfInBounds_toArray, List.set_cons_zero, List.set_cons_succ]; rfl
      · intro d s w9 hd hA hC hF K hK
        have hB9 := hF.1.bel
        simp only [putL, putT, List.setIfInBounds_toArray, List.set_cons_zero, List.set_cons_succ]
        clear hB9
        as_aux_lemma =>
          have eq0 : s 9 = Value.pointer (some ⟨w.heap.size, 0, none⟩) := hF.2 (0, 9, Value.pointer (some ⟨w.heap.size, 0, none⟩)) (by simp) (hA.1)
          rw [eq0]
          have p0 := hF.1.cell 0 rfl 0 (.int .i64 5) rfl
          go_simp
          clear p0
          refine hK.out (updS s 10 (Value.int .i64 5)) _ _ ?_ ⟨hF.1, hF.2.put 1 10 (Value.int .i64 5) rfl (by simp)⟩
          simp only [putL, putT, List.setIfInBounds_toArray, List.set_cons_zero, List.set_cons_succ]; rw [show updS s 10 (Value.int .i64 5) 9 = Value.pointer (some ⟨w.heap.size, 0, none⟩) from eq0]; rfl
      · intro d s w9 hd hA hC hF K hK
        have hB9 := hF.1.bel
        simp only [putL, putT, List.setIfInBounds_toArray, List.set_cons_zero, List.set_cons_succ]
        clear hB9
        as_aux_lemma =>
          have eq1 : s 10 = Value.int .i64 5 := hF.2 (1, 10, Value.int .i64 5) (by simp) (hA.1)
          rw [eq1]
          go_simp
          refine hK.out (updS s 11 (.bool false)) _ _ ?_ ⟨hF.1, hF.2.put 2 11 (.bool false) rfl (by simp)⟩
          simp only [putL, putT, List.setIfInBounds_toArray, List.set_cons_zero, List.set_cons_succ]; rw [show updS s 11 (.bool false) 10 = Value.int .i64 5 from eq1]; rfl
      · intro d s w9 hd hA hC hF K hK
        have hB9 := hF.1.bel
        simp only [putL, putT, List.setIfInBounds_toArray, List.set_cons_zero, List.set_cons_succ]
        clear hB9
        as_aux_lemma =>
          have eq2 : s 11 = .bool false := hF.2 (2, 11, .bool false) (by simp) (hA.1)
          rw [eq2]
          go_simp
          refine hK.out (updS s 12 (.bool false)) _ _ ?_ ⟨hF.1, hF.2.put 3 12 (.bool false) rfl (by simp)⟩
          simp only [putL, putT, List.setIfInBounds_toArray, List.set_cons_zero, List.set_cons_succ]; rw [show updS s 12 (.bool false) 11 = .bool false from eq2]; rfl
      · intro d s w9 hd hA hC hF K hK
        have hB9 := hF.1.bel
        simp only [putL, putT, List.setIfInBounds_toArray, List.set_cons_zero, List.set_cons_succ]
        clear hB9
        as_aux_lemma =>
          have eq3 : s 12 = .bool false := hF.2 (3, 12, .bool false) (by simp) (hA.1)
          rw [eq3]
          go_simp
          refine hK.out (updS s 13 (Value.pointer (some ⟨w.heap.size, 2, none⟩))) _ _ ?_ ⟨hF.1, hF.2.put 4 13 (Value.pointer (some ⟨w.heap.size, 2, none⟩)) rfl (by simp)⟩
          simp only [putL, putT, List.setIfInBounds_toArray, List.set_cons_zero, List.set_cons_succ]; rw [show updS s 13 (Value.pointer (some ⟨w.heap.size, 2, none⟩)) 12 = .bool false from eq3]; rfl
      · intro d s w9 hd hA hC hF K hK
        have hB9 := hF.1.bel
        simp only [putL, putT, List.setIfInBounds_toArray, List.set_cons_zero, List.set_cons_succ]
        clear hB9
        as_aux_lemma =>
          have eq3 : s 12 = .bool false := hF.2 (3, 12, .bool false) (by simp) (hA.1)
          have eq4 : s 13 = Value.pointer (some ⟨w.heap.size, 2, none⟩) := hF.2 (4, 13, Value.pointer (some ⟨w.heap.size, 2, none⟩)) (by simp) (hA.2.1)
          rw [eq3, eq4]
          have p2 := hF.1.cell 0 rfl 2 (.int .i64 i) rfl
          go_simp
          clear p2
          refine hK.out (updS s 14 (Value.int .i64 i)) _ _ ?_ ⟨hF.1, hF.2.put 5 14 (Value.int .i64 i) rfl (by simp)⟩
          simp only [putL, putT, List.setIfInBounds_toArray, List.set_cons_zero, List.set_cons_succ]; rw [show updS s 14 (Value.int .i64 i) 12 = .bool false from eq3, show updS s 14 (Value.int .i64 i) 13 = Value.pointer (some ⟨w.heap.size, 2, none⟩) from eq4]; rfl
      · intro d s w9 hd hA hC hF K hK
        have hB9 := hF.1.bel
        simp only [putL, putT, List.setIfInBounds_toArray, List.set_cons_zero, List.set_cons_succ]
        clear hB9
        as_aux_lemma =>
          have eq3 : s 12 = .bool false := hF.2 (3, 12, .bool false) (by simp) (hA.1)
          rw [eq3]
          go_simp
          refine hK.out (updS s 15 (Value.pointer (some ⟨x, 0, none⟩))) _ _ ?_ ⟨hF.1, hF.2.put 6 15 (Value.pointer (some ⟨x, 0, none⟩)) rfl (by simp)⟩
          simp only [putL, putT, List.setIfInBounds_toArray, List.set_cons_zero, List.set_cons_succ]; rw [show updS s 15 (Value.pointer (some ⟨x, 0, none⟩)) 12 = .bool false from eq3]; rfl
      · intro d s w9 hd hA hC hF K hK
        have hB9 := hF.1.bel
        simp only [putL, putT, List.setIfInBounds_toArray, List.set_cons_zero, List.set_cons_succ]
        clear hB9
        as_aux_lemma =>
          have eq3 : s 12 = .bool false := hF.2 (3, 12, .bool false) (by simp) (hA.1)
          have eq6 : s 15 = Value.pointer (some ⟨x, 0, none⟩) := hF.2 (6, 15, Value.pointer (some ⟨x, 0, none⟩)) (by simp) (hA.2.1)
          rw [eq3, eq6]
          go_simp
          refine hK.out (updS s 16 (Value.pointer (some ⟨x, 0, none⟩))) _ _ ?_ ⟨hF.1, hF.2.put 7 16 (Value.pointer (some ⟨x, 0, none⟩)) rfl (by simp)⟩
          simp only [putL, putT, List.setIfInBounds_toArray, List.set_cons_zero, List.set_cons_succ]; rw [show updS s 16 (Value.pointer (some ⟨x, 0, none⟩)) 12 = .bool false from eq3, show updS s 16 (Value.pointer (some ⟨x, 0, none⟩)) 15 = Value.pointer (some ⟨x, 0, none⟩) from eq6]; rfl
      · intro d s w9 hd hA hC hF K hK
        have hB9 := hF.1.bel
        simp only [putL, putT, List.setIfInBounds_toArray, List.set_cons_zero, List.set_cons_succ]
        clear hB9
        as_aux_lemma =>
          have eq3 : s 12 = .bool false := hF.2 (3, 12, .bool false) (by simp) (hA.1)
          have eq7 : s 16 = Value.pointer (some ⟨x, 0, none⟩) := hF.2 (7, 16, Value.pointer (some ⟨x, 0, none⟩)) (by simp) (hA.2.1)
          rw [eq3, eq7]
          go_simp
          refine hK.out (updS s 17 (Value.pointer (some ⟨x, 1, none⟩))) _ _ ?_ ⟨hF.1, hF.2.put 8 17 (Value.pointer (some ⟨x, 1, none⟩)) rfl (by simp)⟩
          simp only [putL, putT, List.setIfInBounds_toArray, List.set_cons_zero, List.set_cons_succ]; rw [show updS s 17 (Value.pointer (some ⟨x, 1, none⟩)) 12 = .bool false from eq3, show updS s 17 (Value.pointer (some ⟨x, 1, none⟩)) 16 = Value.pointer (some ⟨x, 0, none⟩) from eq7]; rfl
      · intro d s w9 hd hA hC hF K hK
        have hB9 := hF.1.bel
        simp only [putL, putT, List.setIfInBounds_toArray, List.set_cons_zero, List.set_cons_succ]
        clear hB9
        as_aux_lemma =>
          have eq3 : s 12 = .bool false := hF.2 (3, 12, .bool false) (by simp) (hA.1)
          have eq8 : s 17 = Value.pointer (some ⟨x, 1, none⟩) := hF.2 (8, 17, Value.pointer (some ⟨x, 1, none⟩)) (by simp) (hA.2.1)
          rw [eq3, eq8]
          have hx9 := HX.out.1.later hF.1.bel
          have p1 := hx9.at 1 _ rfl
          go_simp
          clear hx9 p1
          refine hK.out (updS s 18 (Value.int .i64 i)) _ _ ?_ ⟨hF.1, hF.2.put 9 18 (Value.int .i64 i) rfl (by simp)⟩
          simp only [putL, putT, List.setIfInBounds_toArray, List.set_cons_zero, List.set_cons_succ]; rw [show updS s 18 (Value.int .i64 i) 12 = .bool false from eq3, show updS s 18 (Value.int .i64 i) 17 = Value.pointer (some ⟨x, 1, none⟩) from eq8]; rfl
      · intro d s w9 hd hA hC hF K hK
        have hB9 := hF.1.bel
        simp only [putL, putT, List.setIfInBounds_toArray, List.set_cons_zero, List.set_cons_succ]
        clear hB9
        as_aux_lemma =>
          have eq3 : s 12 = .bool false := hF.2 (3, 12, .bool false) (by simp) (hA.1)
          have eq5 : s 14 = Value.int .i64 i := hF.2 (5, 14, Value.int .i64 i) (by simp) (hA.2.1)
          have eq9 : s 18 = Value.int .i64 i := hF.2 (9, 18, Value.int .i64 i) (by simp) (hA.2.2.1)
          rw [eq3, eq5, eq9]
          go_simp
          refine hK.out (updS s 19 (.bool false)) _ _ ?_ ⟨hF.1, hF.2.put 10 19 (.bool false) rfl (by simp)⟩
          simp only [putL, putT, List.setIfInBounds_toArray, List.set_cons_zero, List.set_cons_succ]; rw [show updS s 19 (.bool false) 12 = .bool false from eq3, show updS s 19 (.bool false) 14 = Value.int .i64 i from eq5, show updS s 19 (.bool false) 18 = Value.int .i64 i from eq9]; rfl
      · intro d s w9 hd hA hC hF K hK
        have hB9 := hF.1.bel
        simp only [putL, putT, List.setIfInBounds_toArray, List.set_cons_zero, List.set_cons_succ]
        clear hB9
        as_aux_lemma =>
          have eq3 : s 12 = .bool false := hF.2 (3, 12, .bool false) (by simp) (hA.1)
          have eq10 : s 19 = .bool false := hF.2 (10, 19, .bool false) (by simp) (hA.2.1)
          rw [eq3, eq10]
          go_simp
          refine hK.out (updS s 20 (.bool false)) _ _ ?_ ⟨hF.1, hF.2.put 11 20 (.bool false) rfl (by simp)⟩
          simp only [putL, putT, List.setIfInBounds_toArray, List.set_cons_zero, List.set_cons_succ]; rw [show updS s 20 (.bool false) 12 = .bool false from eq3, show updS s 20 (.bool false) 19 = .bool false from eq10]; rfl
      · intro d s w9 hd hA hC hF K hK
        have hB9 := hF.1.bel
        simp only [putL, putT, List.setIfInBounds_toArray, List.set_cons_zero, List.set_cons_succ]
        clear hB9
        as_aux_lemma =>
          have eq11 : s 20 = .bool false := hF.2 (11, 20, .bool false) (by simp) (hA.1)
          rw [eq11]
          go_simp
          refine hK.out (updS s 21 (.bool false)) _ _ ?_ ⟨hF.1, hF.2.put 12 21 (.bool false) rfl (by simp)⟩
          simp only [putL, putT, List.setIfInBounds_toArray, List.set_cons_zero, List.set_cons_succ]; rw [show updS s 21 (.bool false) 20 = .bool false from eq11]; rfl
      · intro d s w9 hd hA hC hF K hK
        have hB9 := hF.1.bel
        simp only [putL, putT, List.setIfInBounds_toArray, List.set_cons_zero, List.set_cons_succ]
        clear hB9
        as_aux_lemma =>
          have eq12 : s 21 = .bool false := hF.2 (12, 21, .bool false) (by simp) (hA.1)
          rw [eq12]
          have p0 := hF.1.cell 0 rfl 0 (.int .i64 5) rfl
          have p1 := hF.1.cell 0 rfl 1 (.int .i64 cl) rfl
          have p2 := hF.1.cell 0 rfl 2 (.int .i64 i) rfl
          have p3 := hF.1.cell 0 rfl 3 (.int .i64 nc) rfl
          have p4 := hF.1.cell 0 rfl 4 (.slice (some ⟨g2, 0, none⟩) ys.length cap) rfl
          go_simp
          clear p0 p1 p2 p3 p4
          refine hK.out (updS s 22 (Value.agg #[.int .i64 5, .int .i64 cl, .int .i64 i, .int .i64 nc, .slice (some ⟨g2, 0, none⟩) ys.length cap])) _ _ ?_ ⟨hF.1, hF.2.put 13 22 (Value.agg #[.int .i64 5, .int .i64 cl, .int .i64 i, .int .i64 nc, .slice (some ⟨g2, 0, none⟩) ys.length cap]) rfl (by simp)⟩
          simp only [putL, putT, List.setIfInBounds_toArray, List.set_cons_zero, List.set_cons_succ]; rw [show updS s 22 (Value.agg #[.int .i64 5, .int .i64 cl, .int .i64 i, .int .i64 nc, .slice (some ⟨g2, 0, none⟩) ys.length cap]) 21 = .bool false from eq12]; rfl
      · intro d s w9 hd hA hC hF K hK
        have hB9 := hF.1.bel
        simp only [putL, putT, List.setIfInBounds_toArray, List.set_cons_zero, List.set_cons_succ]
        clear hB9
        as_aux_lemma =>
          have eq13 : s 22 = Value.agg #[.int .i64 5, .int .i64 cl, .int .i64 i, .int .i64 nc, .slice (some ⟨g2, 0, none⟩) ys.length cap] := hF.2 (13, 22, Value.agg #[.int .i64 5, .int .i64 cl, .int .i64 i, .int .i64 nc, .slice (some ⟨g2, 0, none⟩) ys.length cap]) (by simp) (hA.1)
          have eq12 : s 21 = .bool false := hF.2 (12, 21, .bool false) (by simp) (hA.2.1)
          rw [eq13, eq12]
          go_simp
          refine (implMsg_any 5 cl i nc _ _ ys _ (HX.out.2.1.later hF.1.bel) hy (HX.out.2.2.later hF.1.bel)).mono ?_
          rintro r w8 ⟨rfl, b9⟩
          rw [u4]
          go_simp
          refine hK.out (updS s 23 (.bool false)) _ _ ?_ ⟨St.grow b9 hF.1, hF.2.put 14 23 (.bool false) rfl (by simp)⟩
          simp only [putL, putT, List.setIfInBounds_toArray, List.set_cons_zero, List.set_cons_succ]
          rw [show updS s 23 (.bool false) 22 = Value.agg #[.int .i64 5, .int .i64 cl, .int .i64 i, .int .i64 nc, .slice (some ⟨g2, 0, none⟩) ys.length cap] from eq13, show updS s 23 (.bool false) 21 = .bool false from eq12] <;> rfl
      · intro d s w9 hd hA hC hF K hK
        have hB9 := hF.1.bel
        simp only [putL, putT, List.setIfInBounds_toArray, List.set_cons_zero, List.set_cons_succ]
        clear hB9
        as_aux_lemma =>
          have eq12 : s 21 = .bool false := hF.2 (12, 21, .bool false) (by simp) (hA.1)
          have eq14 : s 23 = .bool false := hF.2 (14, 23, .bool false) (by simp) (hA.2.1)
          rw [eq12, eq14]
          go_simp
          refine hK.out (updS s 24 (.bool true)) _ _ ?_ ⟨hF.1, hF.2.put 15 24 (.bool true) rfl (by simp)⟩
          simp only [putL, putT, List.setIfInBounds_toArray, List.set_cons_zero, List.set_cons_succ]; rw [show updS s 24 (.bool true) 21 = .bool false from eq12, show updS s 24 (.bool true) 23 = .bool false from eq14]; rfl
      · intro d s w9 hd hA hC hF K hK
        have hB9 := hF.1.bel
        simp only [putL, putT, List.setIfInBounds_toArray, List.set_cons_zero, List.set_cons_succ]
        clear hB9
        as_aux_lemma =>
          have eq12 : s 21 = .bool false := hF.2 (12, 21, .bool false) (by simp) (hA.1)
          have eq15 : s 24 = .bool true := hF.2 (15, 24, .bool true) (by simp) (hA.2.1)
          rw [eq12, eq15]
          go_simp
          refine hK.out (updS s 25 (.bool true)) _ _ ?_ ⟨hF.1, hF.2.put 16 25 (.bool true) rfl (by simp)⟩
          simp only [putL, putT, List.setIfInBounds_toArray, List.set_cons_zero, List.set_cons_succ]; rw [show updS s 25 (.bool true) 21 = .bool false from eq12, show updS s 25 (.bool true) 24 = .bool true from eq15]; rfl
    · intro d s w3 hA hF
      have hS := hF.1
      have eq16 : s 25 = .bool true := hF.2 (16, 25, .bool true) (by simp) (hA.2.2.2.2.2.2.2.2.2.2.2.2.2.2.2.2.1)
      have HS4 : Hid (St w.heap.size w [⟨w.heap.size, 33, #[.int .i64 5, .int .i64 cl, .int .i64 i, .int .i64 nc, .slice (some ⟨g2, 0, none⟩) ys.length cap]⟩] [] w3) := hS
      clear hS hF hA HS3
      simp only [putL, putT, List.setIfInBounds_toArray, List.set_cons_zero, List.set_cons_succ]
      rw [eq16]
      clear eq16
      go_wp2_with fail
      go_ret
      exact ⟨by unfold calledH; simp [u4], HS4.out.bel⟩
  obtain ⟨t, u, hys, hto, huo⟩ := msg5 u4
  have hyl : ys.length = 2 := by rw [hys]; rfl
  have EG : Hid (calledH i s9 5 cl i nc ys now = (shB t u i now && decide (s9 < u.b))) := Hid.mk' (by unfold calledH; rw [u4, hys]; simp)
  have HY : Hid (ys = [t, u]) := hys
  clear hys hto huo
  have hy0 : 0 < ys.length := by omega
  have hy1 : 1 < ys.length := by omega
  have hy2 : (1 : Int) < (ys.length : Int) := by omega
  clear hyl
  obtain ⟨sb, hsb⟩ : ∃ sb, sb = shB t u i now := ⟨_, rfl⟩
  have HSB : Hid (sb = shB t u i now) := hsb
  clear hsb
  obtain ⟨le9, hle⟩ : ∃ le9, le9 = decide (s9 < u.b) := ⟨_, rfl⟩
  have HLE : Hid (le9 = decide (s9 < u.b)) := hle
  clear hle
  go_enter Tryd.func47, Tryd.ntmps47
  go_wp2_with fail
  obtain ⟨w1, hX9, HS4⟩ : ∃ X, X = (w.alloc (.cells #[.int .i64 5, .int .i64 cl, .int .i64 i, .int .i64 nc, .slice (some ⟨g2, 0, none⟩) ys.length cap] 33)) ∧ Hid (St w.heap.size w [⟨w.heap.size, 33, #[.int .i64 5, .int .i64 cl, .int .i64 i, .int .i64 nc, .slice (some ⟨g2, 0, none⟩) ys.length cap]⟩] [] X) := ⟨_, rfl, Hid.mk' (by
    have h := (St.alloc #[.int .i64 5, .int .i64 cl, .int .i64 i, .int .i64 nc, .slice (some ⟨g2, 0, none⟩) ys.length cap] 33 (St.new w))
    try simp only [World.size_alloc] at h
    try simp only [World.size_setCell] at h
    exact h)⟩
  rw [← hX9]
  clear hX9
  refine wp_region_walk [9, 10, 11, 12, 13, 14, 15, 16, 17, 18, 19, 20, 21, 22, 23, 24, 25] (fun d s W => St w.heap.size w [⟨w.heap.size, 33, #[.int .i64 5, .int .i64 cl, .int .i64 i, .int .i64 nc, .slice (some ⟨g2, 0, none⟩) ys.length cap]⟩] [] W ∧ Looks [(0, 9, Value.pointer (some ⟨w.heap.size, 0, none⟩)), (1, 10, Value.int .i64 5), (2, 11, .bool false), (3, 12, .bool false), (4, 13, Value.pointer (some ⟨w.heap.size, 2, none⟩)), (5, 14, Value.int .i64 i), (6, 15, Value.pointer (some ⟨x, 0, none⟩)), (7, 16, Value.pointer (some ⟨x, 0, none⟩)), (8, 17, Value.pointer (some ⟨x, 1, none⟩)), (9, 18, Value.int .i64 i), (10, 19, .bool false), (11, 20, .bool false), (12, 21, .bool false), (13, 22, Value.agg #[.int .i64 5, .int .i64 cl, .int .i64 i, .int .i64 nc, .slice (some ⟨g2, 0, none⟩) ys.length cap]), (14, 23, .bool true), (15, 24, .bool false), (16, 25, .bool false)] d s) [0, 1, 2, 3, 4, 5, 6, 7, 8, 9, 10, 11, 12, 13, 14, 15, 16] (by kernel_rfl) (by kernel_rfl) (by kernel_rfl) ?_ ?_ ?_
  · intro s
    exact ⟨HS4.out.drew, Looks.none _ _⟩
  · refine StepsR.cons (k := 0) [] (by kernel_rfl) ?_ (StepsR.cons (k := 1) [0] (by kernel_rfl) ?_ (StepsR.cons (k := 2) [1] (by kernel_rfl) ?_ (StepsR.cons (k := 3) [2] (by kernel_rfl) ?_ (StepsR.cons (k := 4) [3] (by kernel_rfl) ?_ (StepsR.cons (k := 5) [3, 4] (by kernel_rfl) ?_ (StepsR.cons (k := 6) [3] (by kernel_rfl) ?_ (StepsR.cons (k := 7) [3, 6] (by kernel_rfl) ?_ (StepsR.cons (k := 8) [3, 7] (by kernel_rfl) ?_ (StepsR.cons (k := 9) [3, 8] (by kernel_rfl) ?_ (StepsR.cons (k := 10) [3, 5, 9] (by kernel_rfl) ?_ (StepsR.cons (k := 11) [3, 10] (by kernel_rfl) ?_ (StepsR.cons (k := 12) [11] (by kernel_rfl) ?_ (StepsR.cons (k := 13) [12] (by kernel_rfl) ?_ (StepsR.cons (k := 14) [13, 12] (by kernel_rfl) ?_ (StepsR.cons (k := 15) [12, 14] (by kernel_rfl) ?_ (StepsR.cons (k := 16) [12, 15] (by kernel_rfl) ?_ (StepsR.nil)))))))))))))))))
    · intro d s w9 hd hA hC hF K hK
      have hB9 := hF.1.bel
      simp only [putL, putT, List.setIfInBounds_toArray, List.set_cons_zero, List.set_cons_succ]
      clear hB9
      as_aux_lemma =>
        go_simp
        refine hK.out (updS s 9 (Value.pointer (some ⟨w.heap.size, 0, none⟩))) _ _ ?_ ⟨hF.1, hF.2.put 0 9 (Value.pointer (some ⟨w.heap.size, 0, none⟩)) rfl (by simp)⟩
        simp only [putL, putT, List.setIfInBounds_toArray, List.set_cons_zero, List.set_cons_succ]; rfl
    · intro d s w9 hd hA hC hF K hK
      have hB9 := hF.1.bel
      simp only [putL, putT, List.setIfInBounds_toArray, List.set_cons_zero, List.set_cons_succ]
      clear hB9
      as_aux_lemma =>
        have eq0 : s 9 = Value.pointer (some ⟨w.heap.size, 0, none⟩) := hF.2 (0, 9, Value.pointer (some ⟨w.heap.size, 0, none⟩)) (by simp) (hA.1)
        rw [eq0]
        have p0 := hF.1.cell 0 rfl 0 (.int .i64 5) rfl
        go_simp
        clear p0
        refine hK.out (updS s 10 (Value.int .i64 5)) _ _ ?_ ⟨hF.1, hF.2.put 1 10 (Value.int .i64 5) rfl (by simp)⟩
        simp only [putL, putT, List.setIfInBounds_toArray, List.set_cons_zero, List.set_cons_succ]; rw [show updS s 10 (Value.int .i64 5) 9 = Value.pointer (some ⟨w.heap.size, 0, none⟩) from eq0]; rfl
    · intro d s w9 hd hA hC hF K hK
      have hB9 := hF.1.bel
      simp only [putL, putT, List.setIfInBounds_toArray, List.set_cons_zero, List.set_cons_succ]
      clear hB9
      as_aux_lemma =>
        have eq1 : s 10 = Value.int .i64 5 := hF.2 (1, 10, Value.int .i64 5) (by simp) (hA.1)
        rw [eq1]
        go_simp
        refine hK.out (updS s 11 (.bool false)) _ _ ?_ ⟨hF.1, hF.2.put 2 11 (.bool false) rfl (by simp)⟩
        simp only [putL, putT, List.setIfInBounds_toArray, List.set_cons_zero, List.set_cons_succ]; rw [show updS s 11 (.bool false) 10 = Value.int .i64 5 from eq1]; rfl
    · intro d s w9 hd hA hC hF K hK
      have hB9 := hF.1.bel
      simp only [putL, putT, List.setIfInBounds_toArray, List.set_cons_zero, List.set_cons_succ]
      clear hB9
      as_aux_lemma =>
        have eq2 : s 11 = .bool false := hF.2 (2, 11, .bool false) (by simp) (hA.1)
        rw [eq2]
        go_simp
        refine hK.out (updS s 12 (.bool false)) _ _ ?_ ⟨hF.1, hF.2.put 3 12 (.bool false) rfl (by simp)⟩
        simp only [putL, putT, List.setIfInBounds_toArray, List.set_cons_zero, List.set_cons_succ]; rw [show updS s 12 (.bool false) 11 = .bool false from eq2]; rfl
    · intro d s w9 hd hA hC hF K hK
      have hB9 := hF.1.bel
      simp only [putL, putT, List.setIfInBounds_toArray, List.set_cons_zero, List.set_cons_succ]
      clear hB9
      as_aux_lemma =>
        have eq3 : s 12 = .bool false := hF.2 (3, 12, .bool false) (by simp) (hA.1)
        rw [eq3]
        go_simp
        refine hK.out (updS s 13 (Value.pointer (some ⟨w.heap.size, 2, none⟩))) _ _ ?_ ⟨hF.1, hF.2.put 4 13 (Value.pointer (some ⟨w.heap.size, 2, none⟩)) rfl (by simp)⟩
        simp only [putL, putT, List.setIfInBounds_toArray, List.set_cons_zero, List.set_cons_succ]; rw [show updS s 13 (Value.pointer (some ⟨w.heap.size, 2, none⟩)) 12 = .bool false from eq3]; rfl
    · intro d s w9 hd hA hC hF K hK
      have hB9 := hF.1.bel
      simp only [putL, putT, List.setIfInBounds_toArray, List.set_cons_zero, List.set_cons_succ]
      clear hB9
      as_aux_lemma =>
        have eq3 : s 12 = .bool false := hF.2 (3, 12, .bool false) (by simp) (hA.1)
        have eq4 : s 13 = Value.pointer (some ⟨w.heap.size, 2, none⟩) := hF.2 (4, 13, Value.pointer (some ⟨w.heap.size, 2, none⟩)) (by simp) (hA.2.1)
        rw [eq3, eq4]
        have p2 := hF.1.cell 0 rfl 2 (.int .i64 i) rfl
        go_simp
        clear p2
        refine hK.out (updS s 14 (Value.int .i64 i)) _ _ ?_ ⟨hF.1, hF.2.put 5 14 (Value.int .i64 i) rfl (by simp)⟩
        simp only [putL, putT, List.setIfInBounds_toArray, List.set_cons_zero, List.set_cons_succ]; rw [show updS s 14 (Value.int .i64 i) 12 = .bool false from eq3, show updS s 14 (Value.int .i64 i) 13 = Value.pointer (some ⟨w.heap.size, 2, none⟩) from eq4]; rfl
    · intro d s w9 hd hA hC hF K hK
      have hB9 := hF.1.bel
      simp only [putL, putT, List.setIfInBounds_toArray, List.set_cons_zero, List.set_cons_succ]
      clear hB9
      as_aux_lemma =>
        have eq3 : s 12 = .bool false := hF.2 (3, 12, .bool false) (by simp) (hA.1)
        rw [eq3]
        go_simp
        refine hK.out (updS s 15 (Value.pointer (some ⟨x, 0, none⟩))) _ _ ?_ ⟨hF.1, hF.2.put 6 15 (Value.pointer (some ⟨x, 0, none⟩)) rfl (by simp)⟩
        simp only [putL, putT, List.setIfInBounds_toArray, List.set_cons_zero, List.set_cons_succ]; rw [show updS s 15 (Value.pointer (some ⟨x, 0, none⟩)) 12 = .bool false from eq3]; rfl
    · intro d s w9 hd hA hC hF K hK
      have hB9 := hF.1.bel
      simp only [putL, putT, List.setIfInBounds_toArray, List.set_cons_zero, List.set_cons_succ]
      clear hB9
      as_aux_lemma =>
        have eq3 : s 12 = .bool false := hF.2 (3, 12, .bool false) (by simp) (hA.1)
        have eq6 : s 15 = Value.pointer (some ⟨x, 0, none⟩) := hF.2 (6, 15, Value.pointer (some ⟨x, 0, none⟩)) (by simp) (hA.2.1)
        rw [eq3, eq6]
        go_simp
        refine hK.out (updS s 16 (Value.pointer (some ⟨x, 0, none⟩))) _ _ ?_ ⟨hF.1, hF.2.put 7 16 (Value.pointer (some ⟨x, 0, none⟩)) rfl (by simp)⟩
        simp only [putL, putT, List.setIfInBounds_toArray, List.set_cons_zero, List.set_cons_succ]; rw [show updS s 16 (Value.pointer (some ⟨x, 0, none⟩)) 12 = .bool false from eq3, show updS s 16 (Value.pointer (some ⟨x, 0, none⟩)) 15 = Value.pointer (some ⟨x, 0, none⟩) from eq6]; rfl
    · intro d s w9 hd hA hC hF K hK
      have hB9 := hF.1.bel
      simp only [putL, putT, List.setIfInBounds_toArray, List.set_cons_zero, List.set_cons_succ]
      clear hB9
      as_aux_lemma =>
        have eq3 : s 12 = .bool false := hF.2 (3, 12, .bool false) (by simp) (hA.1)
        have eq7 : s 16 = Value.pointer (some ⟨x, 0, none⟩) := hF.2 (7, 16, Value.pointer (some ⟨x, 0, none⟩)) (by simp) (hA.2.1)
        rw [eq3, eq7]
        go_simp
        refine hK.out (updS s 17 (Value.pointer (some ⟨x, 1, none⟩))) _ _ ?_ ⟨hF.1, hF.2.put 8 17 (Value.pointer (some ⟨x, 1, none⟩)) rfl (by simp)⟩
        simp only [putL, putT, List.setIfInBounds_toArray, List.set_cons_zero, List.set_cons_succ]; rw [show updS s 17 (Value.pointer (some ⟨x, 1, none⟩)) 12 = .bool false from eq3, show updS s 17 (Value.pointer (some ⟨x, 1, none⟩)) 16 = Value.pointer (some ⟨x, 0, none⟩) from eq7]; rfl
    · intro d s w9 hd hA hC hF K hK
      have hB9 := hF.1.bel
      simp only [putL, putT, List.setIfInBounds_toArray, List.set_cons_zero, List.set_cons_succ]
      clear hB9
      as_aux_lemma =>
        have eq3 : s 12 = .bool false := hF.2 (3, 12, .bool false) (by simp) (hA.1)
        have eq8 : s 17 = Value.pointer (some ⟨x, 1, none⟩) := hF.2 (8, 17, Value.pointer (some ⟨x, 1, none⟩)) (by simp) (hA.2.1)
        rw [eq3, eq8]
        have hx9 := HX.out.1.later hF.1.bel
        have p1 := hx9.at 1 _ rfl
        go_simp
        clear hx9 p1
        refine hK.out (updS s 18 (Value.int .i64 i)) _ _ ?_ ⟨hF.1, hF.2.put 9 18 (Value.int .i64 i) rfl (by simp)⟩
        simp only [putL, putT, List.setIfInBounds_toArray, List.set_cons_zero, List.set_cons_succ]; rw [show updS s 18 (Value.int .i64 i) 12 = .bool false from eq3, show updS s 18 (Value.int .i64 i) 17 = Value.pointer (some ⟨x, 1, none⟩) from eq8]; rfl
    · intro d s w9 hd hA hC hF K hK
      have hB9 := hF.1.bel
      simp only [putL, putT, List.setIfInBounds_toArray, List.set_cons_zero, List.set_cons_succ]
      clear hB9
      as_aux_lemma =>
        have eq3 : s 12 = .bool false := hF.2 (3, 12, .bool false) (by simp) (hA.1)
        have eq5 : s 14 = Value.int .i64 i := hF.2 (5, 14, Value.int .i64 i) (by simp) (hA.2.1)
        have eq9 : s 18 = Value.int .i64 i := hF.2 (9, 18, Value.int .i64 i) (by simp) (hA.2.2.1)
        rw [eq3, eq5, eq9]
        go_simp
        refine hK.out (updS s 19 (.bool false)) _ _ ?_ ⟨hF.1, hF.2.put 10 19 (.bool false) rfl (by simp)⟩
        simp only [putL, putT, List.setIfInBounds_toArray, List.set_cons_zero, List.set_cons_succ]; rw [show updS s 19 (.bool false) 12 = .bool false from eq3, show updS s 19 (.bool false) 14 = Value.int .i64 i from eq5, show updS s 19 (.bool false) 18 = Value.int .i64 i from eq9]; rfl
    · intro d s w9 hd hA hC hF K hK
      have hB9 := hF.1.bel
      simp only [putL, putT, List.setIfInBounds_toArray, List.set_cons_zero, List.set_cons_succ]
      clear hB9
      as_aux_lemma =>
        have eq3 : s 12 = .bool false := hF.2 (3, 12, .bool false) (by simp) (hA.1)
        have eq10 : s 19 = .bool false := hF.2 (10, 19, .bool false) (by simp) (hA.2.1)
        rw [eq3, eq10]
        go_simp
        refine hK.out (updS s 20 (.bool false)) _ _ ?_ ⟨hF.1, hF.2.put 11 20 (.bool false) rfl (by simp)⟩
        simp only [putL, putT, List.setIfInBounds_toArray, List.set_cons_zero, List.set_cons_succ]; rw [show updS s 20 (.bool false) 12 = .bool false from eq3, show updS s 20 (.bool false) 19 = .bool false from eq10]; rfl
    · intro d s w9 hd hA hC hF K hK
      have hB9 := hF.1.bel
      simp only [putL, putT, List.setIfInBounds_toArray, List.set_cons_zero, List.set_cons_succ]
      clear hB9
      as_aux_lemma =>
        have eq11 : s 20 = .bool false := hF.2 (11, 20, .bool false) (by simp) (hA.1)
        rw [eq11]
        go_simp
        refine hK.out (updS s 21 (.bool false)) _ _ ?_ ⟨hF.1, hF.2.put 12 21 (.bool false) rfl (by simp)⟩
        simp only [putL, putT, List.setIfInBounds_toArray, List.set_cons_zero, List.set_cons_succ]; rw [show updS s 21 (.bool false) 20 = .bool false from eq11]; rfl
    · intro d s w9 hd hA hC hF K hK
      have hB9 := hF.1.bel
      simp only [putL, putT, List.setIfInBounds_toArray, List.set_cons_zero, List.set_cons_succ]
      clear hB9
      as_aux_lemma =>
        have eq12 : s 21 = .bool false := hF.2 (12, 21, .bool false) (by simp) (hA.1)
        rw [eq12]
        have p0 := hF.1.cell 0 rfl 0 (.int .i64 5) rfl
        have p1 := hF.1.cell 0 rfl 1 (.int .i64 cl) rfl
        have p2 := hF.1.cell 0 rfl 2 (.int .i64 i) rfl
        have p3 := hF.1.cell 0 rfl 3 (.int .i64 nc) rfl
        have p4 := hF.1.cell 0 rfl 4 (.slice (some ⟨g2, 0, none⟩) ys.length cap) rfl
        go_simp
        clear p0 p1 p2 p3 p4
        refine hK.out (updS s 22 (Value.agg #[.int .i64 5, .int .i64 cl, .int .i64 i, .int .i64 nc, .slice (some ⟨g2, 0, none⟩) ys.length cap])) _ _ ?_ ⟨hF.1, hF.2.put 13 22 (Value.agg #[.int .i64 5, .int .i64 cl, .int .i64 i, .int .i64 nc, .slice (some ⟨g2, 0, none⟩) ys.length cap]) rfl (by simp)⟩
        simp only [putL, putT, List.setIfInBounds_toArray, List.set_cons_zero, List.set_cons_succ]; rw [show updS s 22 (Value.agg #[.int .i64 5, .int .i64 cl, .int .i64 i, .int .i64 nc, .slice (some ⟨g2, 0, none⟩) ys.length cap]) 21 = .bool false from eq12]; rfl
    · intro d s w9 hd hA hC hF K hK
      have hB9 := hF.1.bel
      simp only [putL, putT, List.setIfInBounds_toArray, List.set_cons_zero, List.set_cons_succ]
      clear hB9
      as_aux_lemma =>
        have eq13 : s 22 = Value.agg #[.int .i64 5, .int .i64 cl, .int .i64 i, .int .i64 nc, .slice (some ⟨g2, 0, none⟩) ys.length cap] := hF.2 (13, 22, Value.agg #[.int .i64 5, .int .i64 cl, .int .i64 i, .int .i64 nc, .slice (some ⟨g2, 0, none⟩) ys.length cap]) (by simp) (hA.1)
        have eq12 : s 21 = .bool false := hF.2 (12, 21, .bool false) (by simp) (hA.2.1)
        rw [eq13, eq12]
        go_simp
        refine (implMsg_any 5 cl i nc _ _ ys _ (HX.out.2.1.later hF.1.bel) hy (HX.out.2.2.later hF.1.bel)).mono ?_
        rintro r w8 ⟨rfl, b9⟩
        rw [u4]
        go_simp
        refine hK.out (updS s 23 (.bool true)) _ _ ?_ ⟨St.grow b9 hF.1, hF.2.put 14 23 (.bool true) rfl (by simp)⟩
        simp only [putL, putT, List.setIfInBounds_toArray, List.set_cons_zero, List.set_cons_succ]
        rw [show updS s 23 (.bool true) 22 = Value.agg #[.int .i64 5, .int .i64 cl, .int .i64 i, .int .i64 nc, .slice (some ⟨g2, 0, none⟩) ys.length cap] from eq13, show updS s 23 (.bool true) 21 = .bool false from eq12] <;> rfl
    · intro d s w9 hd hA hC hF K hK
      have hB9 := hF.1.bel
      simp only [putL, putT, List.setIfInBounds_toArray, List.set_cons_zero, List.set_cons_succ]
      clear hB9
      as_aux_lemma =>
        have eq12 : s 21 = .bool false := hF.2 (12, 21, .bool false) (by simp) (hA.1)
        have eq14 : s 23 = .bool true := hF.2 (14, 23, .bool true) (by simp) (hA.2.1)
        rw [eq12, eq14]
        go_simp
        refine hK.out (updS s 24 (.bool false)) _ _ ?_ ⟨hF.1, hF.2.put 15 24 (.bool false) rfl (by simp)⟩
        simp only [putL, putT, List.setIfInBounds_toArray, List.set_cons_zero, List.set_cons_succ]; rw [show updS s 24 (.bool false) 21 = .bool false from eq12, show updS s 24 (.bool false) 23 = .bool true from eq14]; rfl
    · intro d s w9 hd hA hC hF K hK
      have hB9 := hF.1.bel
      simp only [putL, putT, List.setIfInBounds_toArray, List.set_cons_zero, List.set_cons_succ]
      clear hB9
      as_aux_lemma =>
        have eq12 : s 21 = .bool false := hF.2 (12, 21, .bool false) (by simp) (hA.1)
        have eq15 : s 24 = .bool false := hF.2 (15, 24, .bool false) (by simp) (hA.2.1)
        rw [eq12, eq15]
        go_simp
        refine hK.out (updS s 25 (.bool false)) _ _ ?_ ⟨hF.1, hF.2.put 16 25 (.bool false) rfl (by simp)⟩
        simp only [putL, putT, List.setIfInBounds_toArray, List.set_cons_zero, List.set_cons_succ]; rw [show updS s 25 (.bool false) 21 = .bool false from eq12, show updS s 25 (.bool false) 24 = .bool false from eq15]; rfl
  · intro d s w3 hA hF
    have hS := hF.1
    have eq16 : s 25 = .bool false := hF.2 (16, 25, .bool false) (by simp) (hA.2.2.2.2.2.2.2.2.2.2.2.2.2.2.2.2.1)
    have HS5 : Hid (St w.heap.size w [⟨w.heap.size, 33, #[.int .i64 5, .int .i64 cl, .int .i64 i, .int .i64 nc, .slice (some ⟨g2, 0, none⟩) ys.length cap]⟩] [] w3) := hS
    clear hS hF hA HS4
    simp only [putL, putT, List.setIfInBounds_toArray, List.set_cons_zero, List.set_cons_succ]
    rw [eq16]
    clear eq16
    clear u4
    go_wp2_with fail
    refine wp_region_walk [7, 8, 26, 27, 28, 29, 30, 31, 32, 33] (fun d s W => St w.heap.size w [⟨w.heap.size, 33, #[.int .i64 5, .int .i64 cl, .int .i64 i, .int .i64 nc, .slice (some ⟨g2, 0, none⟩) ys.length cap]⟩] [] W ∧ Looks [(0, 26, Value.pointer (some ⟨w.heap.size, 4, none⟩)), (1, 27, Value.slice (some ⟨g2, 0, none⟩) ys.length cap), (2, 28, Value.pointer (some ⟨g2, 0, none⟩)), (3, 29, Value.agg #[.int .i64 t.k, .int .i64 t.t, .int .i64 t.a, .int .i64 t.b, .int .i64 t.c, .int .i64 t.d, .int .i64 t.e]), (4, 30, Value.pointer (some ⟨w.heap.size, 4, none⟩)), (5, 31, Value.slice (some ⟨g2, 0, none⟩) ys.length cap), (6, 32, Value.pointer (some ⟨g2, 7, none⟩)), (7, 33, Value.agg #[.int .i64 u.k, .int .i64 u.t, .int .i64 u.a, .int .i64 u.b, .int .i64 u.c, .int .i64 u.d, .int .i64 u.e])] d s ∧ TwoB w.heap.size t u d s W) [0, 1, 2, 3, 4, 5, 6, 7, 8, 9, 10, 11] (by kernel_rfl) (by kernel_rfl) (by kernel_rfl) ?_ ?_ ?_
    · intro s
      exact ⟨HS5.out.drew, Looks.none _ _, ⟨0, 0, (fun e => by cases e), (fun e => by cases e), (fun e => by cases e)⟩⟩
    · refine StepsR.cons (k := 0) [] (by kernel_rfl) ?_ (StepsR.cons (k := 1) [0] (by kernel_rfl) ?_ (StepsR.cons (k := 2) [1] (by kernel_rfl) ?_ (StepsR.cons (k := 3) [2] (by kernel_rfl) ?_ (StepsR.cons (k := 4) [] (by kernel_rfl) ?_ (StepsR.cons (k := 5) [4] (by kernel_rfl) ?_ (StepsR.cons (k := 6) [5] (by kernel_rfl) ?_ (StepsR.cons (k := 7) [6] (by kernel_rfl) ?_ (StepsR.cons (k := 8) [] (by kernel_rfl) ?_ (StepsR.cons (k := 9) [] (by kernel_rfl) ?_ (StepsR.cons (k := 10) [0, 1, 2, 3, 8, 9] (by kernel_rfl) ?_ (StepsR.cons (k := 11) [0, 1, 2, 3, 4, 5, 6, 7, 8, 9, 10] (by kernel_rfl) ?_ (StepsR.nil))))))))))))
      · intro d s w9 hd hA hC hF K hK
        have hB9 := hF.1.bel
        simp only [putL, putT, List.setIfInBounds_toArray, List.set_cons_zero, List.set_cons_succ]
        clear hB9
        as_aux_lemma =>
          go_simp
          refine hK.out (updS s 26 (Value.pointer (some ⟨w.heap.size, 4, none⟩))) _ _ ?_ ⟨hF.1, hF.2.1.put 0 26 (Value.pointer (some ⟨w.heap.size, 4, none⟩)) rfl (by simp), hF.2.2⟩
          simp only [putL, putT, List.setIfInBounds_toArray, List.set_cons_zero, List.set_cons_succ]; rfl
      · intro d s w9 hd hA hC hF K hK
        have hB9 := hF.1.bel
        simp only [putL, putT, List.setIfInBounds_toArray, List.set_cons_zero, List.set_cons_succ]
        clear hB9
        as_aux_lemma =>
          have eq0 : s 26 = Value.pointer (some ⟨w.heap.size, 4, none⟩) := hF.2.1 (0, 26, Value.pointer (some ⟨w.heap.size, 4, none⟩)) (by simp) (hA.1)
          rw [eq0]
          have p4 := hF.1.cell 0 rfl 4 (.slice (some ⟨g2, 0, none⟩) ys.length cap) rfl
          go_simp
          clear p4
          refine hK.out (updS s 27 (Value.slice (some ⟨g2, 0, none⟩) ys.length cap)) _ _ ?_ ⟨hF.1, hF.2.1.put 1 27 (Value.slice (some ⟨g2, 0, none⟩) ys.length cap) rfl (by simp), hF.2.2⟩
          simp only [putL, putT, List.setIfInBounds_toArray, List.set_cons_zero, List.set_cons_succ]; rw [show updS s 27 (Value.slice (some ⟨g2, 0, none⟩) ys.length cap) 26 = Value.pointer (some ⟨w.heap.size, 4, none⟩) from eq0]; rfl
      · intro d s w9 hd hA hC hF K hK
        have hB9 := hF.1.bel
        simp only [putL, putT, List.setIfInBounds_toArray, List.set_cons_zero, List.set_cons_succ]
        clear hB9
        as_aux_lemma =>
          have eq1 : s 27 = Value.slice (some ⟨g2, 0, none⟩) ys.length cap := hF.2.1 (1, 27, Value.slice (some ⟨g2, 0, none⟩) ys.length cap) (by simp) (hA.1)
          rw [eq1]
          go_simp
          refine hK.out (updS s 28 (Value.pointer (some ⟨g2, 0, none⟩))) _ _ ?_ ⟨hF.1, hF.2.1.put 2 28 (Value.pointer (some ⟨g2, 0, none⟩)) rfl (by simp), hF.2.2⟩
          simp only [putL, putT, List.setIfInBounds_toArray, List.set_cons_zero, List.set_cons_succ]; rw [show updS s 28 (Value.pointer (some ⟨g2, 0, none⟩)) 27 = Value.slice (some ⟨g2, 0, none⟩) ys.length cap from eq1]; rfl
      · intro d s w9 hd hA hC hF K hK
        have hB9 := hF.1.bel
        simp only [putL, putT, List.setIfInBounds_toArray, List.set_cons_zero, List.set_cons_succ]
        clear hB9
        as_aux_lemma =>
          have eq2 : s 28 = Value.pointer (some ⟨g2, 0, none⟩) := hF.2.1 (2, 28, Value.pointer (some ⟨g2, 0, none⟩)) (by simp) (hA.1)
          rw [eq2]
          obtain ⟨q0, q1, q2, q3, q4, q5, q6⟩ := (srow_two' (HX.out.2.1.later hF.1.bel) HY.out).1
          simp only [Nat.zero_add] at q0 q1 q2 q3 q4 q5 q6
          go_simp
          clear q0 q1 q2 q3 q4 q5 q6
          refine hK.out (updS s 29 (Value.agg #[.int .i64 t.k, .int .i64 t.t, .int .i64 t.a, .int .i64 t.b, .int .i64 t.c, .int .i64 t.d, .int .i64 t.e])) _ _ ?_ ⟨hF.1, hF.2.1.put 3 29 (Value.agg #[.int .i64 t.k, .int .i64 t.t, .int .i64 t.a, .int .i64 t.b, .int .i64 t.c, .int .i64 t.d, .int .i64 t.e]) rfl (by simp), hF.2.2⟩
          simp only [putL, putT, List.setIfInBounds_toArray, List.set_cons_zero, List.set_cons_succ]; rw [show updS s 29 (Value.agg #[.int .i64 t.k, .int .i64 t.t, .int .i64 t.a, .int .i64 t.b, .int .i64 t.c, .int .i64 t.d, .int .i64 t.e]) 28 = Value.pointer (some ⟨g2, 0, none⟩) from eq2]; rfl
      · intro d s w9 hd hA hC hF K hK
        have hB9 := hF.1.bel
        simp only [putL, putT, List.setIfInBounds_toArray, List.set_cons_zero, List.set_cons_succ]
        clear hB9
        as_aux_lemma =>
          go_simp
          refine hK.out (updS s 30 (Value.pointer (some ⟨w.heap.size, 4, none⟩))) _ _ ?_ ⟨hF.1, hF.2.1.put 4 30 (Value.pointer (some ⟨w.heap.size, 4, none⟩)) rfl (by simp), hF.2.2⟩
          simp only [putL, putT, List.setIfInBounds_toArray, List.set_cons_zero, List.set_cons_succ]; rfl
      · intro d s w9 hd hA hC hF K hK
        have hB9 := hF.1.bel
        simp only [putL, putT, List.setIfInBounds_toArray, List.set_cons_zero, List.set_cons_succ]
        clear hB9
        as_aux_lemma =>
          have eq4 : s 30 = Value.pointer (some ⟨w.heap.size, 4, none⟩) := hF.2.1 (4, 30, Value.pointer (some ⟨w.heap.size, 4, none⟩)) (by simp) (hA.1)
          rw [eq4]
          have p4 := hF.1.cell 0 rfl 4 (.slice (some ⟨g2, 0, none⟩) ys.length cap) rfl
          go_simp
          clear p4
          refine hK.out (updS s 31 (Value.slice (some ⟨g2, 0, none⟩) ys.length cap)) _ _ ?_ ⟨hF.1, hF.2.1.put 5 31 (Value.slice (some ⟨g2, 0, none⟩) ys.length cap) rfl (by simp), hF.2.2⟩
          simp only [putL, putT, List.setIfInBounds_toArray, List.set_cons_zero, List.set_cons_succ]; rw [show updS s 31 (Value.slice (some ⟨g2, 0, none⟩) ys.length cap) 30 = Value.pointer (some ⟨w.heap.size, 4, none⟩) from eq4]; rfl
      · intro d s w9 hd hA hC hF K hK
        have hB9 := hF.1.bel
        simp only [putL, putT, List.setIfInBounds_toArray, List.set_cons_zero, List.set_cons_succ]
        clear hB9
        as_aux_lemma =>
          have eq5 : s 31 = Value.slice (some ⟨g2, 0, none⟩) ys.length cap := hF.2.1 (5, 31, Value.slice (some ⟨g2, 0, none⟩) ys.length cap) (by simp) (hA.1)
          rw [eq5]
          go_simp
          refine hK.out (updS s 32 (Value.pointer (some ⟨g2, 7, none⟩))) _ _ ?_ ⟨hF.1, hF.2.1.put 6 32 (Value.pointer (some ⟨g2, 7, none⟩)) rfl (by simp), hF.2.2⟩
          simp only [putL, putT, List.setIfInBounds_toArray, List.set_cons_zero, List.set_cons_succ]; rw [show updS s 32 (Value.pointer (some ⟨g2, 7, none⟩)) 31 = Value.slice (some ⟨g2, 0, none⟩) ys.length cap from eq5]; rfl
      · intro d s w9 hd hA hC hF K hK
        have hB9 := hF.1.bel
        simp only [putL, putT, List.setIfInBounds_toArray, List.set_cons_zero, List.set_cons_succ]
        clear hB9
        as_aux_lemma =>
          have eq6 : s 32 = Value.pointer (some ⟨g2, 7, none⟩) := hF.2.1 (6, 32, Value.pointer (some ⟨g2, 7, none⟩)) (by simp) (hA.1)
          rw [eq6]
          obtain ⟨q0, q1, q2, q3, q4, q5, q6⟩ := (srow_two' (HX.out.2.1.later hF.1.bel) HY.out).2
          go_simp
          clear q0 q1 q2 q3 q4 q5 q6
          refine hK.out (updS s 33 (Value.agg #[.int .i64 u.k, .int .i64 u.t, .int .i64 u.a, .int .i64 u.b, .int .i64 u.c, .int .i64 u.d, .int .i64 u.e])) _ _ ?_ ⟨hF.1, hF.2.1.put 7 33 (Value.agg #[.int .i64 u.k, .int .i64 u.t, .int .i64 u.a, .int .i64 u.b, .int .i64 u.c, .int .i64 u.d, .int .i64 u.e]) rfl (by simp), hF.2.2⟩
          simp only [putL, putT, List.setIfInBounds_toArray, List.set_cons_zero, List.set_cons_succ]; rw [show updS s 33 (Value.agg #[.int .i64 u.k, .int .i64 u.t, .int .i64 u.a, .int .i64 u.b, .int .i64 u.c, .int .i64 u.d, .int .i64 u.e]) 32 = Value.pointer (some ⟨g2, 7, none⟩) from eq6]; rfl
      · intro d s w9 hd hA hC hF K hK
        have hB9 := hF.1.bel
        simp only [putL, putT, List.setIfInBounds_toArray, List.set_cons_zero, List.set_cons_succ]
        clear hB9
        as_aux_lemma =>
          have dS : d 10 = false := hC.off 10 8 (by kernel_rfl) hd
          obtain ⟨p, q, h8, h9, hne⟩ := hF.2.2
          go_simp
          refine hK.out (updS s 7 (Value.pointer (some ⟨w9.heap.size, 0, none⟩))) _ _ ?_ ⟨St.lay _ hF.1, hF.2.1.skipS 8 7 _ rfl, ⟨w9.heap.size, q, (fun _ => ⟨rfl, by show ABlk _ _ _ (bif d 10 then _ else _); rw [dS]; exact ABlk.new _ _ _, hF.1.sz⟩), (fun e => ⟨(h9 e).1, (h9 e).2.1.later (Below.alloc_ _ _), (h9 e).2.2⟩), (fun _ e9 e => by have := (h9 e9).2.1.lt; omega)⟩⟩
          simp only [putL, putT, List.setIfInBounds_toArray, List.set_cons_zero, List.set_cons_succ]
          try rfl
      · intro d s w9 hd hA hC hF K hK
        have hB9 := hF.1.bel
        simp only [putL, putT, List.setIfInBounds_toArray, List.set_cons_zero, List.set_cons_succ]
        clear hB9
        as_aux_lemma =>
          have dS : d 11 = false := hC.off 11 9 (by kernel_rfl) hd
          obtain ⟨p, q, h8, h9, hne⟩ := hF.2.2
          go_simp
          refine hK.out (updS s 8 (Value.pointer (some ⟨w9.heap.size, 0, none⟩))) _ _ ?_ ⟨St.lay _ hF.1, hF.2.1.skipS 9 8 _ rfl, ⟨p, w9.heap.size, (fun e => ⟨(h8 e).1, (h8 e).2.1.later (Below.alloc_ _ _), (h8 e).2.2⟩), (fun _ => ⟨rfl, by show ABlk _ _ _ (bif d 11 then _ else _); rw [dS]; exact ABlk.new _ _ _, hF.1.sz⟩), (fun e8 _ e => by have := (h8 e8).2.1.lt; omega)⟩⟩
          simp only [putL, putT, List.setIfInBounds_toArray, List.set_cons_zero, List.set_cons_succ]
          try rfl
      · intro d s w9 hd hA hC hF K hK
        have hB9 := hF.1.bel
        simp only [putL, putT, List.setIfInBounds_toArray, List.set_cons_zero, List.set_cons_succ]
        clear hB9
        as_aux_lemma =>
          obtain ⟨p, q, h8, h9, hne⟩ := hF.2.2
          have d8 := hA.2.2.2.2.1
          have d9 := hA.2.2.2.2.2.1
          obtain ⟨e7, hb, ge⟩ := h8 d8
          rw [hd] at hb
          simp only [cond_false] at hb
          have eqs : s 29 = Value.agg #[.int .i64 t.k, .int .i64 t.t, .int .i64 t.a, .int .i64 t.b, .int .i64 t.c, .int .i64 t.d, .int .i64 t.e] := hF.2.1 (3, 29, Value.agg #[.int .i64 t.k, .int .i64 t.t, .int .i64 t.a, .int .i64 t.b, .int .i64 t.c, .int .i64 t.d, .int .i64 t.e]) (by simp) (hA.2.2.2.1)
          rw [eqs, e7]
          have k9 := hb.put7S (.int .i64 t.k) (.int .i64 t.t) (.int .i64 t.a) (.int .i64 t.b) (.int .i64 t.c) (.int .i64 t.d) (.int .i64 t.e)
          have g9 := put7S_grl w9 p (.int .i64 t.k) (.int .i64 t.t) (.int .i64 t.a) (.int .i64 t.b) (.int .i64 t.c) (.int .i64 t.d) (.int .i64 t.e)
          simp only [Region.wanted, if_true]
          refine wp_store7 (.tmp 7) (.tmp 29) rfl rfl rfl rfl hb ?_
          refine hK.out s _ _ ?_ ⟨St.outside hF.1 ge g9 (fun y hy => by simp at hy; subst hy; exact fun e => blk_type (hF.1.at 0 rfl) (show ABlk _ _ w.heap.size _ from (show w.heap.size = p from e) ▸ hb) (by decide)) (by simp), hF.2.1.skip 10 rfl, ⟨p, q, (fun _ => ⟨e7, k9, ge⟩), (fun e => ⟨(h9 e).1, (h9 e).2.1.grl g9 (by have := hne d8 e; simp; omega), (h9 e).2.2⟩), hne⟩⟩
          simp only [putL, putT, List.setIfInBounds_toArray, List.set_cons_zero, List.set_cons_succ]
          rw [← eqs, ← e7]
      · intro d s w9 hd hA hC hF K hK
        have hB9 := hF.1.bel
        simp only [putL, putT, List.setIfInBounds_toArray, List.set_cons_zero, List.set_cons_succ]
        clear hB9
        as_aux_lemma =>
          obtain ⟨p, q, h8, h9, hne⟩ := hF.2.2
          have d8 := hA.2.2.2.2.2.2.2.2.1
          have d9 := hA.2.2.2.2.2.2.2.2.2.1
          obtain ⟨e7, hb, ge⟩ := h9 d9
          rw [hd] at hb
          simp only [cond_false] at hb
          have eqs : s 33 = Value.agg #[.int .i64 u.k, .int .i64 u.t, .int .i64 u.a, .int .i64 u.b, .int .i64 u.c, .int .i64 u.d, .int .i64 u.e] := hF.2.1 (7, 33, Value.agg #[.int .i64 u.k, .int .i64 u.t, .int .i64 u.a, .int .i64 u.b, .int .i64 u.c, .int .i64 u.d, .int .i64 u.e]) (by simp) (hA.2.2.2.2.2.2.2.1)
          rw [eqs, e7]
          have k9 := hb.put7S (.int .i64 u.k) (.int .i64 u.t) (.int .i64 u.a) (.int .i64 u.b) (.int .i64 u.c) (.int .i64 u.d) (.int .i64 u.e)
          have g9 := put7S_grl w9 q (.int .i64 u.k) (.int .i64 u.t) (.int .i64 u.a) (.int .i64 u.b) (.int .i64 u.c) (.int .i64 u.d) (.int .i64 u.e)
          simp only [Region.wanted, if_true]
          refine wp_store7 (.tmp 8) (.tmp 33) rfl rfl rfl rfl hb ?_
          refine hK.out s _ _ ?_ ⟨St.outside hF.1 ge g9 (fun y hy => by simp at hy; subst hy; exact fun e => blk_type (hF.1.at 0 rfl) (show ABlk _ _ w.heap.size _ from (show w.heap.size = q from e) ▸ hb) (by decide)) (by simp), hF.2.1.skip 11 rfl, ⟨p, q, (fun e => ⟨(h8 e).1, (h8 e).2.1.grl g9 (by have := hne e d9; simp; omega), (h8 e).2.2⟩), (fun _ => ⟨e7, k9, ge⟩), hne⟩⟩
          simp only [putL, putT, List.setIfInBounds_toArray, List.set_cons_zero, List.set_cons_succ]
          rw [← eqs, ← e7]
    · intro d s w4 hA hF
      have hS := hF.1
      obtain ⟨p, q, h8, h9, hne⟩ := hF.2.2
      obtain ⟨e8, bp, gp⟩ := h8 (hA.2.2.2.2.2.2.2.2.1)
      obtain ⟨e9, bq, gq⟩ := h9 (hA.2.2.2.2.2.2.2.2.2.1)
      rw [hA.2.2.2.2.2.2.2.2.2.2.1] at bp
      rw [hA.2.2.2.2.2.2.2.2.2.2.2.1] at bq
      simp only [cond_true] at bp bq
      have hpq : p ≠ q := hne (hA.2.2.2.2.2.2.2.2.1) (hA.2.2.2.2.2.2.2.2.2.1)
      have HS6 : Hid (St w.heap.size w [⟨w.heap.size, 33, #[.int .i64 5, .int .i64 cl, .int .i64 i, .int .i64 nc, .slice (some ⟨g2, 0, none⟩) ys.length cap]⟩] [] w4) := hS
      clear hS hF hA HS5
      simp only [putL, putT, List.setIfInBounds_toArray, List.set_cons_zero, List.set_cons_succ]
      rw [e8, e9]
      clear e8 e9 h8 h9 hne
      have HS7 : Hid (St w.heap.size w [⟨w.heap.size, 33, #[.int .i64 5, .int .i64 cl, .int .i64 i, .int .i64 nc, .slice (some ⟨g2, 0, none⟩) ys.length cap]⟩, ⟨p, 64, #[.int .i64 t.k, .int .i64 t.t, .int .i64 t.a, .int .i64 t.b, .int .i64 t.c, .int .i64 t.d, .int .i64 t.e]⟩, ⟨q, 64, #[.int .i64 u.k, .int .i64 u.t, .int .i64 u.a, .int .i64 u.b, .int .i64 u.c, .int .i64 u.d, .int .i64 u.e]⟩] [] w4) := Hid.mk' (by
        have h := St.addB ⟨q, 64, #[.int .i64 u.k, .int .i64 u.t, .int .i64 u.a, .int .i64 u.b, .int .i64 u.c, .int .i64 u.d, .int .i64 u.e]⟩ bq gq (fun y hy => by simp at hy; rcases hy with rfl | rfl; exact fun e => blk_type (HS6.out.at 0 rfl) (show ABlk _ _ w.heap.size _ from (show w.heap.size = q from e) ▸ bq) (by decide); exact hpq) (St.addT HS6.out p 64 #[.int .i64 t.k, .int .i64 t.t, .int .i64 t.a, .int .i64 t.b, .int .i64 t.c, .int .i64 t.d, .int .i64 t.e] bp gp rfl)
        try simp only [World.size_alloc] at h
        try simp only [World.size_setCell] at h
        exact h)
      clear HS6
      clear bp bq gp gq hpq
      go_wp2_with fail
      cases hsb : sb
      · skip
        rw [hsb] at HSB
        refine wp_region_walk [6, 34, 35, 36, 37, 38, 39, 40, 41, 42, 43, 44, 45, 46, 47, 48, 49, 50, 51] (fun d s W => St w.heap.size w [⟨w.heap.size, 33, #[.int .i64 5, .int .i64 cl, .int .i64 i, .int .i64 nc, .slice (some ⟨g2, 0, none⟩) ys.length cap]⟩, ⟨p, 64, #[.int .i64 t.k, .int .i64 t.t, .int .i64 t.a, .int .i64 t.b, .int .i64 t.c, .int .i64 t.d, .int .i64 t.e]⟩, ⟨q, 64, #[.int .i64 u.k, .int .i64 u.t, .int .i64 u.a, .int .i64 u.b, .int .i64 u.c, .int .i64 u.d, .int .i64 u.e]⟩] [] W ∧ Looks [(0, 34, Value.agg #[.int .i64 t.k, .int .i64 t.t, .int .i64 t.a, .int .i64 t.b, .int .i64 t.c, .int .i64 t.d, .int .i64 t.e]), (1, 35, Value.agg #[.int .i64 u.k, .int .i64 u.t, .int .i64 u.a, .int .i64 u.b, .int .i64 u.c, .int .i64 u.d, .int .i64 u.e]), (2, 36, Value.pointer (some ⟨x, 0, none⟩)), (3, 37, Value.pointer (some ⟨x, 0, none⟩)), (4, 38, Value.pointer (some ⟨x, 1, none⟩)), (5, 39, Value.int .i64 i), (6, 40, Value.int .i64 now), (7, 41, shV t u i now), (8, 42, .bool false), (9, 43, .bool false), (10, 44, undef), (11, 45, undef), (12, 46, undef), (13, 47, undef), (14, 48, undef), (15, 49, undef), (16, 50, undef), (17, 51, .bool false), (18, 6, .bool false)] d s) [0, 1, 2, 3, 4, 5, 6, 7, 8, 9, 10, 11, 12, 13, 14, 15, 16, 17, 18] (by kernel_rfl) (by kernel_rfl) (by kernel_rfl) ?_ ?_ ?_
        · intro s
          exact ⟨HS7.out.drew, Looks.none _ _⟩
        · refine StepsR.cons (k := 0) [] (by kernel_rfl) ?_ (StepsR.cons (k := 1) [] (by kernel_rfl) ?_ (StepsR.cons (k := 2) [] (by kernel_rfl) ?_ (StepsR.cons (k := 3) [2] (by kernel_rfl) ?_ (StepsR.cons (k := 4) [3] (by kernel_rfl) ?_ (StepsR.cons (k := 5) [4] (by kernel_rfl) ?_ (StepsR.cons (k := 6) [] (by kernel_rfl) ?_ (StepsR.cons (k := 7) [0, 1, 5, 6] (by kernel_rfl) ?_ (StepsR.cons (k := 8) [7] (by kernel_rfl) ?_ (StepsR.cons (k := 9) [8] (by kernel_rfl) ?_ (StepsR.cons (k := 10) [9] (by kernel_rfl) ?_ (StepsR.cons (k := 11) [9] (by kernel_rfl) ?_ (StepsR.cons (k := 12) [9] (by kernel_rfl) ?_ (StepsR.cons (k := 13) [9] (by kernel_rfl) ?_ (StepsR.cons (k := 14) [9] (by kernel_rfl) ?_ (StepsR.cons (k := 15) [9] (by kernel_rfl) ?_ (StepsR.cons (k := 16) [9] (by kernel_rfl) ?_ (StepsR.cons (k := 17) [9, 16] (by kernel_rfl) ?_ (StepsR.cons (k := 18) [0, 1, 2, 3, 4, 5, 6, 7, 8, 9, 10, 11, 12, 13, 14, 15, 16, 17] (by kernel_rfl) ?_ (StepsR.nil)))))))))))))))))))
          · intro d s w9 hd hA hC hF K hK
            have hB9 := hF.1.bel
            simp only [putL, putT, List.setIfInBounds_toArray, List.set_cons_zero, List.set_cons_succ]
            clear hB9
            as_aux_lemma =>
              have p0 := hF.1.cell 1 rfl 0 (.int .i64 t.k) rfl
              have p1 := hF.1.cell 1 rfl 1 (.int .i64 t.t) rfl
              have p2 := hF.1.cell 1 rfl 2 (.int .i64 t.a) rfl
              have p3 := hF.1.cell 1 rfl 3 (.int .i64 t.b) rfl
              have p4 := hF.1.cell 1 rfl 4 (.int .i64 t.c) rfl
              have p5 := hF.1.cell 1 rfl 5 (.int .i64 t.d) rfl
              have p6 := hF.1.cell 1 rfl 6 (.int .i64 t.e) rfl
              go_simp
              clear p0 p1 p2 p3 p4 p5 p6
              refine hK.out (updS s 34 (Value.agg #[.int .i64 t.k, .int .i64 t.t, .int .i64 t.a, .int .i64 t.b, .int .i64 t.c, .int .i64 t.d, .int .i64 t.e])) _ _ ?_ ⟨hF.1, hF.2.put 0 34 (Value.agg #[.int .i64 t.k, .int .i64 t.t, .int .i64 t.a, .int .i64 t.b, .int .i64 t.c, .int .i64 t.d, .int .i64 t.e]) rfl (by simp)⟩
              simp only [putL, putT, List.setIfInBounds_toArray, List.set_cons_zero, List.set_cons_succ]; rfl
          · intro d s w9 hd hA hC hF K hK
            have hB9 := hF.1.bel
            simp only [putL, putT, List.setIfInBounds_toArray, List.set_cons_zero, List.set_cons_succ]
            clear hB9
            as_aux_lemma =>
              have p0 := hF.1.cell 2 rfl 0 (.int .i64 u.k) rfl
              have p1 := hF.1.cell 2 rfl 1 (.int .i64 u.t) rfl
              have p2 := hF.1.cell 2 rfl 2 (.int .i64 u.a) rfl
              have p3 := hF.1.cell 2 rfl 3 (.int .i64 u.b) rfl
              have p4 := hF.1.cell 2 rfl 4 (.int .i64 u.c) rfl
              have p5 := hF.1.cell 2 rfl 5 (.int .i64 u.d) rfl
              have p6 := hF.1.cell 2 rfl 6 (.int .i64 u.e) rfl
              go_simp
              clear p0 p1 p2 p3 p4 p5 p6
              refine hK.out (updS s 35 (Value.agg #[.int .i64 u.k, .int .i64 u.t, .int .i64 u.a, .int .i64 u.b, .int .i64 u.c, .int .i64 u.d, .int .i64 u.e])) _ _ ?_ ⟨hF.1, hF.2.put 1 35 (Value.agg #[.int .i64 u.k, .int .i64 u.t, .int .i64 u.a, .int .i64 u.b, .int .i64 u.c, .int .i64 u.d, .int .i64 u.e]) rfl (by simp)⟩
              simp only [putL, putT, List.setIfInBounds_toArray, List.set_cons_zero, List.set_cons_succ]; rfl
          · intro d s w9 hd hA hC hF K hK
            have hB9 := hF.1.bel
            simp only [putL, putT, List.setIfInBounds_toArray, List.set_cons_zero, List.set_cons_succ]
            clear hB9
            as_aux_lemma =>
              go_simp
              refine hK.out (updS s 36 (Value.pointer (some ⟨x, 0, none⟩))) _ _ ?_ ⟨hF.1, hF.2.put 2 36 (Value.pointer (some ⟨x, 0, none⟩)) rfl (by simp)⟩
              simp only [putL, putT, List.setIfInBounds_toArray, List.set_cons_zero, List.set_cons_succ]; rfl
          · intro d s w9 hd hA hC hF K hK
            have hB9 := hF.1.bel
            simp only [putL, putT, List.setIfInBounds_toArray, List.set_cons_zero, List.set_cons_succ]
            clear hB9
            as_aux_lemma =>
              have eq2 : s 36 = Value.pointer (some ⟨x, 0, none⟩) := hF.2 (2, 36, Value.pointer (some ⟨x, 0, none⟩)) (by simp) (hA.1)
              rw [eq2]
              go_simp
              refine hK.out (updS s 37 (Value.pointer (some ⟨x, 0, none⟩))) _ _ ?_ ⟨hF.1, hF.2.put 3 37 (Value.pointer (some ⟨x, 0, none⟩)) rfl (by simp)⟩
              simp only [putL, putT, List.setIfInBounds_toArray, List.set_cons_zero, List.set_cons_succ]; rw [show updS s 37 (Value.pointer (some ⟨x, 0, none⟩)) 36 = Value.pointer (some ⟨x, 0, none⟩) from eq2]; rfl
          · intro d s w9 hd hA hC hF K hK
            have hB9 := hF.1.bel
            simp only [putL, putT, List.setIfInBounds_toArray, List.set_cons_zero, List.set_cons_succ]
            clear hB9
            as_aux_lemma =>
              have eq3 : s 37 = Value.pointer (some ⟨x, 0, none⟩) := hF.2 (3, 37, Value.pointer (some ⟨x, 0, none⟩)) (by simp) (hA.1)
              rw [eq3]
              go_simp
              refine hK.out (updS s 38 (Value.pointer (some ⟨x, 1, none⟩))) _ _ ?_ ⟨hF.1, hF.2.put 4 38 (Value.pointer (some ⟨x, 1, none⟩)) rfl (by simp)⟩
              simp only [putL, putT, List.setIfInBounds_toArray, List.set_cons_zero, List.set_cons_succ]; rw [show updS s 38 (Value.pointer (some ⟨x, 1, none⟩)) 37 = Value.pointer (some ⟨x, 0, none⟩) from eq3]; rfl
          · intro d s w9 hd hA hC hF K hK
            have hB9 := hF.1.bel
            simp only [putL, putT, List.setIfInBounds_toArray, List.set_cons_zero, List.set_cons_succ]
            clear hB9
            as_aux_lemma =>
              have eq4 : s 38 = Value.pointer (some ⟨x, 1, none⟩) := hF.2 (4, 38, Value.pointer (some ⟨x, 1, none⟩)) (by simp) (hA.1)
              rw [eq4]
              have hx9 := HX.out.1.later hF.1.bel
              have p1 := hx9.at 1 _ rfl
              go_simp
              clear hx9 p1
              refine hK.out (updS s 39 (Value.int .i64 i)) _ _ ?_ ⟨hF.1, hF.2.put 5 39 (Value.int .i64 i) rfl (by simp)⟩
              simp only [putL, putT, List.setIfInBounds_toArray, List.set_cons_zero, List.set_cons_succ]; rw [show updS s 39 (Value.int .i64 i) 38 = Value.pointer (some ⟨x, 1, none⟩) from eq4]; rfl
          · intro d s w9 hd hA hC hF K hK
            have hB9 := hF.1.bel
            simp only [putL, putT, List.setIfInBounds_toArray, List.set_cons_zero, List.set_cons_succ]
            clear hB9
            as_aux_lemma =>
              go_simp
              refine hK.out (updS s 40 (Value.int .i64 now)) _ _ ?_ ⟨hF.1, hF.2.put 6 40 (Value.int .i64 now) rfl (by simp)⟩
              simp only [putL, putT, List.setIfInBounds_toArray, List.set_cons_zero, List.set_cons_succ]; rfl
          · intro d s w9 hd hA hC hF K hK
            have hB9 := hF.1.bel
            simp only [putL, putT, List.setIfInBounds_toArray, List.set_cons_zero, List.set_cons_succ]
            clear hB9
            as_aux_lemma =>
              have eq0 : s 34 = Value.agg #[.int .i64 t.k, .int .i64 t.t, .int .i64 t.a, .int .i64 t.b, .int .i64 t.c, .int .i64 t.d, .int .i64 t.e] := hF.2 (0, 34, Value.agg #[.int .i64 t.k, .int .i64 t.t, .int .i64 t.a, .int .i64 t.b, .int .i64 t.c, .int .i64 t.d, .int .i64 t.e]) (by simp) (hA.1)
              have eq1 : s 35 = Value.agg #[.int .i64 u.k, .int .i64 u.t, .int .i64 u.a, .int .i64 u.b, .int .i64 u.c, .int .i64 u.d, .int .i64 u.e] := hF.2 (1, 35, Value.agg #[.int .i64 u.k, .int .i64 u.t, .int .i64 u.a, .int .i64 u.b, .int .i64 u.c, .int .i64 u.d, .int .i64 u.e]) (by simp) (hA.2.1)
              have eq5 : s 39 = Value.int .i64 i := hF.2 (5, 39, Value.int .i64 i) (by simp) (hA.2.2.1)
              have eq6 : s 40 = Value.int .i64 now := hF.2 (6, 40, Value.int .i64 now) (by simp) (hA.2.2.2.1)
              rw [eq0, eq1, eq5, eq6]
              simp only [Region.wanted, if_true]
              refine wp_built 66 _ _ _ rfl (by simp only [List.map_toArray, List.map_cons, List.map_nil]; rfl) (bldShowI w9 t u i now) ?_
              refine hK.out (updS s 41 (shV t u i now)) _ _ ?_ ⟨hF.1, hF.2.put 7 41 (shV t u i now) rfl (by simp)⟩
              simp only [putL, putT, List.setIfInBounds_toArray, List.set_cons_zero, List.set_cons_succ]; rw [show updS s 41 (shV t u i now) 34 = Value.agg #[.int .i64 t.k, .int .i64 t.t, .int .i64 t.a, .int .i64 t.b, .int .i64 t.c, .int .i64 t.d, .int .i64 t.e] from eq0, show updS s 41 (shV t u i now) 35 = Value.agg #[.int .i64 u.k, .int .i64 u.t, .int .i64 u.a, .int .i64 u.b, .int .i64 u.c, .int .i64 u.d, .int .i64 u.e] from eq1, show updS s 41 (shV t u i now) 39 = Value.int .i64 i from eq5, show updS s 41 (shV t u i now) 40 = Value.int .i64 now from eq6]; rfl
          · intro d s w9 hd hA hC hF K hK
            have hB9 := hF.1.bel
            simp only [putL, putT, List.setIfInBounds_toArray, List.set_cons_zero, List.set_cons_succ]
            clear hB9
            as_aux_lemma =>
              have eq7 : s 41 = shV t u i now := hF.2 (7, 41, shV t u i now) (by simp) (hA.1)
              rw [eq7]
              go_simp
              refine (isShown_any t u i now _).mono ?_
              rintro r w8 ⟨rfl, b9⟩
              rw [← HSB.out]
              go_simp
              refine hK.out (updS s 42 (.bool false)) _ _ ?_ ⟨St.grow b9 hF.1, hF.2.put 8 42 (.bool false) rfl (by simp)⟩
              simp only [putL, putT, List.setIfInBounds_toArray, List.set_cons_zero, List.set_cons_succ]
              rw [show updS s 42 (.bool false) 41 = shV t u i now from eq7] <;> rfl
          · intro d s w9 hd hA hC hF K hK
            have hB9 := hF.1.bel
            simp only [putL, putT, List.setIfInBounds_toArray, List.set_cons_zero, List.set_cons_succ]
            clear hB9
            as_aux_lemma =>
              have eq8 : s 42 = .bool false := hF.2 (8, 42, .bool false) (by simp) (hA.1)
              rw [eq8]
              go_simp
              refine hK.out (updS s 43 (.bool false)) _ _ ?_ ⟨hF.1, hF.2.put 9 43 (.bool false) rfl (by simp)⟩
              simp only [putL, putT, List.setIfInBounds_toArray, List.set_cons_zero, List.set_cons_succ]; rw [show updS s 43 (.bool false) 42 = .bool false from eq8]; rfl
          · intro d s w9 hd hA hC hF K hK
            have hB9 := hF.1.bel
            simp only [putL, putT, List.setIfInBounds_toArray, List.set_cons_zero, List.set_cons_succ]
            clear hB9
            as_aux_lemma =>
              have eq9 : s 43 = .bool false := hF.2 (9, 43, .bool false) (by simp) (hA.1)
              rw [eq9]
              go_simp
              refine hK.out (updS s 44 (undef)) _ _ ?_ ⟨hF.1, hF.2.put 10 44 (undef) rfl (by simp)⟩
              simp only [putL, putT, List.setIfInBounds_toArray, List.set_cons_zero, List.set_cons_succ]; rw [show updS s 44 (undef) 43 = .bool false from eq9]; rfl
          · intro d s w9 hd hA hC hF K hK
            have hB9 := hF.1.bel
            simp only [putL, putT, List.setIfInBounds_toArray, List.set_cons_zero, List.set_cons_succ]
            clear hB9
            as_aux_lemma =>
              have eq9 : s 43 = .bool false := hF.2 (9, 43, .bool false) (by simp) (hA.1)
              rw [eq9]
              go_simp
              refine hK.out (updS s 45 (undef)) _ _ ?_ ⟨hF.1, hF.2.put 11 45 (undef) rfl (by simp)⟩
              simp only [putL, putT, List.setIfInBounds_toArray, List.set_cons_zero, List.set_cons_succ]; rw [show updS s 45 (undef) 43 = .bool false from eq9]; rfl
          · intro d s w9 hd hA hC hF K hK
            have hB9 := hF.1.bel
            simp only [putL, putT, List.setIfInBounds_toArray, List.set_cons_zero, List.set_cons_succ]
            clear hB9
            as_aux_lemma =>
              have eq9 : s 43 = .bool false := hF.2 (9, 43, .bool false) (by simp) (hA.1)
              rw [eq9]
              go_simp
              refine hK.out (updS s 46 (undef)) _ _ ?_ ⟨hF.1, hF.2.put 12 46 (undef) rfl (by simp)⟩
              simp only [putL, putT, List.setIfInBounds_toArray, List.set_cons_zero, List.set_cons_succ]; rw [show updS s 46 (undef) 43 = .bool false from eq9]; rfl
          · intro d s w9 hd hA hC hF K hK
            have hB9 := hF.1.bel
            simp only [putL, putT, List.setIfInBounds_toArray, List.set_cons_zero, List.set_cons_succ]
            clear hB9
            as_aux_lemma =>
              have eq9 : s 43 = .bool false := hF.2 (9, 43, .bool false) (by simp) (hA.1)
              rw [eq9]
              go_simp
              refine hK.out (updS s 47 (undef)) _ _ ?_ ⟨hF.1, hF.2.put 13 47 (undef) rfl (by simp)⟩
              simp only [putL, putT, List.setIfInBounds_toArray, List.set_cons_zero, List.set_cons_succ]; rw [show updS s 47 (undef) 43 = .bool false from eq9]; rfl
          · intro d s w9 hd hA hC hF K hK
            have hB9 := hF.1.bel
            simp only [putL, putT, List.setIfInBounds_toArray, List.set_cons_zero, List.set_cons_succ]
            clear hB9
            as_aux_lemma =>
              have eq9 : s 43 = .bool false := hF.2 (9, 43, .bool false) (by simp) (hA.1)
              rw [eq9]
              go_simp
              refine hK.out (updS s 48 (undef)) _ _ ?_ ⟨hF.1, hF.2.put 14 48 (undef) rfl (by simp)⟩
              simp only [putL, putT, List.setIfInBounds_toArray, List.set_cons_zero, List.set_cons_succ]; rw [show updS s 48 (undef) 43 = .bool false from eq9]; rfl
          · intro d s w9 hd hA hC hF K hK
            have hB9 := hF.1.bel
            simp only [putL, putT, List.setIfInBounds_toArray, List.set_cons_zero, List.set_cons_succ]
            clear hB9
            as_aux_lemma =>
              have eq9 : s 43 = .bool false := hF.2 (9, 43, .bool false) (by simp) (hA.1)
              rw [eq9]
              go_simp
              refine hK.out (updS s 49 (undef)) _ _ ?_ ⟨hF.1, hF.2.put 15 49 (undef) rfl (by simp)⟩
              simp only [putL, putT, List.setIfInBounds_toArray, List.set_cons_zero, List.set_cons_succ]; rw [show updS s 49 (undef) 43 = .bool false from eq9]; rfl
          · intro d s w9 hd hA hC hF K hK
            have hB9 := hF.1.bel
            simp only [putL, putT, List.setIfInBounds_toArray, List.set_cons_zero, List.set_cons_succ]
            clear hB9
            as_aux_lemma =>
              have eq9 : s 43 = .bool false := hF.2 (9, 43, .bool false) (by simp) (hA.1)
              rw [eq9]
              go_simp
              refine hK.out (updS s 50 (undef)) _ _ ?_ ⟨hF.1, hF.2.put 16 50 (undef) rfl (by simp)⟩
              simp only [putL, putT, List.setIfInBounds_toArray, List.set_cons_zero, List.set_cons_succ]; rw [show updS s 50 (undef) 43 = .bool false from eq9]; rfl
          · intro d s w9 hd hA hC hF K hK
            have hB9 := hF.1.bel
            simp only [putL, putT, List.setIfInBounds_toArray, List.set_cons_zero, List.set_cons_succ]
            clear hB9
            as_aux_lemma =>
              have eq9 : s 43 = .bool false := hF.2 (9, 43, .bool false) (by simp) (hA.1)
              rw [eq9]
              go_simp
              refine hK.out (updS s 51 (.bool false)) _ _ ?_ ⟨hF.1, hF.2.put 17 51 (.bool false) rfl (by simp)⟩
              simp only [putL, putT, List.setIfInBounds_toArray, List.set_cons_zero, List.set_cons_succ]; rw [show updS s 51 (.bool false) 43 = .bool false from eq9]; rfl
          · intro d s w9 hd hA hC hF K hK
            have hB9 := hF.1.bel
            simp only [putL, putT, List.setIfInBounds_toArray, List.set_cons_zero, List.set_cons_succ]
            clear hB9
            as_aux_lemma =>
              have eq17 : s 51 = .bool false := hF.2 (17, 51, .bool false) (by simp) (hA.2.2.2.2.2.2.2.2.2.2.2.2.2.2.2.2.2.1)
              rw [eq17]
              go_simp
              refine hK.out (updS s 6 (.bool false)) _ _ ?_ ⟨hF.1, hF.2.put 18 6 (.bool false) rfl (by simp)⟩
              simp only [putL, putT, List.setIfInBounds_toArray, List.set_cons_zero, List.set_cons_succ]; rw [show updS s 6 (.bool false) 51 = .bool false from eq17]; rfl
        · intro d s w5 hA hF
          have hS := hF.1
          have eq18 : s 6 = .bool false := hF.2 (18, 6, .bool false) (by simp) (hA.2.2.2.2.2.2.2.2.2.2.2.2.2.2.2.2.2.2.1)
          have HS8 : Hid (St w.heap.size w [⟨w.heap.size, 33, #[.int .i64 5, .int .i64 cl, .int .i64 i, .int .i64 nc, .slice (some ⟨g2, 0, none⟩) ys.length cap]⟩, ⟨p, 64, #[.int .i64 t.k, .int .i64 t.t, .int .i64 t.a, .int .i64 t.b, .int .i64 t.c, .int .i64 t.d, .int .i64 t.e]⟩, ⟨q, 64, #[.int .i64 u.k, .int .i64 u.t, .int .i64 u.a, .int .i64 u.b, .int .i64 u.c, .int .i64 u.d, .int .i64 u.e]⟩] [] w5) := hS
          clear hS hF hA HS7
          simp only [putL, putT, List.setIfInBounds_toArray, List.set_cons_zero, List.set_cons_succ]
          rw [eq18]
          clear eq18
          go_wp2_with fail
          go_ret
          exact ⟨by rw [EG.out, ← HSB.out]; simp, HS8.out.bel⟩
      · skip
        rw [hsb] at HSB
        refine wp_region_walk [6, 34, 35, 36, 37, 38, 39, 40, 41, 42, 43, 44, 45, 46, 47, 48, 49, 50, 51] (fun d s W => St w.heap.size w [⟨w.heap.size, 33, #[.int .i64 5, .int .i64 cl, .int .i64 i, .int .i64 nc, .slice (some ⟨g2, 0, none⟩) ys.length cap]⟩, ⟨p, 64, #[.int .i64 t.k, .int .i64 t.t, .int .i64 t.a, .int .i64 t.b, .int .i64 t.c, .int .i64 t.d, .int .i64 t.e]⟩, ⟨q, 64, #[.int .i64 u.k, .int .i64 u.t, .int .i64 u.a, .int .i64 u.b, .int .i64 u.c, .int .i64 u.d, .int .i64 u.e]⟩] [] W ∧ Looks [(0, 34, Value.agg #[.int .i64 t.k, .int .i64 t.t, .int .i64 t.a, .int .i64 t.b, .int .i64 t.c, .int .i64 t.d, .int .i64 t.e]), (1, 35, Value.agg #[.int .i64 u.k, .int .i64 u.t, .int .i64 u.a, .int .i64 u.b, .int .i64 u.c, .int .i64 u.d, .int .i64 u.e]), (2, 36, Value.pointer (some ⟨x, 0, none⟩)), (3, 37, Value.pointer (some ⟨x, 0, none⟩)), (4, 38, Value.pointer (some ⟨x, 1, none⟩)), (5, 39, Value.int .i64 i), (6, 40, Value.int .i64 now), (7, 41, shV t u i now), (8, 42, .bool true), (9, 43, .bool true), (10, 44, Value.pointer (some ⟨q, 3, none⟩)), (11, 45, Value.int .i64 u.b), (12, 46, Value.pointer (some ⟨x, 0, none⟩)), (13, 47, Value.pointer (some ⟨x, 0, none⟩)), (14, 48, Value.pointer (some ⟨x, 2, none⟩)), (15, 49, Value.int .i64 s9), (16, 50, .bool le9), (17, 51, .bool le9), (18, 6, .bool le9)] d s) [0, 1, 2, 3, 4, 5, 6, 7, 8, 9, 10, 11, 12, 13, 14, 15, 16, 17, 18] (by kernel_rfl) (by kernel_rfl) (by kernel_rfl) ?_ ?_ ?_
        · intro s
          exact ⟨HS7.out.drew, Looks.none _ _⟩
        · refine StepsR.cons (k := 0) [] (by kernel_rfl) ?_ (StepsR.cons (k := 1) [] (by kernel_rfl) ?_ (StepsR.cons (k := 2) [] (by kernel_rfl) ?_ (StepsR.cons (k := 3) [2] (by kernel_rfl) ?_ (StepsR.cons (k := 4) [3] (by kernel_rfl) ?_ (StepsR.cons (k := 5) [4] (by kernel_rfl) ?_ (StepsR.cons (k := 6) [] (by kernel_rfl) ?_ (StepsR.cons (k := 7) [0, 1, 5, 6] (by kernel_rfl) ?_ (StepsR.cons (k := 8) [7] (by kernel_rfl) ?_ (StepsR.cons (k := 9) [8] (by kernel_rfl) ?_ (StepsR.cons (k := 10) [9] (by kernel_rfl) ?_ (StepsR.cons (k := 11) [9, 10] (by kernel_rfl) ?_ (StepsR.cons (k := 12) [9] (by kernel_rfl) ?_ (StepsR.cons (k := 13) [9, 12] (by kernel_rfl) ?_ (StepsR.cons (k := 14) [9, 13] (by kernel_rfl) ?_ (StepsR.cons (k := 15) [9, 14] (by kernel_rfl) ?_ (StepsR.cons (k := 16) [9, 11, 15] (by kernel_rfl) ?_ (StepsR.cons (k := 17) [9, 16] (by kernel_rfl) ?_ (StepsR.cons (k := 18) [0, 1, 2, 3, 4, 5, 6, 7, 8, 9, 10, 11, 12, 13, 14, 15, 16, 17] (by kernel_rfl) ?_ (StepsR.nil)))))))))))))))))))
          · intro d s w9 hd hA hC hF K hK
            have hB9 := hF.1.bel
            simp only [putL, putT, List.setIfInBounds_toArray, List.set_cons_zero, List.set_cons_succ]
            clear hB9
            as_aux_lemma =>
              have p0 := hF.1.cell 1 rfl 0 (.int .i64 t.k) rfl
              have p1 := hF.1.cell 1 rfl 1 (.int .i64 t.t) rfl
              have p2 := hF.1.cell 1 rfl 2 (.int .i64 t.a) rfl
              have p3 := hF.1.cell 1 rfl 3 (.int .i64 t.b) rfl
              have p4 := hF.1.cell 1 rfl 4 (.int .i64 t.c) rfl
              have p5 := hF.1.cell 1 rfl 5 (.int .i64 t.d) rfl
              have p6 := hF.1.cell 1 rfl 6 (.int .i64 t.e) rfl
              go_simp
              clear p0 p1 p2 p3 p4 p5 p6
              refine hK.out (updS s 34 (Value.agg #[.int .i64 t.k, .int .i64 t.t, .int .i64 t.a, .int .i64 t.b, .int .i64 t.c, .int .i64 t.d, .int .i64 t.e])) _ _ ?_ ⟨hF.1, hF.2.put 0 34 (Value.agg #[.int .i64 t.k, .int .i64 t.t, .int .i64 t.a, .int .i64 t.b, .int .i64 t.c, .int .i64 t.d, .int .i64 t.e]) rfl (by simp)⟩
              simp only [putL, putT, List.setIfInBounds_toArray, List.set_cons_zero, List.set_cons_succ]; rfl
          · intro d s w9 hd hA hC hF K hK
            have hB9 := hF.1.bel
            simp only [putL, putT, List.setIfInBounds_toArray, List.set_cons_zero, List.set_cons_succ]
            clear hB9
            as_aux_lemma =>
              have p0 := hF.1.cell 2 rfl 0 (.int .i64 u.k) rfl
              have p1 := hF.1.cell 2 rfl 1 (.int .i64 u.t) rfl
              have p2 := hF.1.cell 2 rfl 2 (.int .i64 u.a) rfl
              have p3 := hF.1.cell 2 rfl 3 (.int .i64 u.b) rfl
              have p4 := hF.1.cell 2 rfl 4 (.int .i64 u.c) rfl
              have p5 := hF.1.cell 2 rfl 5 (.int .i64 u.d) rfl
              have p6 := hF.1.cell 2 rfl 6 (.int .i64 u.e) rfl
              go_simp
              clear p0 p1 p2 p3 p4 p5 p6
              refine hK.out (updS s 35 (Value.agg #[.int .i64 u.k, .int .i64 u.t, .int .i64 u.a, .int .i64 u.b, .int .i64 u.c, .int .i64 u.d, .int .i64 u.e])) _ _ ?_ ⟨hF.1, hF.2.put 1 35 (Value.agg #[.int .i64 u.k, .int .i64 u.t, .int .i64 u.a, .int .i64 u.b, .int .i64 u.c, .int .i64 u.d, .int .i64 u.e]) rfl (by simp)⟩
              simp only [putL, putT, List.setIfInBounds_toArray, List.set_cons_zero, List.set_cons_succ]; rfl
          · intro d s w9 hd hA hC hF K hK
            have hB9 := hF.1.bel
            simp only [putL, putT, List.setIfInBounds_toArray, List.set_cons_zero, List.set_cons_succ]
            clear hB9
            as_aux_lemma =>
              go_simp
              refine hK.out (updS s 36 (Value.pointer (some ⟨x, 0, none⟩))) _ _ ?_ ⟨hF.1, hF.2.put 2 36 (Value.pointer (some ⟨x, 0, none⟩)) rfl (by simp)⟩
              simp only [putL, putT, List.setIfInBounds_toArray, List.set_cons_zero, List.set_cons_succ]; rfl
          · intro d s w9 hd hA hC hF K hK
            have hB9 := hF.1.bel
            simp only [putL, putT, List.setIfInBounds_toArray, List.set_cons_zero, List.set_cons_succ]
            clear hB9
            as_aux_lemma =>
              have eq2 : s 36 = Value.pointer (some ⟨x, 0, none⟩) := hF.2 (2, 36, Value.pointer (some ⟨x, 0, none⟩)) (by simp) (hA.1)
              rw [eq2]
              go_simp
              refine hK.out (updS s 37 (Value.pointer (some ⟨x, 0, none⟩))) _ _ ?_ ⟨hF.1, hF.2.put 3 37 (Value.pointer (some ⟨x, 0, none⟩)) rfl (by simp)⟩
              simp only [putL, putT, List.setIfInBounds_toArray, List.set_cons_zero, List.set_cons_succ]; rw [show updS s 37 (Value.pointer (some ⟨x, 0, none⟩)) 36 = Value.pointer (some ⟨x, 0, none⟩) from eq2]; rfl
          · intro d s w9 hd hA hC hF K hK
            have hB9 := hF.1.bel
            simp only [putL, putT, List.setIfInBounds_toArray, List.set_cons_zero, List.set_cons_succ]
            clear hB9
            as_aux_lemma =>
              have eq3 : s 37 = Value.pointer (some ⟨x, 0, none⟩) := hF.2 (3, 37, Value.pointer (some ⟨x, 0, none⟩)) (by simp) (hA.1)
              rw [eq3]
              go_simp
              refine hK.out (updS s 38 (Value.pointer (some ⟨x, 1, none⟩))) _ _ ?_ ⟨hF.1, hF.2.put 4 38 (Value.pointer (some ⟨x, 1, none⟩)) rfl (by simp)⟩
              simp only [putL, putT, List.setIfInBounds_toArray, List.set_cons_zero, List.set_cons_succ]; rw [show updS s 38 (Value.pointer (some ⟨x, 1, none⟩)) 37 = Value.pointer (some ⟨x, 0, none⟩) from eq3]; rfl
          · intro d s w9 hd hA hC hF K hK
            have hB9 := hF.1.bel
            simp only [putL, putT, List.setIfInBounds_toArray, List.set_cons_zero, List.set_cons_succ]
            clear hB9
            as_aux_lemma =>
              have eq4 : s 38 = Value.pointer (some ⟨x, 1, none⟩) := hF.2 (4, 38, Value.pointer (some ⟨x, 1, none⟩)) (by simp) (hA.1)
              rw [eq4]
              have hx9 := HX.out.1.later hF.1.bel
              have p1 := hx9.at 1 _ rfl
              go_simp
              clear hx9 p1
              refine hK.out (updS s 39 (Value.int .i64 i)) _ _ ?_ ⟨hF.1, hF.2.put 5 39 (Value.int .i64 i) rfl (by simp)⟩
              simp only [putL, putT, List.setIfInBounds_toArray, List.set_cons_zero, List.set_cons_succ]; rw [show updS s 39 (Value.int .i64 i) 38 = Value.pointer (some ⟨x, 1, none⟩) from eq4]; rfl
          · intro d s w9 hd hA hC hF K hK
            have hB9 := hF.1.bel
            simp only [putL, putT, List.setIfInBounds_toArray, List.set_cons_zero, List.set_cons_succ]
            clear hB9
            as_aux_lemma =>
              go_simp
              refine hK.out (updS s 40 (Value.int .i64 now)) _ _ ?_ ⟨hF.1, hF.2.put 6 40 (Value.int .i64 now) rfl (by simp)⟩
              simp only [putL, putT, List.setIfInBounds_toArray, List.set_cons_zero, List.set_cons_succ]; rfl
          · intro d s w9 hd hA hC hF K hK
            have hB9 := hF.1.bel
            simp only [putL, putT, List.setIfInBounds_toArray, List.set_cons_zero, List.set_cons_succ]
            clear hB9
            as_aux_lemma =>
              have eq0 : s 34 = Value.agg #[.int .i64 t.k, .int .i64 t.t, .int .i64 t.a, .int .i64 t.b, .int .i64 t.c, .int .i64 t.d, .int .i64 t.e] := hF.2 (0, 34, Value.agg #[.int .i64 t.k, .int .i64 t.t, .int .i64 t.a, .int .i64 t.b, .int .i64 t.c, .int .i64 t.d, .int .i64 t.e]) (by simp) (hA.1)
              have eq1 : s 35 = Value.agg #[.int .i64 u.k, .int .i64 u.t, .int .i64 u.a, .int .i64 u.b, .int .i64 u.c, .int .i64 u.d, .int .i64 u.e] := hF.2 (1, 35, Value.agg #[.int .i64 u.k, .int .i64 u.t, .int .i64 u.a, .int .i64 u.b, .int .i64 u.c, .int .i64 u.d, .int .i64 u.e]) (by simp) (hA.2.1)
              have eq5 : s 39 = Value.int .i64 i := hF.2 (5, 39, Value.int .i64 i) (by simp) (hA.2.2.1)
              have eq6 : s 40 = Value.int .i64 now := hF.2 (6, 40, Value.int .i64 now) (by simp) (hA.2.2.2.1)
              rw [eq0, eq1, eq5, eq6]
              simp only [Region.wanted, if_true]
              refine wp_built 66 _ _ _ rfl (by simp only [List.map_toArray, List.map_cons, List.map_nil]; rfl) (bldShowI w9 t u i now) ?_
              refine hK.out (updS s 41 (shV t u i now)) _ _ ?_ ⟨hF.1, hF.2.put 7 41 (shV t u i now) rfl (by simp)⟩
              simp only [putL, putT, List.setIfInBounds_toArray, List.set_cons_zero, List.set_cons_succ]; rw [show updS s 41 (shV t u i now) 34 = Value.agg #[.int .i64 t.k, .int .i64 t.t, .int .i64 t.a, .int .i64 t.b, .int .i64 t.c, .int .i64 t.d, .int .i64 t.e] from eq0, show updS s 41 (shV t u i now) 35 = Value.agg #[.int .i64 u.k, .int .i64 u.t, .int .i64 u.a, .int .i64 u.b, .int .i64 u.c, .int .i64 u.d, .int .i64 u.e] from eq1, show updS s 41 (shV t u i now) 39 = Value.int .i64 i from eq5, show updS s 41 (shV t u i now) 40 = Value.int .i64 now from eq6]; rfl
          · intro d s w9 hd hA hC hF K hK
            have hB9 := hF.1.bel
            simp only [putL, putT, List.setIfInBounds_toArray, List.set_cons_zero, List.set_cons_succ]
            clear hB9
            as_aux_lemma =>
              have eq7 : s 41 = shV t u i now := hF.2 (7, 41, shV t u i now) (by simp) (hA.1)
              rw [eq7]
              go_simp
              refine (isShown_any t u i now _).mono ?_
              rintro r w8 ⟨rfl, b9⟩
              rw [← HSB.out]
              go_simp
              refine hK.out (updS s 42 (.bool true)) _ _ ?_ ⟨St.grow b9 hF.1, hF.2.put 8 42 (.bool true) rfl (by simp)⟩
              simp only [putL, putT, List.setIfInBounds_toArray, List.set_cons_zero, List.set_cons_succ]
              rw [show updS s 42 (.bool true) 41 = shV t u i now from eq7] <;> rfl
          · intro d s w9 hd hA hC hF K hK
            have hB9 := hF.1.bel
            simp only [putL, putT, List.setIfInBounds_toArray, List.set_cons_zero, List.set_cons_succ]
            clear hB9
            as_aux_lemma =>
              have eq8 : s 42 = .bool true := hF.2 (8, 42, .bool true) (by simp) (hA.1)
              rw [eq8]
              go_simp
              refine hK.out (updS s 43 (.bool true)) _ _ ?_ ⟨hF.1, hF.2.put 9 43 (.bool true) rfl (by simp)⟩
              simp only [putL, putT, List.setIfInBounds_toArray, List.set_cons_zero, List.set_cons_succ]; rw [show updS s 43 (.bool true) 42 = .bool true from eq8]; rfl
          · intro d s w9 hd hA hC hF K hK
            have hB9 := hF.1.bel
            simp only [putL, putT, List.setIfInBounds_toArray, List.set_cons_zero, List.set_cons_succ]
            clear hB9
            as_aux_lemma =>
              have eq9 : s 43 = .bool true := hF.2 (9, 43, .bool true) (by simp) (hA.1)
              rw [eq9]
              go_simp
              refine hK.out (updS s 44 (Value.pointer (some ⟨q, 3, none⟩))) _ _ ?_ ⟨hF.1, hF.2.put 10 44 (Value.pointer (some ⟨q, 3, none⟩)) rfl (by simp)⟩
              simp only [putL, putT, List.setIfInBounds_toArray, List.set_cons_zero, List.set_cons_succ]; rw [show updS s 44 (Value.pointer (some ⟨q, 3, none⟩)) 43 = .bool true from eq9]; rfl
          · intro d s w9 hd hA hC hF K hK
            have hB9 := hF.1.bel
            simp only [putL, putT, List.setIfInBounds_toArray, List.set_cons_zero, List.set_cons_succ]
            clear hB9
            as_aux_lemma =>
              have eq9 : s 43 = .bool true := hF.2 (9, 43, .bool true) (by simp) (hA.1)
              have eq10 : s 44 = Value.pointer (some ⟨q, 3, none⟩) := hF.2 (10, 44, Value.pointer (some ⟨q, 3, none⟩)) (by simp) (hA.2.1)
              rw [eq9, eq10]
              have p3 := hF.1.cell 2 rfl 3 (.int .i64 u.b) rfl
              go_simp
              clear p3
              refine hK.out (updS s 45 (Value.int .i64 u.b)) _ _ ?_ ⟨hF.1, hF.2.put 11 45 (Value.int .i64 u.b) rfl (by simp)⟩
              simp only [putL, putT, List.setIfInBounds_toArray, List.set_cons_zero, List.set_cons_succ]; rw [show updS s 45 (Value.int .i64 u.b) 43 = .bool true from eq9, show updS s 45 (Value.int .i64 u.b) 44 = Value.pointer (some ⟨q, 3, none⟩) from eq10]; rfl
          · intro d s w9 hd hA hC hF K hK
            have hB9 := hF.1.bel
            simp only [putL, putT, List.setIfInBounds_toArray, List.set_cons_zero, List.set_cons_succ]
            clear hB9
            as_aux_lemma =>
              have eq9 : s 43 = .bool true := hF.2 (9, 43, .bool true) (by simp) (hA.1)
              rw [eq9]
              go_simp
              refine hK.out (updS s 46 (Value.pointer (some ⟨x, 0, none⟩))) _ _ ?_ ⟨hF.1, hF.2.put 12 46 (Value.pointer (some ⟨x, 0, none⟩)) rfl (by simp)⟩
              simp only [putL, putT, List.setIfInBounds_toArray, List.set_cons_zero, List.set_cons_succ]; rw [show updS s 46 (Value.pointer (some ⟨x, 0, none⟩)) 43 = .bool true from eq9]; rfl
          · intro d s w9 hd hA hC hF K hK
            have hB9 := hF.1.bel
            simp only [putL, putT, List.setIfInBounds_toArray, List.set_cons_zero, List.set_cons_succ]
            clear hB9
            as_aux_lemma =>
              have eq9 : s 43 = .bool true := hF.2 (9, 43, .bool true) (by simp) (hA.1)
              have eq12 : s 46 = Value.pointer (some ⟨x, 0, none⟩) := hF.2 (12, 46, Value.pointer (some ⟨x, 0, none⟩)) (by simp) (hA.2.1)
              rw [eq9, eq12]
              go_simp
              refine hK.out (updS s 47 (Value.pointer (some ⟨x, 0, none⟩))) _ _ ?_ ⟨hF.1, hF.2.put 13 47 (Value.pointer (some ⟨x, 0, none⟩)) rfl (by simp)⟩
              simp only [putL, putT, List.setIfInBounds_toArray, List.set_cons_zero, List.set_cons_succ]; rw [show updS s 47 (Value.pointer (some ⟨x, 0, none⟩)) 43 = .bool true from eq9, show updS s 47 (Value.pointer (some ⟨x, 0, none⟩)) 46 = Value.pointer (some ⟨x, 0, none⟩) from eq12]; rfl
          · intro d s w9 hd hA hC hF K hK
            have hB9 := hF.1.bel
            simp only [putL, putT, List.setIfInBounds_toArray, List.set_cons_zero, List.set_cons_succ]
            clear hB9
            as_aux_lemma =>
              have eq9 : s 43 = .bool true := hF.2 (9, 43, .bool true) (by simp) (hA.1)
              have eq13 : s 47 = Value.pointer (some ⟨x, 0, none⟩) := hF.2 (13, 47, Value.pointer (some ⟨x, 0, none⟩)) (by simp) (hA.2.1)
              rw [eq9, eq13]
              go_simp
              refine hK.out (updS s 48 (Value.pointer (some ⟨x, 2, none⟩))) _ _ ?_ ⟨hF.1, hF.2.put 14 48 (Value.pointer (some ⟨x, 2, none⟩)) rfl (by simp)⟩
              simp only [putL, putT, List.setIfInBounds_toArray, List.set_cons_zero, List.set_cons_succ]; rw [show updS s 48 (Value.pointer (some ⟨x, 2, none⟩)) 43 = .bool true from eq9, show updS s 48 (Value.pointer (some ⟨x, 2, none⟩)) 47 = Value.pointer (some ⟨x, 0, none⟩) from eq13]; rfl
          · intro d s w9 hd hA hC hF K hK
            have hB9 := hF.1.bel
            simp only [putL, putT, List.setIfInBounds_toArray, List.set_cons_zero, List.set_cons_succ]
            clear hB9
            as_aux_lemma =>
              have eq9 : s 43 = .bool true := hF.2 (9, 43, .bool true) (by simp) (hA.1)
              have eq14 : s 48 = Value.pointer (some ⟨x, 2, none⟩) := hF.2 (14, 48, Value.pointer (some ⟨x, 2, none⟩)) (by simp) (hA.2.1)
              rw [eq9, eq14]
              have hx9 := HX.out.1.later hF.1.bel
              have p2 := hx9.at 2 _ rfl
              go_simp
              clear hx9 p2
              refine hK.out (updS s 49 (Value.int .i64 s9)) _ _ ?_ ⟨hF.1, hF.2.put 15 49 (Value.int .i64 s9) rfl (by simp)⟩
              simp only [putL, putT, List.setIfInBounds_toArray, List.set_cons_zero, List.set_cons_succ]; rw [show updS s 49 (Value.int .i64 s9) 43 = .bool true from eq9, show updS s 49 (Value.int .i64 s9) 48 = Value.pointer (some ⟨x, 2, none⟩) from eq14]; rfl
          · intro d s w9 hd hA hC hF K hK
            have hB9 := hF.1.bel
            simp only [putL, putT, List.setIfInBounds_toArray, List.set_cons_zero, List.set_cons_succ]
            clear hB9
            as_aux_lemma =>
              have eq9 : s 43 = .bool true := hF.2 (9, 43, .bool true) (by simp) (hA.1)
              have eq11 : s 45 = Value.int .i64 u.b := hF.2 (11, 45, Value.int .i64 u.b) (by simp) (hA.2.1)
              have eq15 : s 49 = Value.int .i64 s9 := hF.2 (15, 49, Value.int .i64 s9) (by simp) (hA.2.2.1)
              rw [eq9, eq11, eq15]
              go_simp
              try rw [← HLE.out]
              refine hK.out (updS s 50 (.bool le9)) _ _ ?_ ⟨hF.1, hF.2.put 16 50 (.bool le9) rfl (by simp)⟩
              simp only [putL, putT, List.setIfInBounds_toArray, List.set_cons_zero, List.set_cons_succ]; rw [show updS s 50 (.bool le9) 43 = .bool true from eq9, show updS s 50 (.bool le9) 45 = Value.int .i64 u.b from eq11, show updS s 50 (.bool le9) 49 = Value.int .i64 s9 from eq15]; rfl
          · intro d s w9 hd hA hC hF K hK
            have hB9 := hF.1.bel
            simp only [putL, putT, List.setIfInBounds_toArray, List.set_cons_zero, List.set_cons_succ]
            clear hB9
            as_aux_lemma =>
              have eq9 : s 43 = .bool true := hF.2 (9, 43, .bool true) (by simp) (hA.1)
              have eq16 : s 50 = .bool le9 := hF.2 (16, 50, .bool le9) (by simp) (hA.2.1)
              rw [eq9, eq16]
              go_simp
              refine hK.out (updS s 51 (.bool le9)) _ _ ?_ ⟨hF.1, hF.2.put 17 51 (.bool le9) rfl (by simp)⟩
              simp only [putL, putT, List.setIfInBounds_toArray, List.set_cons_zero, List.set_cons_succ]; rw [show updS s 51 (.bool le9) 43 = .bool true from eq9, show updS s 51 (.bool le9) 50 = .bool le9 from eq16]; rfl
          · intro d s w9 hd hA hC hF K hK
            have hB9 := hF.1.bel
            simp only [putL, putT, List.setIfInBounds_toArray, List.set_cons_zero, List.set_cons_succ]
            clear hB9
            as_aux_lemma =>
              have eq17 : s 51 = .bool le9 := hF.2 (17, 51, .bool le9) (by simp) (hA.2.2.2.2.2.2.2.2.2.2.2.2.2.2.2.2.2.1)
              rw [eq17]
              go_simp
              refine hK.out (updS s 6 (.bool le9)) _ _ ?_ ⟨hF.1, hF.2.put 18 6 (.bool le9) rfl (by simp)⟩
              simp only [putL, putT, List.setIfInBounds_toArray, List.set_cons_zero, List.set_cons_succ]; rw [show updS s 6 (.bool le9) 51 = .bool le9 from eq17]; rfl
        · intro d s w5 hA hF
          have hS := hF.1
          have eq18 : s 6 = .bool le9 := hF.2 (18, 6, .bool le9) (by simp) (hA.2.2.2.2.2.2.2.2.2.2.2.2.2.2.2.2.2.2.1)
          have HS8 : Hid (St w.heap.size w [⟨w.heap.size, 33, #[.int .i64 5, .int .i64 cl, .int .i64 i, .int .i64 nc, .slice (some ⟨g2, 0, none⟩) ys.length cap]⟩, ⟨p, 64, #[.int .i64 t.k, .int .i64 t.t, .int .i64 t.a, .int .i64 t.b, .int .i64 t.c, .int .i64 t.d, .int .i64 t.e]⟩, ⟨q, 64, #[.int .i64 u.k, .int .i64 u.t, .int .i64 u.a, .int .i64 u.b, .int .i64 u.c, .int .i64 u.d, .int .i64 u.e]⟩] [] w5) := hS
          clear hS hF hA HS7
          simp only [putL, putT, List.setIfInBounds_toArray, List.set_cons_zero, List.set_cons_succ]
          rw [eq18]
          clear eq18
          go_wp2_with fail
          go_ret
          exact ⟨by rw [EG.out, ← HSB.out]; simp [HLE.out], HS8.out.bel⟩

end Go.Proofs.YtghajmfjekfdpaaDoor
