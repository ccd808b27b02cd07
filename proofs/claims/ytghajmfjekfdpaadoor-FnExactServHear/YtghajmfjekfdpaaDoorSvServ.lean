/-
  A service behind what it heard: (*serving).serv; the list of nothing.
-/
import Derived.Test.YtghajmfjekfdpaaDoorSvCopyS
namespace Go.Proofs.YtghajmfjekfdpaaDoor
open Go.RowKit
attribute [local go_sem ↓] Go.wp_at_zero Go.wp_at_succ

/-- What is known on the way through a region. -/
structure RgServ (w : World) (G : World → Prop) (x : Nat) (pv : Value) (i s9 : Int) (X : List Sl) (a2 : Option Addr) (ts : List Ca) (c2 : Nat) (d : Nat → Bool) (s : Nat → Value) (w' : World) : Prop where
  bel : Below w.heap.size w w'
  ba : ABlk 87 w' x #[pv, .int .i64 i, .int .i64 s9, .slice a2 ts.length c2]
  hg : G w'
  bz : ∃ x0 x1 x2 x3, ABlk 49 w' w.heap.size #[x0, x1, x2, x3]
  bv : d 17 = true → ∃ b0 d0, ABlk 49 w' w.heap.size #[.int .i64 i, .int .i64 s9, .slice b0 X.length d0, .slice a2 ts.length c2] ∧ OwnS w' w.heap.size (.slice b0 X.length d0) X
  fb : d 16 = true → ∃ b0 d0, s 19 = .agg #[.int .i64 i, .int .i64 s9, .slice b0 X.length d0, .slice a2 ts.length c2] ∧ OwnS w' w.heap.size (.slice b0 X.length d0) X
  fl : d 11 = true → ∃ b0 d0, s 14 = Value.slice b0 X.length d0 ∧ OwnS w' w.heap.size (.slice b0 X.length d0) X
  f0 : d 0 = true → s 3 = Value.pointer (some ⟨x, 0, none⟩)
  f1 : d 1 = true → s 4 = Value.pointer (some ⟨x, 0, none⟩)
  f2 : d 2 = true → s 5 = Value.pointer (some ⟨x, 1, none⟩)
  f3 : d 3 = true → s 6 = Value.int .i64 i
  f4 : d 4 = true → s 7 = Value.pointer (some ⟨x, 0, none⟩)
  f5 : d 5 = true → s 8 = Value.pointer (some ⟨x, 0, none⟩)
  f6 : d 6 = true → s 9 = Value.pointer (some ⟨x, 2, none⟩)
  f7 : d 7 = true → s 10 = Value.int .i64 s9
  f8 : d 8 = true → s 11 = Value.pointer (some ⟨x, 0, none⟩)
  f9 : d 9 = true → s 12 = Value.pointer (some ⟨x, 0, none⟩)
  f10 : d 10 = true → s 13 = Value.pointer (some ⟨x, 0, none⟩)
  f12 : d 12 = true → s 15 = Value.pointer (some ⟨x, 0, none⟩)
  f13 : d 13 = true → s 16 = Value.pointer (some ⟨x, 0, none⟩)
  f14 : d 14 = true → s 17 = Value.pointer (some ⟨x, 3, none⟩)
  f15 : d 15 = true → s 18 = Value.slice a2 ts.length c2
theorem RgServ.later {w : World} {G : World → Prop} {x : Nat} {pv : Value} {i s9 : Int} {X : List Sl} {a2 : Option Addr} {ts : List Ca} {c2 : Nat} {d : Nat → Bool} {s : Nat → Value} {w1 w2 : World} (hG : ∀ w1 w2, G w1 → Below w1.heap.size w1 w2 → G w2) (h : RgServ w G x pv i s9 X a2 ts c2 d s w1) (hb : Below w1.heap.size w1 w2) : RgServ w G x pv i s9 X a2 ts c2 d s w2 := by
  refine ⟨?_, ?_, ?_, ?_, ?_, ?_, ?_, h.f0, h.f1, h.f2, h.f3, h.f4, h.f5, h.f6, h.f7, h.f8, h.f9, h.f10, h.f12, h.f13, h.f14, h.f15⟩
  · exact h.bel.trans (hb.mono h.bel.size)
  · exact h.ba.later hb
  · exact hG _ _ h.hg hb
  · obtain ⟨x0, x1, x2, x3, h1⟩ := h.bz
    exact ⟨x0, x1, x2, x3, h1.later hb⟩
  · intro e
    obtain ⟨b0, d0, h1, h2⟩ := h.bv e
    exact ⟨b0, d0, h1.later hb, h2.later hb⟩
  · intro e
    obtain ⟨b0, d0, h1, h2⟩ := h.fb e
    exact ⟨b0, d0, h1, h2.later hb⟩
  · intro e
    obtain ⟨b0, d0, h1, h2⟩ := h.fl e
    exact ⟨b0, d0, h1, h2.later hb⟩

set_option maxHeartbeats 8000000 in
set_option maxRecDepth 100000 in
/-- What is remembered is listed as HL says; G stays where memory grows, and where the answer is written. -/
theorem serv_gen (G : World → Prop) (x : Nat) (pv : Value) (i s9 : Int) (X : List Sl) (a2 : Option Addr) (ts : List Ca) (c2 : Nat) (w : World) (h : ABlk 87 w x #[pv, .int .i64 i, .int .i64 s9, .slice a2 ts.length c2]) (hg : G w)
    (hG : ∀ w1 w2, G w1 → Below w1.heap.size w1 w2 → G w2) (hS : ∀ w1 w2, G w1 → GrL w1 w2 [some w.heap.size] → G w2)
    (hL : ∀ w1, G w1 → Below w.heap.size w w1 → Calls Tryd.prog 78 #[.pointer (some ⟨x, 0, none⟩)] w1 fun r w' => ∃ b0 d0, r = .returned (.slice b0 X.length d0) ∧ OwnS w' w.heap.size (.slice b0 X.length d0) X ∧ Below w1.heap.size w1 w') :
    Calls Tryd.prog 48 #[.pointer (some ⟨x, 0, none⟩)] w fun r w' => ∃ b0 d0, r = .returned (.agg #[.int .i64 i, .int .i64 s9, .slice b0 X.length d0, .slice a2 ts.length c2]) ∧ OwnS w' w.heap.size (.slice b0 X.length d0) X ∧ Below w.heap.size w w' := by
  have HG : Hid (∀ w1 w2, G w1 → Below w1.heap.size w1 w2 → G w2) := hG
  have HS : Hid (∀ w1 w2, G w1 → GrL w1 w2 [some w.heap.size] → G w2) := hS
  have HL : Hid (∀ w1, G w1 → Below w.heap.size w w1 → Calls Tryd.prog 78 #[.pointer (some ⟨x, 0, none⟩)] w1 fun r w' => ∃ b0 d0, r = .returned (.slice b0 X.length d0) ∧ OwnS w' w.heap.size (.slice b0 X.length d0) X ∧ Below w1.heap.size w1 w') := hL
  have lx : x < w.heap.size := h.lt
  have HW : Hid (Below w.heap.size w (w.alloc (.cells #[.int .i64 0, .int .i64 0, .slice none 0 0, .slice none 0 0] 49)) ∧ ABlk 87 (w.alloc (.cells #[.int .i64 0, .int .i64 0, .slice none 0 0, .slice none 0 0] 49)) x #[pv, .int .i64 i, .int .i64 s9, .slice a2 ts.length c2] ∧ G (w.alloc (.cells #[.int .i64 0, .int .i64 0, .slice none 0 0, .slice none 0 0] 49)) ∧ ABlk 49 (w.alloc (.cells #[.int .i64 0, .int .i64 0, .slice none 0 0, .slice none 0 0] 49)) w.heap.size #[.int .i64 0, .int .i64 0, .slice none 0 0, .slice none 0 0]) := ⟨Below.alloc_ _ _, h.later (Below.alloc_ _ _), hG _ _ hg (Below.alloc_ _ _), ABlk.new _ _ _⟩
  clear h hg hG hS hL
  go_enter Tryd.func48, Tryd.ntmps48
  go_wp2_with fail
  generalize (w.alloc (.cells #[.int .i64 0, .int .i64 0, .slice none 0 0, .slice none 0 0] 49)) = W0 at HW ⊢
  refine wp_region_walk [3, 4, 5, 6, 7, 8, 9, 10, 11, 12, 13, 14, 15, 16, 17, 18, 19] (RgServ w G x pv i s9 X a2 ts c2) [0, 1, 2, 3, 4, 5, 6, 7, 8, 9, 10, 11, 12, 13, 14, 15, 16, 17] (by kernel_rfl) (by kernel_rfl) (by kernel_rfl) ?_ ?_ ?_
  · intro s
    exact ⟨HW.out.1.drew, HW.out.2.1, HG.out _ _ HW.out.2.2.1 (Below.refl _ _).drew, ⟨_, _, _, _, HW.out.2.2.2⟩, fun e => (by cases e), fun e => (by cases e), fun e => (by cases e), fun e => (by cases e), fun e => (by cases e), fun e => (by cases e), fun e => (by cases e), fun e => (by cases e), fun e => (by cases e), fun e => (by cases e), fun e => (by cases e), fun e => (by cases e), fun e => (by cases e), fun e => (by cases e), fun e => (by cases e), fun e => (by cases e), fun e => (by cases e), fun e => (by cases e)⟩
  · refine StepsR.cons (k := 0) [] (by kernel_rfl) ?_ (StepsR.cons (k := 1) [0] (by kernel_rfl) ?_ (StepsR.cons (k := 2) [1] (by kernel_rfl) ?_ (StepsR.cons (k := 3) [2] (by kernel_rfl) ?_ (StepsR.cons (k := 4) [] (by kernel_rfl) ?_ (StepsR.cons (k := 5) [4] (by kernel_rfl) ?_ (StepsR.cons (k := 6) [5] (by kernel_rfl) ?_ (StepsR.cons (k := 7) [6] (by kernel_rfl) ?_ (StepsR.cons (k := 8) [] (by kernel_rfl) ?_ (StepsR.cons (k := 9) [8] (by kernel_rfl) ?_ (StepsR.cons (k := 10) [9] (by kernel_rfl) ?_ (StepsR.cons (k := 11) [10] (by kernel_rfl) ?_ (StepsR.cons (k := 12) [] (by kernel_rfl) ?_ (StepsR.cons (k := 13) [12] (by kernel_rfl) ?_ (StepsR.cons (k := 14) [13] (by kernel_rfl) ?_ (StepsR.cons (k := 15) [14] (by kernel_rfl) ?_ (StepsR.cons (k := 16) [3, 7, 11, 15] (by kernel_rfl) ?_ (StepsR.cons (k := 17) [0, 1, 2, 3, 4, 5, 6, 7, 8, 9, 10, 11, 12, 13, 14, 15, 16] (by kernel_rfl) ?_ (StepsR.nil))))))))))))))))))
    · intro d s w1 hd hA hC hF K hK
      have hB9 := hF.bel
      simp only [putL, putT, List.setIfInBounds_toArray, List.set_cons_zero, List.set_cons_succ]
      clear hB9
      as_aux_lemma =>
        go_simp
        refine hK.out (updS s 3 (Value.pointer (some ⟨x, 0, none⟩))) _ _ ?_ ⟨hF.bel, hF.ba, hF.hg, hF.bz, hF.bv, hF.fb, hF.fl, fun _ => rfl, hF.f1, hF.f2, hF.f3, hF.f4, hF.f5, hF.f6, hF.f7, hF.f8, hF.f9, hF.f10, hF.f12, hF.f13, hF.f14, hF.f15⟩
        (simp only [putL, putT, List.setIfInBounds_toArray, List.set_cons_zero, List.set_cons_succ]); rfl
    · intro d s w1 hd hA hC hF K hK
      have hB9 := hF.bel
      simp only [putL, putT, List.setIfInBounds_toArray, List.set_cons_zero, List.set_cons_succ]
      clear hB9
      as_aux_lemma =>
        have e0 := hF.f0 (hA.1)
        rw [e0]
        go_simp
        refine hK.out (updS s 4 (Value.pointer (some ⟨x, 0, none⟩))) _ _ ?_ ⟨hF.bel, hF.ba, hF.hg, hF.bz, hF.bv, hF.fb, hF.fl, hF.f0, fun _ => rfl, hF.f2, hF.f3, hF.f4, hF.f5, hF.f6, hF.f7, hF.f8, hF.f9, hF.f10, hF.f12, hF.f13, hF.f14, hF.f15⟩
        (simp only [putL, putT, List.setIfInBounds_toArray, List.set_cons_zero, List.set_cons_succ]); rw [← e0]; (try rfl)
    · intro d s w1 hd hA hC hF K hK
      have hB9 := hF.bel
      simp only [putL, putT, List.setIfInBounds_toArray, List.set_cons_zero, List.set_cons_succ]
      clear hB9
      as_aux_lemma =>
        have e0 := hF.f1 (hA.1)
        rw [e0]
        go_simp
        refine hK.out (updS s 5 (Value.pointer (some ⟨x, 1, none⟩))) _ _ ?_ ⟨hF.bel, hF.ba, hF.hg, hF.bz, hF.bv, hF.fb, hF.fl, hF.f0, hF.f1, fun _ => rfl, hF.f3, hF.f4, hF.f5, hF.f6, hF.f7, hF.f8, hF.f9, hF.f10, hF.f12, hF.f13, hF.f14, hF.f15⟩
        (simp only [putL, putT, List.setIfInBounds_toArray, List.set_cons_zero, List.set_cons_succ]); rw [← e0]; (try rfl)
    · intro d s w1 hd hA hC hF K hK
      have hB9 := hF.bel
      simp only [putL, putT, List.setIfInBounds_toArray, List.set_cons_zero, List.set_cons_succ]
      clear hB9
      as_aux_lemma =>
        have p0 := hF.ba.at 1 _ rfl
        have e0 := hF.f2 (hA.1)
        rw [e0]
        go_simp
        clear p0
        refine hK.out (updS s 6 (Value.int .i64 i)) _ _ ?_ ⟨hF.bel, hF.ba, hF.hg, hF.bz, hF.bv, hF.fb, hF.fl, hF.f0, hF.f1, hF.f2, fun _ => rfl, hF.f4, hF.f5, hF.f6, hF.f7, hF.f8, hF.f9, hF.f10, hF.f12, hF.f13, hF.f14, hF.f15⟩
        (simp only [putL, putT, List.setIfInBounds_toArray, List.set_cons_zero, List.set_cons_succ]); rw [← e0]; (try rfl)
    · intro d s w1 hd hA hC hF K hK
      have hB9 := hF.bel
      simp only [putL, putT, List.setIfInBounds_toArray, List.set_cons_zero, List.set_cons_succ]
      clear hB9
      as_aux_lemma =>
        go_simp
        refine hK.out (updS s 7 (Value.pointer (some ⟨x, 0, none⟩))) _ _ ?_ ⟨hF.bel, hF.ba, hF.hg, hF.bz, hF.bv, hF.fb, hF.fl, hF.f0, hF.f1, hF.f2, hF.f3, fun _ => rfl, hF.f5, hF.f6, hF.f7, hF.f8, hF.f9, hF.f10, hF.f12, hF.f13, hF.f14, hF.f15⟩
        (simp only [putL, putT, List.setIfInBounds_toArray, List.set_cons_zero, List.set_cons_succ]); rfl
    · intro d s w1 hd hA hC hF K hK
      have hB9 := hF.bel
      simp only [putL, putT, List.setIfInBounds_toArray, List.set_cons_zero, List.set_cons_succ]
      clear hB9
      as_aux_lemma =>
        have e0 := hF.f4 (hA.1)
        rw [e0]
        go_simp
        refine hK.out (updS s 8 (Value.pointer (some ⟨x, 0, none⟩))) _ _ ?_ ⟨hF.bel, hF.ba, hF.hg, hF.bz, hF.bv, hF.fb, hF.fl, hF.f0, hF.f1, hF.f2, hF.f3, hF.f4, fun _ => rfl, hF.f6, hF.f7, hF.f8, hF.f9, hF.f10, hF.f12, hF.f13, hF.f14, hF.f15⟩
        (simp only [putL, putT, List.setIfInBounds_toArray, List.set_cons_zero, List.set_cons_succ]); rw [← e0]; (try rfl)
    · intro d s w1 hd hA hC hF K hK
      have hB9 := hF.bel
      simp only [putL, putT, List.setIfInBounds_toArray, List.set_cons_zero, List.set_cons_succ]
      clear hB9
      as_aux_lemma =>
        have e0 := hF.f5 (hA.1)
        rw [e0]
        go_simp
        refine hK.out (updS s 9 (Value.pointer (some ⟨x, 2, none⟩))) _ _ ?_ ⟨hF.bel, hF.ba, hF.hg, hF.bz, hF.bv, hF.fb, hF.fl, hF.f0, hF.f1, hF.f2, hF.f3, hF.f4, hF.f5, fun _ => rfl, hF.f7, hF.f8, hF.f9, hF.f10, hF.f12, hF.f13, hF.f14, hF.f15⟩
        (simp only [putL, putT, List.setIfInBounds_toArray, List.set_cons_zero, List.set_cons_succ]); rw [← e0]; (try rfl)
    · intro d s w1 hd hA hC hF K hK
      have hB9 := hF.bel
      simp only [putL, putT, List.setIfInBounds_toArray, List.set_cons_zero, List.set_cons_succ]
      clear hB9
      as_aux_lemma =>
        have p0 := hF.ba.at 2 _ rfl
        have e0 := hF.f6 (hA.1)
        rw [e0]
        go_simp
        clear p0
        refine hK.out (updS s 10 (Value.int .i64 s9)) _ _ ?_ ⟨hF.bel, hF.ba, hF.hg, hF.bz, hF.bv, hF.fb, hF.fl, hF.f0, hF.f1, hF.f2, hF.f3, hF.f4, hF.f5, hF.f6, fun _ => rfl, hF.f8, hF.f9, hF.f10, hF.f12, hF.f13, hF.f14, hF.f15⟩
        (simp only [putL, putT, List.setIfInBounds_toArray, List.set_cons_zero, List.set_cons_succ]); rw [← e0]; (try rfl)
    · intro d s w1 hd hA hC hF K hK
      have hB9 := hF.bel
      simp only [putL, putT, List.setIfInBounds_toArray, List.set_cons_zero, List.set_cons_succ]
      clear hB9
      as_aux_lemma =>
        go_simp
        refine hK.out (updS s 11 (Value.pointer (some ⟨x, 0, none⟩))) _ _ ?_ ⟨hF.bel, hF.ba, hF.hg, hF.bz, hF.bv, hF.fb, hF.fl, hF.f0, hF.f1, hF.f2, hF.f3, hF.f4, hF.f5, hF.f6, hF.f7, fun _ => rfl, hF.f9, hF.f10, hF.f12, hF.f13, hF.f14, hF.f15⟩
        (simp only [putL, putT, List.setIfInBounds_toArray, List.set_cons_zero, List.set_cons_succ]); rfl
    · intro d s w1 hd hA hC hF K hK
      have hB9 := hF.bel
      simp only [putL, putT, List.setIfInBounds_toArray, List.set_cons_zero, List.set_cons_succ]
      clear hB9
      as_aux_lemma =>
        have e0 := hF.f8 (hA.1)
        rw [e0]
        go_simp
        refine hK.out (updS s 12 (Value.pointer (some ⟨x, 0, none⟩))) _ _ ?_ ⟨hF.bel, hF.ba, hF.hg, hF.bz, hF.bv, hF.fb, hF.fl, hF.f0, hF.f1, hF.f2, hF.f3, hF.f4, hF.f5, hF.f6, hF.f7, hF.f8, fun _ => rfl, hF.f10, hF.f12, hF.f13, hF.f14, hF.f15⟩
        (simp only [putL, putT, List.setIfInBounds_toArray, List.set_cons_zero, List.set_cons_succ]); rw [← e0]; (try rfl)
    · intro d s w1 hd hA hC hF K hK
      have hB9 := hF.bel
      simp only [putL, putT, List.setIfInBounds_toArray, List.set_cons_zero, List.set_cons_succ]
      clear hB9
      as_aux_lemma =>
        have e0 := hF.f9 (hA.1)
        rw [e0]
        go_simp
        refine hK.out (updS s 13 (Value.pointer (some ⟨x, 0, none⟩))) _ _ ?_ ⟨hF.bel, hF.ba, hF.hg, hF.bz, hF.bv, hF.fb, hF.fl, hF.f0, hF.f1, hF.f2, hF.f3, hF.f4, hF.f5, hF.f6, hF.f7, hF.f8, hF.f9, fun _ => rfl, hF.f12, hF.f13, hF.f14, hF.f15⟩
        (simp only [putL, putT, List.setIfInBounds_toArray, List.set_cons_zero, List.set_cons_succ]); rw [← e0]; (try rfl)
    · intro d s w1 hd hA hC hF K hK
      have hB9 := hF.bel
      simp only [putL, putT, List.setIfInBounds_toArray, List.set_cons_zero, List.set_cons_succ]
      clear hB9
      as_aux_lemma =>
        have e0 := hF.f10 (hA.1)
        rw [e0]
        go_simp
        refine (HL.out _ hF.hg hF.bel).mono ?_
        rintro r w2 ⟨b0, d0, rfl, o9, b9⟩
        go_simp
        have hF2 := RgServ.later HG.out hF b9
        refine hK.out (updS s 14 (Value.slice b0 X.length d0)) _ _ ?_ ⟨hF2.bel, hF2.ba, hF2.hg, hF2.bz, hF2.bv, hF2.fb, fun _ => ⟨b0, d0, rfl, o9⟩, hF2.f0, hF2.f1, hF2.f2, hF2.f3, hF2.f4, hF2.f5, hF2.f6, hF2.f7, hF2.f8, hF2.f9, hF2.f10, hF2.f12, hF2.f13, hF2.f14, hF2.f15⟩
        (simp only [putL, putT, List.setIfInBounds_toArray, List.set_cons_zero, List.set_cons_succ]); rw [← e0]; (try rfl)
    · intro d s w1 hd hA hC hF K hK
      have hB9 := hF.bel
      simp only [putL, putT, List.setIfInBounds_toArray, List.set_cons_zero, List.set_cons_succ]
      clear hB9
      as_aux_lemma =>
        go_simp
        refine hK.out (updS s 15 (Value.pointer (some ⟨x, 0, none⟩))) _ _ ?_ ⟨hF.bel, hF.ba, hF.hg, hF.bz, hF.bv, hF.fb, hF.fl, hF.f0, hF.f1, hF.f2, hF.f3, hF.f4, hF.f5, hF.f6, hF.f7, hF.f8, hF.f9, hF.f10, fun _ => rfl, hF.f13, hF.f14, hF.f15⟩
        (simp only [putL, putT, List.setIfInBounds_toArray, List.set_cons_zero, List.set_cons_succ]); rfl
    · intro d s w1 hd hA hC hF K hK
      have hB9 := hF.bel
      simp only [putL, putT, List.setIfInBounds_toArray, List.set_cons_zero, List.set_cons_succ]
      clear hB9
      as_aux_lemma =>
        have e0 := hF.f12 (hA.1)
        rw [e0]
        go_simp
        refine hK.out (updS s 16 (Value.pointer (some ⟨x, 0, none⟩))) _ _ ?_ ⟨hF.bel, hF.ba, hF.hg, hF.bz, hF.bv, hF.fb, hF.fl, hF.f0, hF.f1, hF.f2, hF.f3, hF.f4, hF.f5, hF.f6, hF.f7, hF.f8, hF.f9, hF.f10, hF.f12, fun _ => rfl, hF.f14, hF.f15⟩
        (simp only [putL, putT, List.setIfInBounds_toArray, List.set_cons_zero, List.set_cons_succ]); rw [← e0]; (try rfl)
    · intro d s w1 hd hA hC hF K hK
      have hB9 := hF.bel
      simp only [putL, putT, List.setIfInBounds_toArray, List.set_cons_zero, List.set_cons_succ]
      clear hB9
      as_aux_lemma =>
        have e0 := hF.f13 (hA.1)
        rw [e0]
        go_simp
        refine hK.out (updS s 17 (Value.pointer (some ⟨x, 3, none⟩))) _ _ ?_ ⟨hF.bel, hF.ba, hF.hg, hF.bz, hF.bv, hF.fb, hF.fl, hF.f0, hF.f1, hF.f2, hF.f3, hF.f4, hF.f5, hF.f6, hF.f7, hF.f8, hF.f9, hF.f10, hF.f12, hF.f13, fun _ => rfl, hF.f15⟩
        (simp only [putL, putT, List.setIfInBounds_toArray, List.set_cons_zero, List.set_cons_succ]); rw [← e0]; (try rfl)
    · intro d s w1 hd hA hC hF K hK
      have hB9 := hF.bel
      simp only [putL, putT, List.setIfInBounds_toArray, List.set_cons_zero, List.set_cons_succ]
      clear hB9
      as_aux_lemma =>
        have p0 := hF.ba.at 3 _ rfl
        have e0 := hF.f14 (hA.1)
        rw [e0]
        go_simp
        clear p0
        refine hK.out (updS s 18 (Value.slice a2 ts.length c2)) _ _ ?_ ⟨hF.bel, hF.ba, hF.hg, hF.bz, hF.bv, hF.fb, hF.fl, hF.f0, hF.f1, hF.f2, hF.f3, hF.f4, hF.f5, hF.f6, hF.f7, hF.f8, hF.f9, hF.f10, hF.f12, hF.f13, hF.f14, fun _ => rfl⟩
        (simp only [putL, putT, List.setIfInBounds_toArray, List.set_cons_zero, List.set_cons_succ]); rw [← e0]; (try rfl)
    · intro d s w1 hd hA hC hF K hK
      have hB9 := hF.bel
      simp only [putL, putT, List.setIfInBounds_toArray, List.set_cons_zero, List.set_cons_succ]
      clear hB9
      as_aux_lemma =>
        have e0 := hF.f3 (hA.1)
        have e1 := hF.f7 (hA.2.1)
        obtain ⟨b0, d0, e2, o9⟩ := hF.fl (hA.2.2.1)
        have e3 := hF.f15 (hA.2.2.2.1)
        have O9 : Hid (OwnS w1 w.heap.size (.slice b0 X.length d0) X) := o9
        clear o9
        rw [e0, e1, e2, e3]
        simp only [Region.wanted, if_true]
        refine wp_built 49 _ _ _ rfl (by simp only [List.map_toArray, List.map_cons, List.map_nil]; rfl) (bldServ w1 i s9 b0 a2 X.length ts.length d0 c2) ?_
        refine hK.out (updS s 19 (Value.agg #[.int .i64 i, .int .i64 s9, .slice b0 X.length d0, .slice a2 ts.length c2])) _ _ ?_ ⟨hF.bel, hF.ba, hF.hg, hF.bz, hF.bv, fun _ => ⟨b0, d0, rfl, O9.out⟩, hF.fl, hF.f0, hF.f1, hF.f2, hF.f3, hF.f4, hF.f5, hF.f6, hF.f7, hF.f8, hF.f9, hF.f10, hF.f12, hF.f13, hF.f14, hF.f15⟩
        (simp only [putL, putT, List.setIfInBounds_toArray, List.set_cons_zero, List.set_cons_succ]); rw [← e0, ← e1, ← e2, ← e3]; (try rfl)
    · intro d s w1 hd hA hC hF K hK
      have hB9 := hF.bel
      simp only [putL, putT, List.setIfInBounds_toArray, List.set_cons_zero, List.set_cons_succ]
      clear hB9
      as_aux_lemma =>
        obtain ⟨b0, d0, e0, o9⟩ := hF.fb (hA.2.2.2.2.2.2.2.2.2.2.2.2.2.2.2.2.1)
        obtain ⟨y0, y1, y2, y3, hz⟩ := hF.bz
        have p0 := hz.at 0 _ rfl
        have p1 := hz.at 1 _ rfl
        have p2 := hz.at 2 _ rfl
        have p3 := hz.at 3 _ rfl
        have q0 := hz.fro 0
        have q1 := hz.fro 1
        have q2 := hz.fro 2
        have q3 := hz.fro 3
        have H0 : Hid (ABlk 49 w1 w.heap.size #[y0, y1, y2, y3] ∧ OwnS w1 w.heap.size (.slice b0 X.length d0) X) := ⟨hz, o9⟩
        clear hz o9
        rw [e0]
        go_simp
        clear p0 q0 p1 q1 p2 q2 p3 q3
        have g9 : GrL w1 ((((w1.setCell ⟨w.heap.size, 0, none⟩ (Value.int .i64 i)).setCell ⟨w.heap.size, 1, none⟩ (Value.int .i64 s9)).setCell ⟨w.heap.size, 2, none⟩ (Value.slice b0 X.length d0)).setCell ⟨w.heap.size, 3, none⟩ (Value.slice a2 ts.length c2)) [some w.heap.size] := put4_grl _ _ _ _ _ _
        have H1 : ABlk 49 ((((w1.setCell ⟨w.heap.size, 0, none⟩ (Value.int .i64 i)).setCell ⟨w.heap.size, 1, none⟩ (Value.int .i64 s9)).setCell ⟨w.heap.size, 2, none⟩ (Value.slice b0 X.length d0)).setCell ⟨w.heap.size, 3, none⟩ (Value.slice a2 ts.length c2)) w.heap.size #[.int .i64 i, .int .i64 s9, .slice b0 X.length d0, .slice a2 ts.length c2] := H0.out.1.put4 _ _ _ _
        have hg9 := HS.out w1 _ hF.hg g9
        generalize ((((w1.setCell ⟨w.heap.size, 0, none⟩ (Value.int .i64 i)).setCell ⟨w.heap.size, 1, none⟩ (Value.int .i64 s9)).setCell ⟨w.heap.size, 2, none⟩ (Value.slice b0 X.length d0)).setCell ⟨w.heap.size, 3, none⟩ (Value.slice a2 ts.length c2)) = W at g9 H1 hg9 ⊢
        have O5 : OwnS W w.heap.size (.slice b0 X.length d0) X := own_grl H0.out.2 g9 (fun k e hm => by simp at hm; exact own_off H0.out.1 H0.out.2 (by decide) (hm ▸ e))
        refine hK.out s _ _ ?_ ⟨hF.bel.trans (g9.below hF.bel.size (fun k hk => by simp at hk; omega)), hF.ba.grl g9 (by simp; omega), hg9, ⟨_, _, _, _, H1⟩, fun _ => ⟨b0, d0, H1, O5⟩, fun _ => ⟨b0, d0, e0, O5⟩, fun e => (by obtain ⟨b, c, h1, h2⟩ := hF.fl e; exact ⟨b, c, h1, own_grl h2 g9 (fun k e hm => by simp at hm; exact own_off H0.out.1 h2 (by decide) (hm ▸ e))⟩), hF.f0, hF.f1, hF.f2, hF.f3, hF.f4, hF.f5, hF.f6, hF.f7, hF.f8, hF.f9, hF.f10, hF.f12, hF.f13, hF.f14, hF.f15⟩
        (simp only [putL, putT, List.setIfInBounds_toArray, List.set_cons_zero, List.set_cons_succ]); rw [← e0]; (try rfl)
  · intro d s w1 hA hF
    obtain ⟨b0, d0, hz, o9⟩ := hF.bv (hA.2.2.2.2.2.2.2.2.2.2.2.2.2.2.2.2.2.1)
    have HE : Hid (OwnS w1 w.heap.size (.slice b0 X.length d0) X ∧ Below w.heap.size w w1) := ⟨o9, hF.bel⟩
    have p0 := hz.at 0 _ rfl
    have p1 := hz.at 1 _ rfl
    have p2 := hz.at 2 _ rfl
    have p3 := hz.at 3 _ rfl
    clear hF hA hz o9
    simp only [putL, putT, List.setIfInBounds_toArray, List.set_cons_zero, List.set_cons_succ]
    go_wp2_with fail
    refine bodyPost_ret (v := .agg #[.int .i64 i, .int .i64 s9, .slice b0 X.length d0, .slice a2 ts.length c2]) (by simp [results, Tryd.results48, go_sem, *]) rfl ⟨b0, d0, rfl, HE.out.1, HE.out.2⟩

theorem list_nil (x : Nat) (i s9 : Int) (v : Value) (w : World) (h : ABlk 87 w x #[.pointer none, .int .i64 i, .int .i64 s9, v]) : Calls Tryd.prog 78 #[.pointer (some ⟨x, 0, none⟩)] w fun r w' => r = .returned (.slice none 0 0) ∧ w' = w := by
  have p0 := h.at 0 (.pointer none) rfl
  go_enter Tryd.func78, Tryd.ntmps78
  go_wp2_with fail
  go_loopw [3, 4] (fun l q wr => l = .slice none 0 0 ∧ q = .pointer none ∧ wr = w) (fun _ _ _ => 0)
  case atStart => exact ⟨rfl, rfl, rfl⟩
  case round =>
    obtain ⟨rfl, rfl, rfl⟩ := hrel
    go_wp2_with fail
    go_ret
    exact ⟨rfl, rfl⟩

end Go.Proofs.YtghajmfjekfdpaaDoor
