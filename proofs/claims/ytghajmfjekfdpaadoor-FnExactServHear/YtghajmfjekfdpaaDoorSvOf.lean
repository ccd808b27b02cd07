/-
  A service while it hears: servingOf, whatever what is remembered is laid as.
-/
import Derived.Test.YtghajmfjekfdpaaDoorSvCopyS
namespace Go.Proofs.YtghajmfjekfdpaaDoor
open Go.RowKit
attribute [local go_sem ↓] Go.wp_at_zero Go.wp_at_succ

theorem bldServing (w : World) (pv : Value) (i s : Int) (a : Option Addr) (l c : Nat) : (Instr.build 87 #[(0, .agg #[pv]), (1, .int .i64 i), (2, .int .i64 s), (3, .slice a l c)]).run Tryd.prog w = .ok (.agg #[pv, .int .i64 i, .int .i64 s, .slice a l c]) w := by kernel_rfl

/-- What is known on the way through a region. -/
structure RgOf (w : World) (P : Value → World → Prop) (i s9 : Int) (a1 a2 : Option Addr) (c1 c2 : Nat) (xs : List Sl) (ts : List Ca) (d : Nat → Bool) (s : Nat → Value) (w' : World) : Prop where
  bel : Below w.heap.size w w'
  ba : ABlk 49 w' w.heap.size #[.int .i64 i, .int .i64 s9, .slice a1 xs.length c1, .slice a2 ts.length c2]
  fm : d 2 = true → ∃ pv, s 5 = Value.agg #[pv] ∧ P pv w'
  fo : d 9 = true → ∃ b1 d1, s 12 = Value.slice b1 ts.length d1 ∧ OwnN celC 90 w' w.heap.size (.slice b1 ts.length d1) ts
  fb : d 10 = true → ∃ pv b1 d1, s 13 = Value.agg #[pv, .int .i64 i, .int .i64 s9, .slice b1 ts.length d1] ∧ P pv w' ∧ OwnN celC 90 w' w.heap.size (.slice b1 ts.length d1) ts
  fx : d 11 = true → ∃ x pv b1 d1, s 14 = Value.pointer (some ⟨x, 0, none⟩) ∧ w.heap.size ≤ x ∧ ABlk 87 w' x #[pv, .int .i64 i, .int .i64 s9, .slice b1 ts.length d1] ∧ P pv w' ∧ OwnN celC 90 w' w.heap.size (.slice b1 ts.length d1) ts
  fr : d 12 = true → ∃ x pv b1 d1, s 2 = Value.pointer (some ⟨x, 0, none⟩) ∧ w.heap.size ≤ x ∧ ABlk 87 w' x #[pv, .int .i64 i, .int .i64 s9, .slice b1 ts.length d1] ∧ P pv w' ∧ OwnN celC 90 w' w.heap.size (.slice b1 ts.length d1) ts
  f0 : d 0 = true → s 3 = Value.pointer (some ⟨w.heap.size, 2, none⟩)
  f1 : d 1 = true → s 4 = Value.slice a1 xs.length c1
  f3 : d 3 = true → s 6 = Value.pointer (some ⟨w.heap.size, 0, none⟩)
  f4 : d 4 = true → s 7 = Value.int .i64 i
  f5 : d 5 = true → s 8 = Value.pointer (some ⟨w.heap.size, 1, none⟩)
  f6 : d 6 = true → s 9 = Value.int .i64 s9
  f7 : d 7 = true → s 10 = Value.pointer (some ⟨w.heap.size, 3, none⟩)
  f8 : d 8 = true → s 11 = Value.slice a2 ts.length c2
theorem RgOf.later {w : World} {P : Value → World → Prop} {i s9 : Int} {a1 a2 : Option Addr} {c1 c2 : Nat} {xs : List Sl} {ts : List Ca} {d : Nat → Bool} {s : Nat → Value} {w1 w2 : World} (hP : ∀ pv w1 w2, P pv w1 → Below w1.heap.size w1 w2 → P pv w2) (h : RgOf w P i s9 a1 a2 c1 c2 xs ts d s w1) (hb : Below w1.heap.size w1 w2) : RgOf w P i s9 a1 a2 c1 c2 xs ts d s w2 := by
  refine ⟨?_, ?_, ?_, ?_, ?_, ?_, ?_, h.f0, h.f1, h.f3, h.f4, h.f5, h.f6, h.f7, h.f8⟩
  · exact h.bel.trans (hb.mono h.bel.size)
  · exact h.ba.later hb
  · intro e
    obtain ⟨pv, h1, h2⟩ := h.fm e
    exact ⟨pv, h1, hP _ _ _ h2 hb⟩
  · intro e
    obtain ⟨b1, d1, h1, h2⟩ := h.fo e
    exact ⟨b1, d1, h1, h2.later hb⟩
  · intro e
    obtain ⟨pv, b1, d1, h1, h2, h3⟩ := h.fb e
    exact ⟨pv, b1, d1, h1, hP _ _ _ h2 hb, h3.later hb⟩
  · intro e
    obtain ⟨x, pv, b1, d1, h1, h2, h3, h4, h5⟩ := h.fx e
    exact ⟨x, pv, b1, d1, h1, h2, h3.later hb, hP _ _ _ h4 hb, h5.later hb⟩
  · intro e
    obtain ⟨x, pv, b1, d1, h1, h2, h3, h4, h5⟩ := h.fr e
    exact ⟨x, pv, b1, d1, h1, h2, h3.later hb, hP _ _ _ h4 hb, h5.later hb⟩

set_option maxHeartbeats 8000000 in
set_option maxRecDepth 100000 in
theorem servingOf_gen (P : Value → World → Prop) (i s9 : Int) (a1 a2 : Option Addr) (c1 c2 : Nat) (xs : List Sl) (ts : List Ca) (w : World) (h1 : SRow w a1 xs) (h2 : NRow celC w a2 ts) (hx2 : ts.length ≤ 1048576)
    (hP : ∀ pv w1 w2, P pv w1 → Below w1.heap.size w1 w2 → P pv w2)
    (hM : ∀ w1, SRow w1 a1 xs → Below w.heap.size w w1 → Calls Tryd.prog 77 #[.slice a1 xs.length c1] w1 fun r w' => ∃ pv, r = .returned (.agg #[pv]) ∧ P pv w' ∧ Below w1.heap.size w1 w') :
    Calls Tryd.prog 46 #[.agg #[.int .i64 i, .int .i64 s9, .slice a1 xs.length c1, .slice a2 ts.length c2]] w fun r w' => ∃ x pv b1 d1, r = .returned (.pointer (some ⟨x, 0, none⟩)) ∧ w.heap.size ≤ x ∧ ABlk 87 w' x #[pv, .int .i64 i, .int .i64 s9, .slice b1 ts.length d1] ∧ P pv w' ∧ OwnN celC 90 w' w.heap.size (.slice b1 ts.length d1) ts ∧ Below w.heap.size w w' := by
  have HP : Hid (∀ pv w1 w2, P pv w1 → Below w1.heap.size w1 w2 → P pv w2) := hP
  have HM : Hid (∀ w1, SRow w1 a1 xs → Below w.heap.size w w1 → Calls Tryd.prog 77 #[.slice a1 xs.length c1] w1 fun r w' => ∃ pv, r = .returned (.agg #[pv]) ∧ P pv w' ∧ Below w1.heap.size w1 w') := hM
  have HH : Hid (SRow w a1 xs ∧ NRow celC w a2 ts) := ⟨h1, h2⟩
  have HW : Hid (Below w.heap.size w (w.alloc (.cells #[.int .i64 i, .int .i64 s9, .slice a1 xs.length c1, .slice a2 ts.length c2] 49)) ∧ ABlk 49 (w.alloc (.cells #[.int .i64 i, .int .i64 s9, .slice a1 xs.length c1, .slice a2 ts.length c2] 49)) w.heap.size #[.int .i64 i, .int .i64 s9, .slice a1 xs.length c1, .slice a2 ts.length c2]) := ⟨Below.alloc_ _ _, ABlk.new _ _ _⟩
  clear h1 h2 hP hM
  go_enter Tryd.func46, Tryd.ntmps46
  go_wp2_with fail
  generalize (w.alloc (.cells #[.int .i64 i, .int .i64 s9, .slice a1 xs.length c1, .slice a2 ts.length c2] 49)) = W0 at HW ⊢
  refine wp_region_walk [2, 3, 4, 5, 6, 7, 8, 9, 10, 11, 12, 13, 14] (RgOf w P i s9 a1 a2 c1 c2 xs ts) [0, 1, 2, 3, 4, 5, 6, 7, 8, 9, 10, 11, 12] (by kernel_rfl) (by kernel_rfl) (by kernel_rfl) ?_ ?_ ?_
  · intro s
    exact ⟨HW.out.1.drew, HW.out.2, fun e => (by cases e), fun e => (by cases e), fun e => (by cases e), fun e => (by cases e), fun e => (by cases e), fun e => (by cases e), fun e => (by cases e), fun e => (by cases e), fun e => (by cases e), fun e => (by cases e), fun e => (by cases e), fun e => (by cases e), fun e => (by cases e)⟩
  · refine StepsR.cons (k := 0) [] (by kernel_rfl) ?_ (StepsR.cons (k := 1) [0] (by kernel_rfl) ?_ (StepsR.cons (k := 2) [1] (by kernel_rfl) ?_ (StepsR.cons (k := 3) [] (by kernel_rfl) ?_ (StepsR.cons (k := 4) [3] (by kernel_rfl) ?_ (StepsR.cons (k := 5) [] (by kernel_rfl) ?_ (StepsR.cons (k := 6) [5] (by kernel_rfl) ?_ (StepsR.cons (k := 7) [] (by kernel_rfl) ?_ (StepsR.cons (k := 8) [7] (by kernel_rfl) ?_ (StepsR.cons (k := 9) [2, 8] (by kernel_rfl) ?_ (StepsR.cons (k := 10) [2, 4, 6, 9] (by kernel_rfl) ?_ (StepsR.cons (k := 11) [10] (by kernel_rfl) ?_ (StepsR.cons (k := 12) [0, 1, 2, 3, 4, 5, 6, 7, 8, 9, 10, 11] (by kernel_rfl) ?_ (StepsR.nil)))))))))))))
    · intro d s w1 hd hA hC hF K hK
      have hB9 := hF.bel
      simp only [putL, putT, List.setIfInBounds_toArray, List.set_cons_zero, List.set_cons_succ]
      clear hB9
      as_aux_lemma =>
        go_simp
        refine hK.out (updS s 3 (Value.pointer (some ⟨w.heap.size, 2, none⟩))) _ _ ?_ ⟨hF.bel, hF.ba, hF.fm, hF.fo, hF.fb, hF.fx, hF.fr, fun _ => rfl, hF.f1, hF.f3, hF.f4, hF.f5, hF.f6, hF.f7, hF.f8⟩
        (simp only [putL, putT, List.setIfInBounds_toArray, List.set_cons_zero, List.set_cons_succ]); rfl
    · intro d s w1 hd hA hC hF K hK
      have hB9 := hF.bel
      simp only [putL, putT, List.setIfInBounds_toArray, List.set_cons_zero, List.set_cons_succ]
      clear hB9
      as_aux_lemma =>
        have p0 := hF.ba.at 2 _ rfl
        have e0 := hF.f0 (hA.1)
        rw [e0]
        go_simp
        clear p0
        refine hK.out (updS s 4 (Value.slice a1 xs.length c1)) _ _ ?_ ⟨hF.bel, hF.ba, hF.fm, hF.fo, hF.fb, hF.fx, hF.fr, hF.f0, fun _ => rfl, hF.f3, hF.f4, hF.f5, hF.f6, hF.f7, hF.f8⟩
        (simp only [putL, putT, List.setIfInBounds_toArray, List.set_cons_zero, List.set_cons_succ]); rw [← e0]; (try rfl)
    · intro d s w1 hd hA hC hF K hK
      have hB9 := hF.bel
      simp only [putL, putT, List.setIfInBounds_toArray, List.set_cons_zero, List.set_cons_succ]
      clear hB9
      as_aux_lemma =>
        have e0 := hF.f1 (hA.1)
        rw [e0]
        go_simp
        refine (HM.out _ (HH.out.1.later hF.bel) hF.bel).mono ?_
        rintro r w2 ⟨pv, rfl, o9, b9⟩
        go_simp
        have hF2 := RgOf.later HP.out hF b9
        refine hK.out (updS s 5 (Value.agg #[pv])) _ _ ?_ ⟨hF2.bel, hF2.ba, fun _ => ⟨pv, rfl, o9⟩, hF2.fo, hF2.fb, hF2.fx, hF2.fr, hF2.f0, hF2.f1, hF2.f3, hF2.f4, hF2.f5, hF2.f6, hF2.f7, hF2.f8⟩
        (simp only [putL, putT, List.setIfInBounds_toArray, List.set_cons_zero, List.set_cons_succ]); rw [← e0]; (try rfl)
    · intro d s w1 hd hA hC hF K hK
      have hB9 := hF.bel
      simp only [putL, putT, List.setIfInBounds_toArray, List.set_cons_zero, List.set_cons_succ]
      clear hB9
      as_aux_lemma =>
        go_simp
        refine hK.out (updS s 6 (Value.pointer (some ⟨w.heap.size, 0, none⟩))) _ _ ?_ ⟨hF.bel, hF.ba, hF.fm, hF.fo, hF.fb, hF.fx, hF.fr, hF.f0, hF.f1, fun _ => rfl, hF.f4, hF.f5, hF.f6, hF.f7, hF.f8⟩
        (simp only [putL, putT, List.setIfInBounds_toArray, List.set_cons_zero, List.set_cons_succ]); rfl
    · intro d s w1 hd hA hC hF K hK
      have hB9 := hF.bel
      simp only [putL, putT, List.setIfInBounds_toArray, List.set_cons_zero, List.set_cons_succ]
      clear hB9
      as_aux_lemma =>
        have p0 := hF.ba.at 0 _ rfl
        have e0 := hF.f3 (hA.1)
        rw [e0]
        go_simp
        clear p0
        refine hK.out (updS s 7 (Value.int .i64 i)) _ _ ?_ ⟨hF.bel, hF.ba, hF.fm, hF.fo, hF.fb, hF.fx, hF.fr, hF.f0, hF.f1, hF.f3, fun _ => rfl, hF.f5, hF.f6, hF.f7, hF.f8⟩
        (simp only [putL, putT, List.setIfInBounds_toArray, List.set_cons_zero, List.set_cons_succ]); rw [← e0]; (try rfl)
    · intro d s w1 hd hA hC hF K hK
      have hB9 := hF.bel
      simp only [putL, putT, List.setIfInBounds_toArray, List.set_cons_zero, List.set_cons_succ]
      clear hB9
      as_aux_lemma =>
        go_simp
        refine hK.out (updS s 8 (Value.pointer (some ⟨w.heap.size, 1, none⟩))) _ _ ?_ ⟨hF.bel, hF.ba, hF.fm, hF.fo, hF.fb, hF.fx, hF.fr, hF.f0, hF.f1, hF.f3, hF.f4, fun _ => rfl, hF.f6, hF.f7, hF.f8⟩
        (simp only [putL, putT, List.setIfInBounds_toArray, List.set_cons_zero, List.set_cons_succ]); rfl
    · intro d s w1 hd hA hC hF K hK
      have hB9 := hF.bel
      simp only [putL, putT, List.setIfInBounds_toArray, List.set_cons_zero, List.set_cons_succ]
      clear hB9
      as_aux_lemma =>
        have p0 := hF.ba.at 1 _ rfl
        have e0 := hF.f5 (hA.1)
        rw [e0]
        go_simp
        clear p0
        refine hK.out (updS s 9 (Value.int .i64 s9)) _ _ ?_ ⟨hF.bel, hF.ba, hF.fm, hF.fo, hF.fb, hF.fx, hF.fr, hF.f0, hF.f1, hF.f3, hF.f4, hF.f5, fun _ => rfl, hF.f7, hF.f8⟩
        (simp only [putL, putT, List.setIfInBounds_toArray, List.set_cons_zero, List.set_cons_succ]); rw [← e0]; (try rfl)
    · intro d s w1 hd hA hC hF K hK
      have hB9 := hF.bel
      simp only [putL, putT, List.setIfInBounds_toArray, List.set_cons_zero, List.set_cons_succ]
      clear hB9
      as_aux_lemma =>
        go_simp
        refine hK.out (updS s 10 (Value.pointer (some ⟨w.heap.size, 3, none⟩))) _ _ ?_ ⟨hF.bel, hF.ba, hF.fm, hF.fo, hF.fb, hF.fx, hF.fr, hF.f0, hF.f1, hF.f3, hF.f4, hF.f5, hF.f6, fun _ => rfl, hF.f8⟩
        (simp only [putL, putT, List.setIfInBounds_toArray, List.set_cons_zero, List.set_cons_succ]); rfl
    · intro d s w1 hd hA hC hF K hK
      have hB9 := hF.bel
      simp only [putL, putT, List.setIfInBounds_toArray, List.set_cons_zero, List.set_cons_succ]
      clear hB9
      as_aux_lemma =>
        have p0 := hF.ba.at 3 _ rfl
        have e0 := hF.f7 (hA.1)
        rw [e0]
        go_simp
        clear p0
        refine hK.out (updS s 11 (Value.slice a2 ts.length c2)) _ _ ?_ ⟨hF.bel, hF.ba, hF.fm, hF.fo, hF.fb, hF.fx, hF.fr, hF.f0, hF.f1, hF.f3, hF.f4, hF.f5, hF.f6, hF.f7, fun _ => rfl⟩
        (simp only [putL, putT, List.setIfInBounds_toArray, List.set_cons_zero, List.set_cons_succ]); rw [← e0]; (try rfl)
    · intro d s w1 hd hA hC hF K hK
      have hB9 := hF.bel
      simp only [putL, putT, List.setIfInBounds_toArray, List.set_cons_zero, List.set_cons_succ]
      clear hB9
      as_aux_lemma =>
        have e1 := hF.f8 (hA.2.1)
        rw [e1]
        have hr := HH.out.2.later hF.bel
        simp only [Region.wanted, if_true]
        refine wp_app_new celC _ 90 47 32 _ Tryd.underlying47 infoCall rfl (by omega) (.const (.slice none 0 0)) (.tmp 11) rfl w.heap.size none rfl (OwnN.zero _ _ _ _) a2 ts c2 rfl hr (by omega) hF.bel.size ?_
        intro b5 c5 w5 o5 b9 n5
        have hF2 := RgOf.later HP.out hF b9
        refine hK.out (updS s 12 (Value.slice b5 ts.length c5)) _ _ ?_ ⟨hF2.bel, hF2.ba, hF2.fm, fun _ => ⟨b5, c5, rfl, o5⟩, hF2.fb, hF2.fx, hF2.fr, hF2.f0, hF2.f1, hF2.f3, hF2.f4, hF2.f5, hF2.f6, hF2.f7, hF2.f8⟩
        (simp only [putL, putT, List.setIfInBounds_toArray, List.set_cons_zero, List.set_cons_succ]); rw [← e1]; (try rfl)
    · intro d s w1 hd hA hC hF K hK
      have hB9 := hF.bel
      simp only [putL, putT, List.setIfInBounds_toArray, List.set_cons_zero, List.set_cons_succ]
      clear hB9
      as_aux_lemma =>
        obtain ⟨pv, e0, q9⟩ := hF.fm (hA.1)
        have e1 := hF.f4 (hA.2.1)
        have e2 := hF.f6 (hA.2.2.1)
        obtain ⟨b1, d1, e3, o9⟩ := hF.fo (hA.2.2.2.1)
        have O9 : Hid (P pv w1 ∧ OwnN celC 90 w1 w.heap.size (.slice b1 ts.length d1) ts) := ⟨q9, o9⟩
        clear o9 q9
        rw [e0, e1, e2, e3]
        simp only [Region.wanted, if_true]
        refine wp_built 87 _ _ _ rfl (by simp only [List.map_toArray, List.map_cons, List.map_nil]; rfl) (bldServing w1 pv i s9 b1 ts.length d1) ?_
        refine hK.out (updS s 13 (Value.agg #[pv, .int .i64 i, .int .i64 s9, .slice b1 ts.length d1])) _ _ ?_ ⟨hF.bel, hF.ba, hF.fm, hF.fo, fun _ => ⟨pv, b1, d1, rfl, O9.out.1, O9.out.2⟩, hF.fx, hF.fr, hF.f0, hF.f1, hF.f3, hF.f4, hF.f5, hF.f6, hF.f7, hF.f8⟩
        (simp only [putL, putT, List.setIfInBounds_toArray, List.set_cons_zero, List.set_cons_succ]); rw [← e0, ← e1, ← e2, ← e3]; (try rfl)
    · intro d s w1 hd hA hC hF K hK
      have hB9 := hF.bel
      simp only [putL, putT, List.setIfInBounds_toArray, List.set_cons_zero, List.set_cons_succ]
      clear hB9
      as_aux_lemma =>
        obtain ⟨pv, b1, d1, e0, q9, o9⟩ := hF.fb (hA.1)
        have O9 : Hid (P pv w1 ∧ OwnN celC 90 w1 w.heap.size (.slice b1 ts.length d1) ts) := ⟨q9, o9⟩
        clear o9 q9
        rw [e0]
        go_simp
        have b9 : Below w1.heap.size w1 (w1.alloc (.cells #[pv, .int .i64 i, .int .i64 s9, .slice b1 ts.length d1] 87)) := Below.alloc_ _ _
        have n9 : ABlk 87 (w1.alloc (.cells #[pv, .int .i64 i, .int .i64 s9, .slice b1 ts.length d1] 87)) w1.heap.size #[pv, .int .i64 i, .int .i64 s9, .slice b1 ts.length d1] := ABlk.new _ _ _
        have hF2 := RgOf.later HP.out hF b9
        refine hK.out (updS s 14 (Value.pointer (some ⟨w1.heap.size, 0, none⟩))) _ _ ?_ ⟨hF2.bel, hF2.ba, hF2.fm, hF2.fo, hF2.fb, fun _ => ⟨_, pv, b1, d1, rfl, hF.bel.size, n9, HP.out _ _ _ O9.out.1 b9, O9.out.2.later b9⟩, hF2.fr, hF2.f0, hF2.f1, hF2.f3, hF2.f4, hF2.f5, hF2.f6, hF2.f7, hF2.f8⟩
        (simp only [putL, putT, List.setIfInBounds_toArray, List.set_cons_zero, List.set_cons_succ]); rw [← e0]; (try rfl)
    · intro d s w1 hd hA hC hF K hK
      have hB9 := hF.bel
      simp only [putL, putT, List.setIfInBounds_toArray, List.set_cons_zero, List.set_cons_succ]
      clear hB9
      as_aux_lemma =>
        obtain ⟨x, pv, b1, d1, e0, lx, h3, h4, h5⟩ := hF.fx (hA.2.2.2.2.2.2.2.2.2.2.2.1)
        have O9 : Hid (ABlk 87 w1 x #[pv, .int .i64 i, .int .i64 s9, .slice b1 ts.length d1] ∧ P pv w1 ∧ OwnN celC 90 w1 w.heap.size (.slice b1 ts.length d1) ts) := ⟨h3, h4, h5⟩
        clear h3 h4 h5
        rw [e0]
        go_simp
        refine hK.out (updS s 2 (Value.pointer (some ⟨x, 0, none⟩))) _ _ ?_ ⟨hF.bel, hF.ba, hF.fm, hF.fo, hF.fb, hF.fx, fun _ => ⟨x, pv, b1, d1, rfl, lx, O9.out.1, O9.out.2.1, O9.out.2.2⟩, hF.f0, hF.f1, hF.f3, hF.f4, hF.f5, hF.f6, hF.f7, hF.f8⟩
        (simp only [putL, putT, List.setIfInBounds_toArray, List.set_cons_zero, List.set_cons_succ]); rw [← e0]; (try rfl)
  · intro d s w1 hA hF
    obtain ⟨x, pv, b1, d1, e0, lx, h3, h4, h5⟩ := hF.fr (hA.2.2.2.2.2.2.2.2.2.2.2.2.1)
    have HE : Hid (ABlk 87 w1 x #[pv, .int .i64 i, .int .i64 s9, .slice b1 ts.length d1] ∧ P pv w1 ∧ OwnN celC 90 w1 w.heap.size (.slice b1 ts.length d1) ts ∧ Below w.heap.size w w1) := ⟨h3, h4, h5, hF.bel⟩
    clear hF hA h3 h4 h5
    simp only [putL, putT, List.setIfInBounds_toArray, List.set_cons_zero, List.set_cons_succ]
    rw [e0]
    clear e0
    go_wp2_with fail
    go_ret
    exact ⟨x, pv, b1, d1, rfl, lx, HE.out.1, HE.out.2.1, HE.out.2.2.1, HE.out.2.2.2⟩

end Go.Proofs.YtghajmfjekfdpaaDoor
