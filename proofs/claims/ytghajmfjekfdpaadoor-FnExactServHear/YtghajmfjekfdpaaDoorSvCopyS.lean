/-
  A service's copy, by the specification: its lists lie in memory of the call's own.
-/
import Derived.Test.YtghajmfjekfdpaaDoorRowS
import Derived.Test.YtghajmfjekfdpaaDoorExLaw
import Derived.Test.YtghajmfjekfdpaaDoorStJ
namespace Go.Proofs.YtghajmfjekfdpaaDoor
open Go.RowKit
attribute [local go_sem ↓] Go.wp_at_zero Go.wp_at_succ

/-- A service, built. -/
theorem bldServ (w : World) (i s : Int) (a1 a2 : Option Addr) (l1 l2 c1 c2 : Nat) : (Instr.build 49 #[(0, .int .i64 i), (1, .int .i64 s), (2, .slice a1 l1 c1), (3, .slice a2 l2 c2)]).run Tryd.prog w = .ok (.agg #[.int .i64 i, .int .i64 s, .slice a1 l1 c1, .slice a2 l2 c2]) w := by kernel_rfl
/-- What is known on the way through a region. -/
structure RgSvCopy (w : World) (i s9 : Int) (a1 a2 : Option Addr) (c1 c2 : Nat) (xs : List Sl) (ts : List Ca) (d : Nat → Bool) (s : Nat → Value) (w' : World) : Prop where
  bel : Below w.heap.size w w'
  ba : ABlk 49 w' w.heap.size #[.int .i64 i, .int .i64 s9, .slice a1 xs.length c1, .slice a2 ts.length c2]
  bz : ∃ x0 x1 x2 x3, ABlk 49 w' (w.heap.size + 1) #[x0, x1, x2, x3]
  bv : d 13 = true → ∃ b0 b1 d0 d1, ABlk 49 w' (w.heap.size + 1) #[.int .i64 i, .int .i64 s9, .slice b0 xs.length d0, .slice b1 ts.length d1] ∧ (OwnN celS 64 w' w.heap.size (.slice b0 xs.length d0) xs) ∧ (OwnN celC 90 w' w.heap.size (.slice b1 ts.length d1) ts)
  fb : d 12 = true → ∃ b0 b1 d0 d1, s 15 = .agg #[.int .i64 i, .int .i64 s9, .slice b0 xs.length d0, .slice b1 ts.length d1] ∧ (OwnN celS 64 w' w.heap.size (.slice b0 xs.length d0) xs) ∧ (OwnN celC 90 w' w.heap.size (.slice b1 ts.length d1) ts)
  fa0 : d 0 = true → s 3 = Value.pointer (some ⟨w.heap.size, 0, none⟩)
  fl0 : d 1 = true → s 4 = Value.int .i64 i
  fa1 : d 2 = true → s 5 = Value.pointer (some ⟨w.heap.size, 1, none⟩)
  fl1 : d 3 = true → s 6 = Value.int .i64 s9
  fa2 : d 5 = true → s 8 = Value.pointer (some ⟨w.heap.size, 2, none⟩)
  fl2 : d 6 = true → s 9 = Value.slice a1 xs.length c1
  fa3 : d 9 = true → s 12 = Value.pointer (some ⟨w.heap.size, 3, none⟩)
  fl3 : d 10 = true → s 13 = Value.slice a2 ts.length c2
  g0 : d 4 = true → ∃ b, s 7 = Value.slice b 0 0 ∧ OwnN celS 64 w' w.heap.size (.slice b 0 0) []
  o0 : d 7 = true → ∃ b c, s 10 = Value.slice b xs.length c ∧ OwnN celS 64 w' w.heap.size (.slice b xs.length c) xs
  g1 : d 8 = true → ∃ b, s 11 = Value.slice b 0 0 ∧ OwnN celC 90 w' w.heap.size (.slice b 0 0) []
  o1 : d 11 = true → ∃ b c, s 14 = Value.slice b ts.length c ∧ OwnN celC 90 w' w.heap.size (.slice b ts.length c) ts
theorem RgSvCopy.later {w : World} {i s9 : Int} {a1 a2 : Option Addr} {c1 c2 : Nat} {xs : List Sl} {ts : List Ca} {d : Nat → Bool} {s : Nat → Value} {w1 w2 : World} (h : RgSvCopy w i s9 a1 a2 c1 c2 xs ts d s w1) (hb : Below w1.heap.size w1 w2) : RgSvCopy w i s9 a1 a2 c1 c2 xs ts d s w2 := by
  refine ⟨?_, ?_, ?_, ?_, ?_, h.fa0, h.fl0, h.fa1, h.fl1, h.fa2, h.fl2, h.fa3, h.fl3, ?_, ?_, ?_, ?_⟩
  · exact h.bel.trans (hb.mono h.bel.size)
  · exact h.ba.later hb
  · obtain ⟨x0, x1, x2, x3, h1⟩ := h.bz
    exact ⟨x0, x1, x2, x3, h1.later hb⟩
  · intro e
    obtain ⟨b0, b1, d0, d1, h1, h2, h3⟩ := h.bv e
    exact ⟨b0, b1, d0, d1, h1.later hb, h2.later hb, h3.later hb⟩
  · intro e
    obtain ⟨b0, b1, d0, d1, h1, h2, h3⟩ := h.fb e
    exact ⟨b0, b1, d0, d1, h1, h2.later hb, h3.later hb⟩
  · intro e
    obtain ⟨b, h1, h2⟩ := h.g0 e
    exact ⟨b, h1, h2.later hb⟩
  · intro e
    obtain ⟨b, c, h1, h2⟩ := h.o0 e
    exact ⟨b, c, h1, h2.later hb⟩
  · intro e
    obtain ⟨b, h1, h2⟩ := h.g1 e
    exact ⟨b, h1, h2.later hb⟩
  · intro e
    obtain ⟨b, c, h1, h2⟩ := h.o1 e
    exact ⟨b, c, h1, h2.later hb⟩

set_option maxHeartbeats 8000000 in
set_option maxRecDepth 100000 in
theorem l13Copy_any (i s9 : Int) (a1 a2 : Option Addr) (c1 c2 : Nat) (xs : List Sl) (ts : List Ca) (w : World) (h1 : SRow w a1 xs) (h2 : NRow celC w a2 ts) (hx1 : xs.length ≤ 1048576) (hx2 : ts.length ≤ 1048576) :
    Calls Tryd.prog 43 #[.agg #[.int .i64 i, .int .i64 s9, .slice a1 xs.length c1, .slice a2 ts.length c2]] w fun r w' => ∃ b0 d0 b1 d1, r = .returned (.agg #[.int .i64 i, .int .i64 s9, .slice b0 xs.length d0, .slice b1 ts.length d1]) ∧ OwnS w' w.heap.size (.slice b0 xs.length d0) xs ∧ OwnN celC 90 w' w.heap.size (.slice b1 ts.length d1) ts ∧ Below w.heap.size w w' := by
  have HW : Hid (Below w.heap.size w ((w.alloc (.cells #[.int .i64 i, .int .i64 s9, .slice a1 xs.length c1, .slice a2 ts.length c2] 49)).alloc (.cells #[.int .i64 0, .int .i64 0, .slice none 0 0, .slice none 0 0] 49)) ∧ ABlk 49 ((w.alloc (.cells #[.int .i64 i, .int .i64 s9, .slice a1 xs.length c1, .slice a2 ts.length c2] 49)).alloc (.cells #[.int .i64 0, .int .i64 0, .slice none 0 0, .slice none 0 0] 49)) w.heap.size #[.int .i64 i, .int .i64 s9, .slice a1 xs.length c1, .slice a2 ts.length c2] ∧ ABlk 49 ((w.alloc (.cells #[.int .i64 i, .int .i64 s9, .slice a1 xs.length c1, .slice a2 ts.length c2] 49)).alloc (.cells #[.int .i64 0, .int .i64 0, .slice none 0 0, .slice none 0 0] 49)) (w.heap.size + 1) #[.int .i64 0, .int .i64 0, .slice none 0 0, .slice none 0 0]) := by
    refine ⟨(Below.alloc_ _ _).trans ((Below.alloc_ _ _).mono (by simp)), (ABlk.new _ _ _).later (Below.alloc_ _ _), ?_⟩
    have e := ABlk.new (w.alloc (.cells #[.int .i64 i, .int .i64 s9, .slice a1 xs.length c1, .slice a2 ts.length c2] 49)) 49 #[.int .i64 0, .int .i64 0, .slice none 0 0, .slice none 0 0]
    rw [World.size_alloc] at e
    exact e
  have HH : Hid (SRow w a1 xs ∧ NRow celC w a2 ts) := ⟨h1, h2⟩
  clear h1 h2
  go_enter Tryd.func43, Tryd.ntmps43
  go_wp2_with fail
  generalize ((w.alloc (.cells #[.int .i64 i, .int .i64 s9, .slice a1 xs.length c1, .slice a2 ts.length c2] 49)).alloc (.cells #[.int .i64 0, .int .i64 0, .slice none 0 0, .slice none 0 0] 49)) = W0 at HW ⊢
  refine wp_region_walk [3, 4, 5, 6, 7, 8, 9, 10, 11, 12, 13, 14, 15] (RgSvCopy w i s9 a1 a2 c1 c2 xs ts) [0, 1, 2, 3, 4, 5, 6, 7, 8, 9, 10, 11, 12, 13] (by kernel_rfl) (by kernel_rfl) (by kernel_rfl) ?_ ?_ ?_
  · intro s
    exact ⟨HW.out.1.drew, HW.out.2.1, ⟨_, _, _, _, HW.out.2.2⟩, fun e => (by cases e), fun e => (by cases e), fun e => (by cases e), fun e => (by cases e), fun e => (by cases e), fun e => (by cases e), fun e => (by cases e), fun e => (by cases e), fun e => (by cases e), fun e => (by cases e), fun e => (by cases e), fun e => (by cases e), fun e => (by cases e), fun e => (by cases e)⟩
  · refine StepsR.cons (k := 0) [] (by kernel_rfl) ?_ (StepsR.cons (k := 1) [0] (by kernel_rfl) ?_ (StepsR.cons (k := 2) [] (by kernel_rfl) ?_ (StepsR.cons (k := 3) [2] (by kernel_rfl) ?_ (StepsR.cons (k := 4) [] (by kernel_rfl) ?_ (StepsR.cons (k := 5) [] (by kernel_rfl) ?_ (StepsR.cons (k := 6) [5] (by kernel_rfl) ?_ (StepsR.cons (k := 7) [4, 6] (by kernel_rfl) ?_ (StepsR.cons (k := 8) [] (by kernel_rfl) ?_ (StepsR.cons (k := 9) [] (by kernel_rfl) ?_ (StepsR.cons (k := 10) [9] (by kernel_rfl) ?_ (StepsR.cons (k := 11) [8, 10, 7] (by kernel_rfl) ?_ (StepsR.cons (k := 12) [1, 3, 7, 11] (by kernel_rfl) ?_ (StepsR.cons (k := 13) [0, 1, 2, 3, 4, 5, 6, 7, 8, 9, 10, 11, 12] (by kernel_rfl) ?_ (StepsR.nil))))))))))))))
    · intro d s w1 hd hA hC hF K hK
      have hB9 := hF.bel
      simp only [putL, putT, List.setIfInBounds_toArray, List.set_cons_zero, List.set_cons_succ]
      clear hB9
      as_aux_lemma =>
        go_simp
        refine hK.out (updS s 3 (Value.pointer (some ⟨w.heap.size, 0, none⟩))) _ _ ?_ ⟨hF.bel, hF.ba, hF.bz, hF.bv, hF.fb, fun _ => rfl, hF.fl0, hF.fa1, hF.fl1, hF.fa2, hF.fl2, hF.fa3, hF.fl3, hF.g0, hF.o0, hF.g1, hF.o1⟩
        (simp only [putL, putT, List.setIfInBounds_toArray, List.set_cons_zero, List.set_cons_succ]); rfl
    · intro d s w1 hd hA hC hF K hK
      have hB9 := hF.bel
      simp only [putL, putT, List.setIfInBounds_toArray, List.set_cons_zero, List.set_cons_succ]
      clear hB9
      as_aux_lemma =>
        have p0 := hF.ba.at 0 _ rfl
        have e0 := hF.fa0 (hA.1)
        rw [e0]
        go_simp
        clear p0
        refine hK.out (updS s 4 (Value.int .i64 i)) _ _ ?_ ⟨hF.bel, hF.ba, hF.bz, hF.bv, hF.fb, hF.fa0, fun _ => rfl, hF.fa1, hF.fl1, hF.fa2, hF.fl2, hF.fa3, hF.fl3, hF.g0, hF.o0, hF.g1, hF.o1⟩
        (simp only [putL, putT, List.setIfInBounds_toArray, List.set_cons_zero, List.set_cons_succ]); rw [← e0]; (try rfl)
    · intro d s w1 hd hA hC hF K hK
      have hB9 := hF.bel
      simp only [putL, putT, List.setIfInBounds_toArray, List.set_cons_zero, List.set_cons_succ]
      clear hB9
      as_aux_lemma =>
        go_simp
        refine hK.out (updS s 5 (Value.pointer (some ⟨w.heap.size, 1, none⟩))) _ _ ?_ ⟨hF.bel, hF.ba, hF.bz, hF.bv, hF.fb, hF.fa0, hF.fl0, fun _ => rfl, hF.fl1, hF.fa2, hF.fl2, hF.fa3, hF.fl3, hF.g0, hF.o0, hF.g1, hF.o1⟩
        (simp only [putL, putT, List.setIfInBounds_toArray, List.set_cons_zero, List.set_cons_succ]); rfl
    · intro d s w1 hd hA hC hF K hK
      have hB9 := hF.bel
      simp only [putL, putT, List.setIfInBounds_toArray, List.set_cons_zero, List.set_cons_succ]
      clear hB9
      as_aux_lemma =>
        have p0 := hF.ba.at 1 _ rfl
        have e0 := hF.fa1 (hA.1)
        rw [e0]
        go_simp
        clear p0
        refine hK.out (updS s 6 (Value.int .i64 s9)) _ _ ?_ ⟨hF.bel, hF.ba, hF.bz, hF.bv, hF.fb, hF.fa0, hF.fl0, hF.fa1, fun _ => rfl, hF.fa2, hF.fl2, hF.fa3, hF.fl3, hF.g0, hF.o0, hF.g1, hF.o1⟩
        (simp only [putL, putT, List.setIfInBounds_toArray, List.set_cons_zero, List.set_cons_succ]); rw [← e0]; (try rfl)
    · intro d s w1 hd hA hC hF K hK
      have hB9 := hF.bel
      simp only [putL, putT, List.setIfInBounds_toArray, List.set_cons_zero, List.set_cons_succ]
      clear hB9
      as_aux_lemma =>
        go_simp
        have b9 : Below w1.heap.size w1 (w1.alloc (.cells #[] 64)) := Below.alloc_ _ _
        have N9 := OwnN.fresh celS 64 w1 hF.bel.size
        have hF2 := hF.later b9
        refine hK.out (updS s 7 (Value.slice (some ⟨w1.heap.size, 0, none⟩) 0 0)) _ _ ?_ ⟨hF2.bel, hF2.ba, hF2.bz, hF2.bv, hF2.fb, hF2.fa0, hF2.fl0, hF2.fa1, hF2.fl1, hF2.fa2, hF2.fl2, hF2.fa3, hF2.fl3, fun _ => ⟨_, rfl, N9⟩, hF2.o0, hF2.g1, hF2.o1⟩
        (simp only [putL, putT, List.setIfInBounds_toArray, List.set_cons_zero, List.set_cons_succ]); rfl
    · intro d s w1 hd hA hC hF K hK
      have hB9 := hF.bel
      simp only [putL, putT, List.setIfInBounds_toArray, List.set_cons_zero, List.set_cons_succ]
      clear hB9
      as_aux_lemma =>
        go_simp
        refine hK.out (updS s 8 (Value.pointer (some ⟨w.heap.size, 2, none⟩))) _ _ ?_ ⟨hF.bel, hF.ba, hF.bz, hF.bv, hF.fb, hF.fa0, hF.fl0, hF.fa1, hF.fl1, fun _ => rfl, hF.fl2, hF.fa3, hF.fl3, hF.g0, hF.o0, hF.g1, hF.o1⟩
        (simp only [putL, putT, List.setIfInBounds_toArray, List.set_cons_zero, List.set_cons_succ]); rfl
    · intro d s w1 hd hA hC hF K hK
      have hB9 := hF.bel
      simp only [putL, putT, List.setIfInBounds_toArray, List.set_cons_zero, List.set_cons_succ]
      clear hB9
      as_aux_lemma =>
        have p0 := hF.ba.at 2 _ rfl
        have e0 := hF.fa2 (hA.1)
        rw [e0]
        go_simp
        clear p0
        refine hK.out (updS s 9 (Value.slice a1 xs.length c1)) _ _ ?_ ⟨hF.bel, hF.ba, hF.bz, hF.bv, hF.fb, hF.fa0, hF.fl0, hF.fa1, hF.fl1, hF.fa2, fun _ => rfl, hF.fa3, hF.fl3, hF.g0, hF.o0, hF.g1, hF.o1⟩
        (simp only [putL, putT, List.setIfInBounds_toArray, List.set_cons_zero, List.set_cons_succ]); rw [← e0]; (try rfl)
    · intro d s w1 hd hA hC hF K hK
      have hB9 := hF.bel
      simp only [putL, putT, List.setIfInBounds_toArray, List.set_cons_zero, List.set_cons_succ]
      clear hB9
      as_aux_lemma =>
        have e1 := hF.fl2 (hA.2.1)
        obtain ⟨b0, e0, o0⟩ := hF.g0 (hA.1)
        rw [e1, e0]
        have hr := (HH.out.1.later hF.bel).toN
        simp only [Region.wanted, if_true]
        refine wp_app_new celS _ 64 29 56 _ Tryd.underlying29 infoSealN rfl (by omega) (.tmp 7) (.tmp 9) rfl w.heap.size b0 rfl o0 a1 xs c1 rfl hr (by omega) hF.bel.size ?_
        intro b5 c5 w5 o5 b9 n5
        have hF2 := hF.later b9
        refine hK.out (updS s 10 (Value.slice b5 xs.length c5)) _ _ ?_ ⟨hF2.bel, hF2.ba, hF2.bz, hF2.bv, hF2.fb, hF2.fa0, hF2.fl0, hF2.fa1, hF2.fl1, hF2.fa2, hF2.fl2, hF2.fa3, hF2.fl3, hF2.g0, fun _ => ⟨b5, c5, rfl, o5⟩, hF2.g1, hF2.o1⟩
        (simp only [putL, putT, List.setIfInBounds_toArray, List.set_cons_zero, List.set_cons_succ]); rw [← e1, ← e0]; (try rfl)
    · intro d s w1 hd hA hC hF K hK
      have hB9 := hF.bel
      simp only [putL, putT, List.setIfInBounds_toArray, List.set_cons_zero, List.set_cons_succ]
      clear hB9
      as_aux_lemma =>
        go_simp
        have b9 : Below w1.heap.size w1 (w1.alloc (.cells #[] 90)) := Below.alloc_ _ _
        have N9 := OwnN.fresh celC 90 w1 hF.bel.size
        have hF2 := hF.later b9
        refine hK.out (updS s 11 (Value.slice (some ⟨w1.heap.size, 0, none⟩) 0 0)) _ _ ?_ ⟨hF2.bel, hF2.ba, hF2.bz, hF2.bv, hF2.fb, hF2.fa0, hF2.fl0, hF2.fa1, hF2.fl1, hF2.fa2, hF2.fl2, hF2.fa3, hF2.fl3, hF2.g0, hF2.o0, fun _ => ⟨_, rfl, N9⟩, hF2.o1⟩
        (simp only [putL, putT, List.setIfInBounds_toArray, List.set_cons_zero, List.set_cons_succ]); rfl
    · intro d s w1 hd hA hC hF K hK
      have hB9 := hF.bel
      simp only [putL, putT, List.setIfInBounds_toArray, List.set_cons_zero, List.set_cons_succ]
      clear hB9
      as_aux_lemma =>
        go_simp
        refine hK.out (updS s 12 (Value.pointer (some ⟨w.heap.size, 3, none⟩))) _ _ ?_ ⟨hF.bel, hF.ba, hF.bz, hF.bv, hF.fb, hF.fa0, hF.fl0, hF.fa1, hF.fl1, hF.fa2, hF.fl2, fun _ => rfl, hF.fl3, hF.g0, hF.o0, hF.g1, hF.o1⟩
        (simp only [putL, putT, List.setIfInBounds_toArray, List.set_cons_zero, List.set_cons_succ]); rfl
    · intro d s w1 hd hA hC hF K hK
      have hB9 := hF.bel
      simp only [putL, putT, List.setIfInBounds_toArray, List.set_cons_zero, List.set_cons_succ]
      clear hB9
      as_aux_lemma =>
        have p0 := hF.ba.at 3 _ rfl
        have e0 := hF.fa3 (hA.1)
        rw [e0]
        go_simp
        clear p0
        refine hK.out (updS s 13 (Value.slice a2 ts.length c2)) _ _ ?_ ⟨hF.bel, hF.ba, hF.bz, hF.bv, hF.fb, hF.fa0, hF.fl0, hF.fa1, hF.fl1, hF.fa2, hF.fl2, hF.fa3, fun _ => rfl, hF.g0, hF.o0, hF.g1, hF.o1⟩
        (simp only [putL, putT, List.setIfInBounds_toArray, List.set_cons_zero, List.set_cons_succ]); rw [← e0]; (try rfl)
    · intro d s w1 hd hA hC hF K hK
      have hB9 := hF.bel
      simp only [putL, putT, List.setIfInBounds_toArray, List.set_cons_zero, List.set_cons_succ]
      clear hB9
      as_aux_lemma =>
        have e1 := hF.fl3 (hA.2.1)
        obtain ⟨b0, e0, o0⟩ := hF.g1 (hA.1)
        rw [e1, e0]
        have hr := (HH.out.2.later hF.bel)
        simp only [Region.wanted, if_true]
        refine wp_app_new celC _ 90 47 32 _ Tryd.underlying47 infoCall rfl (by omega) (.tmp 11) (.tmp 13) rfl w.heap.size b0 rfl o0 a2 ts c2 rfl hr (by omega) hF.bel.size ?_
        intro b5 c5 w5 o5 b9 n5
        have hF2 := hF.later b9
        refine hK.out (updS s 14 (Value.slice b5 ts.length c5)) _ _ ?_ ⟨hF2.bel, hF2.ba, hF2.bz, hF2.bv, hF2.fb, hF2.fa0, hF2.fl0, hF2.fa1, hF2.fl1, hF2.fa2, hF2.fl2, hF2.fa3, hF2.fl3, hF2.g0, hF2.o0, hF2.g1, fun _ => ⟨b5, c5, rfl, o5⟩⟩
        (simp only [putL, putT, List.setIfInBounds_toArray, List.set_cons_zero, List.set_cons_succ]); rw [← e1, ← e0]; (try rfl)
    · intro d s w1 hd hA hC hF K hK
      have hB9 := hF.bel
      simp only [putL, putT, List.setIfInBounds_toArray, List.set_cons_zero, List.set_cons_succ]
      clear hB9
      as_aux_lemma =>
        have e0 := hF.fl0 (hA.1)
        have e1 := hF.fl1 (hA.2.1)
        obtain ⟨b0, d0, x0, o0⟩ := hF.o0 (hA.2.2.1)
        obtain ⟨b1, d1, x1, o1⟩ := hF.o1 (hA.2.2.2.1)
        have OO : Hid ((OwnN celS 64 w1 w.heap.size (.slice b0 xs.length d0) xs) ∧ (OwnN celC 90 w1 w.heap.size (.slice b1 ts.length d1) ts)) := ⟨o0, o1⟩
        clear o0 o1
        rw [e0, e1, x0, x1]
        simp only [Region.wanted, if_true]
        refine wp_built 49 _ _ _ rfl (by simp only [List.map_toArray, List.map_cons, List.map_nil]; rfl) (bldServ w1 i s9 b0 b1 xs.length ts.length d0 d1) ?_
        refine hK.out (updS s 15 (Value.agg #[.int .i64 i, .int .i64 s9, .slice b0 xs.length d0, .slice b1 ts.length d1])) _ _ ?_ ⟨hF.bel, hF.ba, hF.bz, hF.bv, fun _ => ⟨b0, b1, d0, d1, rfl, OO.out.1, OO.out.2⟩, hF.fa0, hF.fl0, hF.fa1, hF.fl1, hF.fa2, hF.fl2, hF.fa3, hF.fl3, hF.g0, hF.o0, hF.g1, hF.o1⟩
        (simp only [putL, putT, List.setIfInBounds_toArray, List.set_cons_zero, List.set_cons_succ]); rw [← e0, ← e1, ← x0, ← x1]; (try rfl)
    · intro d s w1 hd hA hC hF K hK
      have hB9 := hF.bel
      simp only [putL, putT, List.setIfInBounds_toArray, List.set_cons_zero, List.set_cons_succ]
      clear hB9
      as_aux_lemma =>
        obtain ⟨b0, b1, d0, d1, e0, o0, o1⟩ := hF.fb (hA.2.2.2.2.2.2.2.2.2.2.2.2.1)
        obtain ⟨y0, y1, y2, y3, hz⟩ := hF.bz
        have p0 := hz.at 0 _ rfl
        have p1 := hz.at 1 _ rfl
        have p2 := hz.at 2 _ rfl
        have p3 := hz.at 3 _ rfl
        have q0 := hz.fro 0
        have q1 := hz.fro 1
        have q2 := hz.fro 2
        have q3 := hz.fro 3
        have H0 : Hid (ABlk 49 w1 (w.heap.size + 1) #[y0, y1, y2, y3] ∧ (OwnN celS 64 w1 w.heap.size (.slice b0 xs.length d0) xs) ∧ (OwnN celC 90 w1 w.heap.size (.slice b1 ts.length d1) ts)) := ⟨hz, o0, o1⟩
        clear hz o0 o1
        rw [e0]
        go_simp
        clear p0 q0 p1 q1 p2 q2 p3 q3
        have g9 : GrL w1 ((((w1.setCell ⟨w.heap.size + 1, 0, none⟩ (Value.int .i64 i)).setCell ⟨w.heap.size + 1, 1, none⟩ (Value.int .i64 s9)).setCell ⟨w.heap.size + 1, 2, none⟩ (Value.slice b0 xs.length d0)).setCell ⟨w.heap.size + 1, 3, none⟩ (Value.slice b1 ts.length d1)) [some (w.heap.size + 1)] := put4_grl _ _ _ _ _ _
        have H1 : ABlk 49 ((((w1.setCell ⟨w.heap.size + 1, 0, none⟩ (Value.int .i64 i)).setCell ⟨w.heap.size + 1, 1, none⟩ (Value.int .i64 s9)).setCell ⟨w.heap.size + 1, 2, none⟩ (Value.slice b0 xs.length d0)).setCell ⟨w.heap.size + 1, 3, none⟩ (Value.slice b1 ts.length d1)) (w.heap.size + 1) #[.int .i64 i, .int .i64 s9, .slice b0 xs.length d0, .slice b1 ts.length d1] := H0.out.1.put4 _ _ _ _
        generalize ((((w1.setCell ⟨w.heap.size + 1, 0, none⟩ (Value.int .i64 i)).setCell ⟨w.heap.size + 1, 1, none⟩ (Value.int .i64 s9)).setCell ⟨w.heap.size + 1, 2, none⟩ (Value.slice b0 xs.length d0)).setCell ⟨w.heap.size + 1, 3, none⟩ (Value.slice b1 ts.length d1)) = W at g9 H1 ⊢
        have O5 : (OwnN celS 64 W w.heap.size (.slice b0 xs.length d0) xs) ∧ (OwnN celC 90 W w.heap.size (.slice b1 ts.length d1) ts) := ⟨own_grl H0.out.2.1 g9 (fun k e hm => by simp at hm; exact own_off H0.out.1 H0.out.2.1 (by decide) (hm ▸ e)), own_grl H0.out.2.2 g9 (fun k e hm => by simp at hm; exact own_off H0.out.1 H0.out.2.2 (by decide) (hm ▸ e))⟩
        refine hK.out s _ _ ?_ ⟨hF.bel.trans (g9.below hF.bel.size (fun k hk => by simp at hk; omega)), hF.ba.grl g9 (by simp), ⟨_, _, _, _, H1⟩, fun _ => ⟨b0, b1, d0, d1, H1, O5.1, O5.2⟩, fun _ => ⟨b0, b1, d0, d1, e0, O5.1, O5.2⟩, hF.fa0, hF.fl0, hF.fa1, hF.fl1, hF.fa2, hF.fl2, hF.fa3, hF.fl3, fun e => (by obtain ⟨b, h1, h2⟩ := hF.g0 e; exact ⟨b, h1, own_grl h2 g9 (fun k e hm => by simp at hm; exact own_off H0.out.1 h2 (by decide) (hm ▸ e))⟩), fun e => (by obtain ⟨b, c, h1, h2⟩ := hF.o0 e; exact ⟨b, c, h1, own_grl h2 g9 (fun k e hm => by simp at hm; exact own_off H0.out.1 h2 (by decide) (hm ▸ e))⟩), fun e => (by obtain ⟨b, h1, h2⟩ := hF.g1 e; exact ⟨b, h1, own_grl h2 g9 (fun k e hm => by simp at hm; exact own_off H0.out.1 h2 (by decide) (hm ▸ e))⟩), fun e => (by obtain ⟨b, c, h1, h2⟩ := hF.o1 e; exact ⟨b, c, h1, own_grl h2 g9 (fun k e hm => by simp at hm; exact own_off H0.out.1 h2 (by decide) (hm ▸ e))⟩)⟩
        (simp only [putL, putT, List.setIfInBounds_toArray, List.set_cons_zero, List.set_cons_succ]); rw [← e0]; (try rfl)
  · intro d s w1 hA hF
    obtain ⟨b0, b1, d0, d1, hz, o0, o1⟩ := hF.bv (hA.2.2.2.2.2.2.2.2.2.2.2.2.2.1)
    have HE : Hid (((OwnN celS 64 w1 w.heap.size (.slice b0 xs.length d0) xs) ∧ (OwnN celC 90 w1 w.heap.size (.slice b1 ts.length d1) ts)) ∧ Below w.heap.size w w1) := ⟨⟨o0, o1⟩, hF.bel⟩
    have p0 := hz.at 0 _ rfl
    have p1 := hz.at 1 _ rfl
    have p2 := hz.at 2 _ rfl
    have p3 := hz.at 3 _ rfl
    clear hF hA hz o0 o1
    simp only [putL, putT, List.setIfInBounds_toArray, List.set_cons_zero, List.set_cons_succ]
    go_wp2_with fail
    refine bodyPost_ret (v := .agg #[.int .i64 i, .int .i64 s9, .slice b0 xs.length d0, .slice b1 ts.length d1]) (by simp [results, Tryd.results43, go_sem, *]) rfl ⟨b0, d0, b1, d1, rfl, HE.out.1.1.toS, HE.out.1.2, HE.out.2⟩

end Go.Proofs.YtghajmfjekfdpaaDoor
