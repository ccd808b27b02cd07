/-
  A user's copy, by the program and by the specification: its lists lie in memory of the call's own.
-/
import Derived.Test.YtaokgbdddgoonaaEx
import Derived.Test.YtaokgbdddgoonaaAppNew
import Derived.Test.YtaokgbdddgoonaaRegInv
namespace Go.Proofs.Ytaokgbdddgoonaa
open Go.RowKit
attribute [local go_sem ↓] Go.wp_at_zero Go.wp_at_succ

/-- A user, built. -/
theorem bldClient (w : World) (i n : Int) (a1 a2 a3 a4 : Option Addr) (l1 l2 l3 l4 c1 c2 c3 c4 : Nat) : (Instr.build 36 #[(0, .int .i64 i), (1, .int .i64 n), (2, .slice a1 l1 c1), (3, .slice a2 l2 c2), (4, .slice a3 l3 c3), (5, .slice a4 l4 c4)]).run Try.prog w = .ok (.agg #[.int .i64 i, .int .i64 n, .slice a1 l1 c1, .slice a2 l2 c2, .slice a3 l3 c3, .slice a4 l4 c4]) w := by kernel_rfl
/-- What is known on the way through a region. -/
structure RgCopy (w : World) (i n : Int) (a1 a2 a3 a4 : Option Addr) (c1 c2 c3 c4 : Nat) (ws : List Wn) (cs : List Cd) (ss ms : List Ca) (d : Nat → Bool) (s : Nat → Value) (w' : World) : Prop where
  bel : Below w.heap.size w w'
  ba : ABlk 36 w' w.heap.size #[.int .i64 i, .int .i64 n, .slice a1 ws.length c1, .slice a2 cs.length c2, .slice a3 ss.length c3, .slice a4 ms.length c4]
  bz : ∃ x0 x1 x2 x3 x4 x5, ABlk 36 w' (w.heap.size + 1) #[x0, x1, x2, x3, x4, x5]
  bv : d 17 = true → ∃ b0 b1 b2 b3 d0 d1 d2 d3, ABlk 36 w' (w.heap.size + 1) #[.int .i64 i, .int .i64 n, .slice b0 ws.length d0, .slice b1 cs.length d1, .slice b2 ss.length d2, .slice b3 ms.length d3] ∧ Own4 w' w.heap.size (.slice b0 ws.length d0) (.slice b1 cs.length d1) (.slice b2 ss.length d2) (.slice b3 ms.length d3) ws cs ss ms
  fa0 : d 0 = true → s 3 = .pointer (some ⟨w.heap.size, 0, none⟩)
  fl0 : d 1 = true → s 4 = Value.int .i64 i
  fa1 : d 2 = true → s 5 = .pointer (some ⟨w.heap.size, 1, none⟩)
  fl1 : d 3 = true → s 6 = Value.int .i64 n
  fa2 : d 4 = true → s 7 = .pointer (some ⟨w.heap.size, 2, none⟩)
  fl2 : d 5 = true → s 8 = Value.slice a1 ws.length c1
  fa3 : d 7 = true → s 10 = .pointer (some ⟨w.heap.size, 3, none⟩)
  fl3 : d 8 = true → s 11 = Value.slice a2 cs.length c2
  fa4 : d 10 = true → s 13 = .pointer (some ⟨w.heap.size, 4, none⟩)
  fl4 : d 11 = true → s 14 = Value.slice a3 ss.length c3
  fa5 : d 13 = true → s 16 = .pointer (some ⟨w.heap.size, 5, none⟩)
  fl5 : d 14 = true → s 17 = Value.slice a4 ms.length c4
  o0 : d 6 = true → ∃ b c, s 9 = .slice b ws.length c ∧ OwnN celW 54 w' w.heap.size (.slice b ws.length c) ws
  o1 : d 9 = true → ∃ b c, s 12 = .slice b cs.length c ∧ OwnN celD 58 w' w.heap.size (.slice b cs.length c) cs
  o2 : d 12 = true → ∃ b c, s 15 = .slice b ss.length c ∧ OwnN celC 64 w' w.heap.size (.slice b ss.length c) ss
  o3 : d 15 = true → ∃ b c, s 18 = .slice b ms.length c ∧ OwnN celC 64 w' w.heap.size (.slice b ms.length c) ms
  ne : d 15 = true → ∀ k, (s 15).ownBlock = some k → (s 18).ownBlock ≠ some k
  fb : d 16 = true → ∃ b0 b1 b2 b3 d0 d1 d2 d3, s 19 = .agg #[.int .i64 i, .int .i64 n, .slice b0 ws.length d0, .slice b1 cs.length d1, .slice b2 ss.length d2, .slice b3 ms.length d3] ∧ Own4 w' w.heap.size (.slice b0 ws.length d0) (.slice b1 cs.length d1) (.slice b2 ss.length d2) (.slice b3 ms.length d3) ws cs ss ms
theorem RgCopy.later {w : World} {i n : Int} {a1 a2 a3 a4 : Option Addr} {c1 c2 c3 c4 : Nat} {ws : List Wn} {cs : List Cd} {ss ms : List Ca} {d : Nat → Bool} {s : Nat → Value} {w1 w2 : World} (h : RgCopy w i n a1 a2 a3 a4 c1 c2 c3 c4 ws cs ss ms d s w1) (hb : Below w1.heap.size w1 w2) : RgCopy w i n a1 a2 a3 a4 c1 c2 c3 c4 ws cs ss ms d s w2 := by
  refine ⟨?_, ?_, ?_, ?_, h.fa0, h.fl0, h.fa1, h.fl1, h.fa2, h.fl2, h.fa3, h.fl3, h.fa4, h.fl4, h.fa5, h.fl5, ?_, ?_, ?_, ?_, h.ne, ?_⟩
  · exact h.bel.trans (hb.mono h.bel.size)
  · exact h.ba.later hb
  · obtain ⟨x0, x1, x2, x3, x4, x5, h1⟩ := h.bz
    exact ⟨x0, x1, x2, x3, x4, x5, h1.later hb⟩
  · intro e
    obtain ⟨b0, b1, b2, b3, d0, d1, d2, d3, h1, h2⟩ := h.bv e
    exact ⟨b0, b1, b2, b3, d0, d1, d2, d3, h1.later hb, h2.later hb⟩
  · intro e
    obtain ⟨b, c, h1, h2⟩ := h.o0 e
    exact ⟨b, c, h1, h2.later hb⟩
  · intro e
    obtain ⟨b, c, h1, h2⟩ := h.o1 e
    exact ⟨b, c, h1, h2.later hb⟩
  · intro e
    obtain ⟨b, c, h1, h2⟩ := h.o2 e
    exact ⟨b, c, h1, h2.later hb⟩
  · intro e
    obtain ⟨b, c, h1, h2⟩ := h.o3 e
    exact ⟨b, c, h1, h2.later hb⟩
  · intro e
    obtain ⟨b0, b1, b2, b3, d0, d1, d2, d3, h1, h2⟩ := h.fb e
    exact ⟨b0, b1, b2, b3, d0, d1, d2, d3, h1, h2.later hb⟩

set_option maxHeartbeats 8000000 in
set_option maxRecDepth 100000 in
theorem copyClient_any (i n : Int) (a1 a2 a3 a4 : Option Addr) (c1 c2 c3 c4 : Nat) (ws : List Wn) (cs : List Cd) (ss ms : List Ca) (w : World) (h : CRows w a1 a2 a3 a4 ws cs ss ms) (hx1 : ws.length ≤ 1048576) (hx2 : cs.length ≤ 1048576) (hx3 : ss.length ≤ 1048576) (hx4 : ms.length ≤ 1048576) :
    Calls Try.prog 28 #[.agg #[.int .i64 i, .int .i64 n, .slice a1 ws.length c1, .slice a2 cs.length c2, .slice a3 ss.length c3, .slice a4 ms.length c4]] w fun r w' => ∃ b1 b2 b3 b4 e1 e2 e3 e4, r = .returned (.agg #[.int .i64 i, .int .i64 n, .slice b1 ws.length e1, .slice b2 cs.length e2, .slice b3 ss.length e3, .slice b4 ms.length e4]) ∧ Own4 w' w.heap.size (.slice b1 ws.length e1) (.slice b2 cs.length e2) (.slice b3 ss.length e3) (.slice b4 ms.length e4) ws cs ss ms ∧ Below w.heap.size w w' := by
  have HW : Hid (Below w.heap.size w ((w.alloc (.cells #[.int .i64 i, .int .i64 n, .slice a1 ws.length c1, .slice a2 cs.length c2, .slice a3 ss.length c3, .slice a4 ms.length c4] 36)).alloc (.cells #[.int .i64 0, .int .i64 0, .slice none 0 0, .slice none 0 0, .slice none 0 0, .slice none 0 0] 36)) ∧ ABlk 36 ((w.alloc (.cells #[.int .i64 i, .int .i64 n, .slice a1 ws.length c1, .slice a2 cs.length c2, .slice a3 ss.length c3, .slice a4 ms.length c4] 36)).alloc (.cells #[.int .i64 0, .int .i64 0, .slice none 0 0, .slice none 0 0, .slice none 0 0, .slice none 0 0] 36)) w.heap.size #[.int .i64 i, .int .i64 n, .slice a1 ws.length c1, .slice a2 cs.length c2, .slice a3 ss.length c3, .slice a4 ms.length c4] ∧ ABlk 36 ((w.alloc (.cells #[.int .i64 i, .int .i64 n, .slice a1 ws.length c1, .slice a2 cs.length c2, .slice a3 ss.length c3, .slice a4 ms.length c4] 36)).alloc (.cells #[.int .i64 0, .int .i64 0, .slice none 0 0, .slice none 0 0, .slice none 0 0, .slice none 0 0] 36)) (w.heap.size + 1) #[.int .i64 0, .int .i64 0, .slice none 0 0, .slice none 0 0, .slice none 0 0, .slice none 0 0]) := by
    refine ⟨(Below.alloc_ _ _).trans ((Below.alloc_ _ _).mono (by simp)), (ABlk.new _ _ _).later (Below.alloc_ _ _), ?_⟩
    have e := ABlk.new (w.alloc (.cells #[.int .i64 i, .int .i64 n, .slice a1 ws.length c1, .slice a2 cs.length c2, .slice a3 ss.length c3, .slice a4 ms.length c4] 36)) 36 #[.int .i64 0, .int .i64 0, .slice none 0 0, .slice none 0 0, .slice none 0 0, .slice none 0 0]
    rw [World.size_alloc] at e
    exact e
  have HH : Hid (CRows w a1 a2 a3 a4 ws cs ss ms) := h
  clear h
  go_enter Try.func28, Try.ntmps28
  go_wp2_with fail
  generalize ((w.alloc (.cells #[.int .i64 i, .int .i64 n, .slice a1 ws.length c1, .slice a2 cs.length c2, .slice a3 ss.length c3, .slice a4 ms.length c4] 36)).alloc (.cells #[.int .i64 0, .int .i64 0, .slice none 0 0, .slice none 0 0, .slice none 0 0, .slice none 0 0] 36)) = W0 at HW ⊢
  refine wp_region_walk [3, 4, 5, 6, 7, 8, 9, 10, 11, 12, 13, 14, 15, 16, 17, 18, 19] (RgCopy w i n a1 a2 a3 a4 c1 c2 c3 c4 ws cs ss ms) [0, 1, 2, 3, 4, 5, 6, 7, 8, 9, 10, 11, 12, 13, 14, 15, 16, 17] (by kernel_rfl) (by kernel_rfl) (by kernel_rfl) ?_ ?_ ?_
  · intro s
    exact ⟨HW.out.1.drew, HW.out.2.1, ⟨_, _, _, _, _, _, HW.out.2.2⟩, fun e => (by cases e), fun e => (by cases e), fun e => (by cases e), fun e => (by cases e), fun e => (by cases e), fun e => (by cases e), fun e => (by cases e), fun e => (by cases e), fun e => (by cases e), fun e => (by cases e), fun e => (by cases e), fun e => (by cases e), fun e => (by cases e), fun e => (by cases e), fun e => (by cases e), fun e => (by cases e), fun e => (by cases e), fun e => (by cases e), fun e => (by cases e)⟩
  · refine StepsR.cons (k := 0) [] (by kernel_rfl) ?_ (StepsR.cons (k := 1) [0] (by kernel_rfl) ?_ (StepsR.cons (k := 2) [] (by kernel_rfl) ?_ (StepsR.cons (k := 3) [2] (by kernel_rfl) ?_ (StepsR.cons (k := 4) [] (by kernel_rfl) ?_ (StepsR.cons (k := 5) [4] (by kernel_rfl) ?_ (StepsR.cons (k := 6) [5] (by kernel_rfl) ?_ (StepsR.cons (k := 7) [] (by kernel_rfl) ?_ (StepsR.cons (k := 8) [7] (by kernel_rfl) ?_ (StepsR.cons (k := 9) [8, 6] (by kernel_rfl) ?_ (StepsR.cons (k := 10) [] (by kernel_rfl) ?_ (StepsR.cons (k := 11) [10] (by kernel_rfl) ?_ (StepsR.cons (k := 12) [11, 9] (by kernel_rfl) ?_ (StepsR.cons (k := 13) [] (by kernel_rfl) ?_ (StepsR.cons (k := 14) [13] (by kernel_rfl) ?_ (StepsR.cons (k := 15) [14, 12] (by kernel_rfl) ?_ (StepsR.cons (k := 16) [1, 3, 6, 9, 12, 15] (by kernel_rfl) ?_ (StepsR.cons (k := 17) [0, 1, 2, 3, 4, 5, 6, 7, 8, 9, 10, 11, 12, 13, 14, 15, 16] (by kernel_rfl) ?_ (StepsR.nil))))))))))))))))))
    · intro d s w1 hd hA hC hF K hK
      have hB9 := hF.bel
      simp only [putL, putT, List.setIfInBounds_toArray, List.set_cons_zero, List.set_cons_succ]
      clear hB9
      as_aux_lemma =>
        go_simp
        refine hK.out (updS s 3 (Value.pointer (some ⟨w.heap.size, 0, none⟩))) _ _ ?_ ⟨hF.bel, hF.ba, hF.bz, hF.bv, fun _ => rfl, hF.fl0, hF.fa1, hF.fl1, hF.fa2, hF.fl2, hF.fa3, hF.fl3, hF.fa4, hF.fl4, hF.fa5, hF.fl5, hF.o0, hF.o1, hF.o2, hF.o3, hF.ne, hF.fb⟩
        (simp only [putL, putT, List.setIfInBounds_toArray, List.set_cons_zero, List.set_cons_succ]); rfl
    · intro d s w1 hd hA hC hF K hK
      have hB9 := hF.bel
      simp only [putL, putT, List.setIfInBounds_toArray, List.set_cons_zero, List.set_cons_succ]
      clear hB9
      as_aux_lemma =>
        have p0 := hF.ba.at 0 _ rfl
        have e0 := hF.fa0 (hA.1)
        rw [e0]
        go_simp
        clear p0
        refine hK.out (updS s 4 (Value.int .i64 i)) _ _ ?_ ⟨hF.bel, hF.ba, hF.bz, hF.bv, hF.fa0, fun _ => rfl, hF.fa1, hF.fl1, hF.fa2, hF.fl2, hF.fa3, hF.fl3, hF.fa4, hF.fl4, hF.fa5, hF.fl5, hF.o0, hF.o1, hF.o2, hF.o3, hF.ne, hF.fb⟩
        (simp only [putL, putT, List.setIfInBounds_toArray, List.set_cons_zero, List.set_cons_succ]); rw [← e0]; (try rfl)
    · intro d s w1 hd hA hC hF K hK
      have hB9 := hF.bel
      simp only [putL, putT, List.setIfInBounds_toArray, List.set_cons_zero, List.set_cons_succ]
      clear hB9
      as_aux_lemma =>
        go_simp
        refine hK.out (updS s 5 (Value.pointer (some ⟨w.heap.size, 1, none⟩))) _ _ ?_ ⟨hF.bel, hF.ba, hF.bz, hF.bv, hF.fa0, hF.fl0, fun _ => rfl, hF.fl1, hF.fa2, hF.fl2, hF.fa3, hF.fl3, hF.fa4, hF.fl4, hF.fa5, hF.fl5, hF.o0, hF.o1, hF.o2, hF.o3, hF.ne, hF.fb⟩
        (simp only [putL, putT, List.setIfInBounds_toArray, List.set_cons_zero, List.set_cons_succ]); rfl
    · intro d s w1 hd hA hC hF K hK
      have hB9 := hF.bel
      simp only [putL, putT, List.setIfInBounds_toArray, List.set_cons_zero, List.set_cons_succ]
      clear hB9
      as_aux_lemma =>
        have p0 := hF.ba.at 1 _ rfl
        have e0 := hF.fa1 (hA.1)
        rw [e0]
        go_simp
        clear p0
        refine hK.out (updS s 6 (Value.int .i64 n)) _ _ ?_ ⟨hF.bel, hF.ba, hF.bz, hF.bv, hF.fa0, hF.fl0, hF.fa1, fun _ => rfl, hF.fa2, hF.fl2, hF.fa3, hF.fl3, hF.fa4, hF.fl4, hF.fa5, hF.fl5, hF.o0, hF.o1, hF.o2, hF.o3, hF.ne, hF.fb⟩
        (simp only [putL, putT, List.setIfInBounds_toArray, List.set_cons_zero, List.set_cons_succ]); rw [← e0]; (try rfl)
    · intro d s w1 hd hA hC hF K hK
      have hB9 := hF.bel
      simp only [putL, putT, List.setIfInBounds_toArray, List.set_cons_zero, List.set_cons_succ]
      clear hB9
      as_aux_lemma =>
        go_simp
        refine hK.out (updS s 7 (Value.pointer (some ⟨w.heap.size, 2, none⟩))) _ _ ?_ ⟨hF.bel, hF.ba, hF.bz, hF.bv, hF.fa0, hF.fl0, hF.fa1, hF.fl1, fun _ => rfl, hF.fl2, hF.fa3, hF.fl3, hF.fa4, hF.fl4, hF.fa5, hF.fl5, hF.o0, hF.o1, hF.o2, hF.o3, hF.ne, hF.fb⟩
        (simp only [putL, putT, List.setIfInBounds_toArray, List.set_cons_zero, List.set_cons_succ]); rfl
    · intro d s w1 hd hA hC hF K hK
      have hB9 := hF.bel
      simp only [putL, putT, List.setIfInBounds_toArray, List.set_cons_zero, List.set_cons_succ]
      clear hB9
      as_aux_lemma =>
        have p0 := hF.ba.at 2 _ rfl
        have e0 := hF.fa2 (hA.1)
        rw [e0]
        go_simp
        clear p0
        refine hK.out (updS s 8 (Value.slice a1 ws.length c1)) _ _ ?_ ⟨hF.bel, hF.ba, hF.bz, hF.bv, hF.fa0, hF.fl0, hF.fa1, hF.fl1, hF.fa2, fun _ => rfl, hF.fa3, hF.fl3, hF.fa4, hF.fl4, hF.fa5, hF.fl5, hF.o0, hF.o1, hF.o2, hF.o3, hF.ne, hF.fb⟩
        (simp only [putL, putT, List.setIfInBounds_toArray, List.set_cons_zero, List.set_cons_succ]); rw [← e0]; (try rfl)
    · intro d s w1 hd hA hC hF K hK
      have hB9 := hF.bel
      simp only [putL, putT, List.setIfInBounds_toArray, List.set_cons_zero, List.set_cons_succ]
      clear hB9
      as_aux_lemma =>
        have e1 := hF.fl2 (hA.1)
        rw [e1]
        have hr := (HH.out.w1.later hF.bel)
        refine wp_app_new celW _ 54 33 16 _ Try.underlying33 infoWant rfl (by omega) (.const (.slice none 0 0)) (.tmp 8) rfl w.heap.size none rfl (OwnN.zero _ _ _ _) a1 ws c1 rfl hr (by omega) hF.bel.size ?_
        intro b5 c5 w5 o5 b9 n5
        have hF2 := hF.later b9
        refine hK.out (updS s 9 (Value.slice b5 ws.length c5)) _ _ ?_ ⟨hF2.bel, hF2.ba, hF2.bz, hF2.bv, hF2.fa0, hF2.fl0, hF2.fa1, hF2.fl1, hF2.fa2, hF2.fl2, hF2.fa3, hF2.fl3, hF2.fa4, hF2.fl4, hF2.fa5, hF2.fl5, fun _ => ⟨b5, c5, rfl, o5⟩, hF2.o1, hF2.o2, hF2.o3, hF2.ne, hF2.fb⟩
        (simp only [putL, putT, List.setIfInBounds_toArray, List.set_cons_zero, List.set_cons_succ]); rw [← e1]; (try rfl)
    · intro d s w1 hd hA hC hF K hK
      have hB9 := hF.bel
      simp only [putL, putT, List.setIfInBounds_toArray, List.set_cons_zero, List.set_cons_succ]
      clear hB9
      as_aux_lemma =>
        go_simp
        refine hK.out (updS s 10 (Value.pointer (some ⟨w.heap.size, 3, none⟩))) _ _ ?_ ⟨hF.bel, hF.ba, hF.bz, hF.bv, hF.fa0, hF.fl0, hF.fa1, hF.fl1, hF.fa2, hF.fl2, fun _ => rfl, hF.fl3, hF.fa4, hF.fl4, hF.fa5, hF.fl5, hF.o0, hF.o1, hF.o2, hF.o3, hF.ne, hF.fb⟩
        (simp only [putL, putT, List.setIfInBounds_toArray, List.set_cons_zero, List.set_cons_succ]); rfl
    · intro d s w1 hd hA hC hF K hK
      have hB9 := hF.bel
      simp only [putL, putT, List.setIfInBounds_toArray, List.set_cons_zero, List.set_cons_succ]
      clear hB9
      as_aux_lemma =>
        have p0 := hF.ba.at 3 _ rfl
        have e0 := hF.fa3 (hA.1)
        rw [e0]
        go_simp
        clear p0
        refine hK.out (updS s 11 (Value.slice a2 cs.length c2)) _ _ ?_ ⟨hF.bel, hF.ba, hF.bz, hF.bv, hF.fa0, hF.fl0, hF.fa1, hF.fl1, hF.fa2, hF.fl2, hF.fa3, fun _ => rfl, hF.fa4, hF.fl4, hF.fa5, hF.fl5, hF.o0, hF.o1, hF.o2, hF.o3, hF.ne, hF.fb⟩
        (simp only [putL, putT, List.setIfInBounds_toArray, List.set_cons_zero, List.set_cons_succ]); rw [← e0]; (try rfl)
    · intro d s w1 hd hA hC hF K hK
      have hB9 := hF.bel
      simp only [putL, putT, List.setIfInBounds_toArray, List.set_cons_zero, List.set_cons_succ]
      clear hB9
      as_aux_lemma =>
        have e1 := hF.fl3 (hA.1)
        rw [e1]
        have hr := (HH.out.w2.later hF.bel)
        refine wp_app_new celD _ 58 34 80 _ Try.underlying34 infoCred rfl (by omega) (.const (.slice none 0 0)) (.tmp 11) rfl w.heap.size none rfl (OwnN.zero _ _ _ _) a2 cs c2 rfl hr (by omega) hF.bel.size ?_
        intro b5 c5 w5 o5 b9 n5
        have hF2 := hF.later b9
        refine hK.out (updS s 12 (Value.slice b5 cs.length c5)) _ _ ?_ ⟨hF2.bel, hF2.ba, hF2.bz, hF2.bv, hF2.fa0, hF2.fl0, hF2.fa1, hF2.fl1, hF2.fa2, hF2.fl2, hF2.fa3, hF2.fl3, hF2.fa4, hF2.fl4, hF2.fa5, hF2.fl5, hF2.o0, fun _ => ⟨b5, c5, rfl, o5⟩, hF2.o2, hF2.o3, hF2.ne, hF2.fb⟩
        (simp only [putL, putT, List.setIfInBounds_toArray, List.set_cons_zero, List.set_cons_succ]); rw [← e1]; (try rfl)
    · intro d s w1 hd hA hC hF K hK
      have hB9 := hF.bel
      simp only [putL, putT, List.setIfInBounds_toArray, List.set_cons_zero, List.set_cons_succ]
      clear hB9
      as_aux_lemma =>
        go_simp
        refine hK.out (updS s 13 (Value.pointer (some ⟨w.heap.size, 4, none⟩))) _ _ ?_ ⟨hF.bel, hF.ba, hF.bz, hF.bv, hF.fa0, hF.fl0, hF.fa1, hF.fl1, hF.fa2, hF.fl2, hF.fa3, hF.fl3, fun _ => rfl, hF.fl4, hF.fa5, hF.fl5, hF.o0, hF.o1, hF.o2, hF.o3, hF.ne, hF.fb⟩
        (simp only [putL, putT, List.setIfInBounds_toArray, List.set_cons_zero, List.set_cons_succ]); rfl
    · intro d s w1 hd hA hC hF K hK
      have hB9 := hF.bel
      simp only [putL, putT, List.setIfInBounds_toArray, List.set_cons_zero, List.set_cons_succ]
      clear hB9
      as_aux_lemma =>
        have p0 := hF.ba.at 4 _ rfl
        have e0 := hF.fa4 (hA.1)
        rw [e0]
        go_simp
        clear p0
        refine hK.out (updS s 14 (Value.slice a3 ss.length c3)) _ _ ?_ ⟨hF.bel, hF.ba, hF.bz, hF.bv, hF.fa0, hF.fl0, hF.fa1, hF.fl1, hF.fa2, hF.fl2, hF.fa3, hF.fl3, hF.fa4, fun _ => rfl, hF.fa5, hF.fl5, hF.o0, hF.o1, hF.o2, hF.o3, hF.ne, hF.fb⟩
        (simp only [putL, putT, List.setIfInBounds_toArray, List.set_cons_zero, List.set_cons_succ]); rw [← e0]; (try rfl)
    · intro d s w1 hd hA hC hF K hK
      have hB9 := hF.bel
      simp only [putL, putT, List.setIfInBounds_toArray, List.set_cons_zero, List.set_cons_succ]
      clear hB9
      as_aux_lemma =>
        have e1 := hF.fl4 (hA.1)
        rw [e1]
        have hr := (HH.out.w3.later hF.bel)
        refine wp_app_new celC _ 64 25 32 _ Try.underlying25 infoCall rfl (by omega) (.const (.slice none 0 0)) (.tmp 14) rfl w.heap.size none rfl (OwnN.zero _ _ _ _) a3 ss c3 rfl hr (by omega) hF.bel.size ?_
        intro b5 c5 w5 o5 b9 n5
        have hF2 := hF.later b9
        have off3 := hC.off 15 12 (by kernel_rfl) hd
        refine hK.out (updS s 15 (Value.slice b5 ss.length c5)) _ _ ?_ ⟨hF2.bel, hF2.ba, hF2.bz, hF2.bv, hF2.fa0, hF2.fl0, hF2.fa1, hF2.fl1, hF2.fa2, hF2.fl2, hF2.fa3, hF2.fl3, hF2.fa4, hF2.fl4, hF2.fa5, hF2.fl5, hF2.o0, hF2.o1, fun _ => ⟨b5, c5, rfl, o5⟩, hF2.o3, fun e => (by rw [show upd d 12 15 = d 15 from rfl, off3] at e; cases e), hF2.fb⟩
        (simp only [putL, putT, List.setIfInBounds_toArray, List.set_cons_zero, List.set_cons_succ]); rw [← e1]; (try rfl)
    · intro d s w1 hd hA hC hF K hK
      have hB9 := hF.bel
      simp only [putL, putT, List.setIfInBounds_toArray, List.set_cons_zero, List.set_cons_succ]
      clear hB9
      as_aux_lemma =>
        go_simp
        refine hK.out (updS s 16 (Value.pointer (some ⟨w.heap.size, 5, none⟩))) _ _ ?_ ⟨hF.bel, hF.ba, hF.bz, hF.bv, hF.fa0, hF.fl0, hF.fa1, hF.fl1, hF.fa2, hF.fl2, hF.fa3, hF.fl3, hF.fa4, hF.fl4, fun _ => rfl, hF.fl5, hF.o0, hF.o1, hF.o2, hF.o3, hF.ne, hF.fb⟩
        (simp only [putL, putT, List.setIfInBounds_toArray, List.set_cons_zero, List.set_cons_succ]); rfl
    · intro d s w1 hd hA hC hF K hK
      have hB9 := hF.bel
      simp only [putL, putT, List.setIfInBounds_toArray, List.set_cons_zero, List.set_cons_succ]
      clear hB9
      as_aux_lemma =>
        have p0 := hF.ba.at 5 _ rfl
        have e0 := hF.fa5 (hA.1)
        rw [e0]
        go_simp
        clear p0
        refine hK.out (updS s 17 (Value.slice a4 ms.length c4)) _ _ ?_ ⟨hF.bel, hF.ba, hF.bz, hF.bv, hF.fa0, hF.fl0, hF.fa1, hF.fl1, hF.fa2, hF.fl2, hF.fa3, hF.fl3, hF.fa4, hF.fl4, hF.fa5, fun _ => rfl, hF.o0, hF.o1, hF.o2, hF.o3, hF.ne, hF.fb⟩
        (simp only [putL, putT, List.setIfInBounds_toArray, List.set_cons_zero, List.set_cons_succ]); rw [← e0]; (try rfl)
    · intro d s w1 hd hA hC hF K hK
      have hB9 := hF.bel
      simp only [putL, putT, List.setIfInBounds_toArray, List.set_cons_zero, List.set_cons_succ]
      clear hB9
      as_aux_lemma =>
        have e1 := hF.fl5 (hA.1)
        obtain ⟨b3, d3, e3, o3⟩ := hF.o2 (hA.2.1)
        rw [e1]
        have hr := (HH.out.w4.later hF.bel)
        refine wp_app_new celC _ 64 25 32 _ Try.underlying25 infoCall rfl (by omega) (.const (.slice none 0 0)) (.tmp 17) rfl w.heap.size none rfl (OwnN.zero _ _ _ _) a4 ms c4 rfl hr (by omega) hF.bel.size ?_
        intro b5 c5 w5 o5 b9 n5
        have hF2 := hF.later b9
        refine hK.out (updS s 18 (Value.slice b5 ms.length c5)) _ _ ?_ ⟨hF2.bel, hF2.ba, hF2.bz, hF2.bv, hF2.fa0, hF2.fl0, hF2.fa1, hF2.fl1, hF2.fa2, hF2.fl2, hF2.fa3, hF2.fl3, hF2.fa4, hF2.fl4, hF2.fa5, hF2.fl5, hF2.o0, hF2.o1, hF2.o2, fun _ => ⟨b5, c5, rfl, o5⟩, fun _ k h1 h2 => (by have h3 : (s 15).ownBlock = some k := h1; rw [e3] at h3; have h4 := (o3.lt k h3).2; have h5 : (Value.slice b5 ms.length c5).ownBlock = some k := h2; rcases n5 with n5 | n5 <;> rw [h5] at n5; cases n5; (injection n5 with n5; omega)), hF2.fb⟩
        (simp only [putL, putT, List.setIfInBounds_toArray, List.set_cons_zero, List.set_cons_succ]); rw [← e1]; (try rfl)
    · intro d s w1 hd hA hC hF K hK
      have hB9 := hF.bel
      simp only [putL, putT, List.setIfInBounds_toArray, List.set_cons_zero, List.set_cons_succ]
      clear hB9
      as_aux_lemma =>
        have e0 := hF.fl0 (hA.1)
        have e1 := hF.fl1 (hA.2.1)
        obtain ⟨b0, d0, x0, o0⟩ := hF.o0 (hA.2.2.1)
        obtain ⟨b1, d1, x1, o1⟩ := hF.o1 (hA.2.2.2.1)
        obtain ⟨b2, d2, x2, o2⟩ := hF.o2 (hA.2.2.2.2.1)
        obtain ⟨b3, d3, x3, o3⟩ := hF.o3 (hA.2.2.2.2.2.1)
        have ne := hF.ne (hA.2.2.2.2.2.1)
        rw [x2, x3] at ne
        have O4 : Hid (Own4 w1 w.heap.size (.slice b0 ws.length d0) (.slice b1 cs.length d1) (.slice b2 ss.length d2) (.slice b3 ms.length d3) ws cs ss ms) := ⟨o0, o1, o2, o3, ne⟩
        clear o0 o1 o2 o3 ne
        rw [e0, e1, x0, x1, x2, x3]
        simp only [Region.wanted, if_true]
        refine wp_built 36 _ _ _ rfl (by simp only [List.map_toArray, List.map_cons, List.map_nil]; rfl) (bldClient w1 i n b0 b1 b2 b3 ws.length cs.length ss.length ms.length d0 d1 d2 d3) ?_
        refine hK.out (updS s 19 (Value.agg #[.int .i64 i, .int .i64 n, .slice b0 ws.length d0, .slice b1 cs.length d1, .slice b2 ss.length d2, .slice b3 ms.length d3])) _ _ ?_ ⟨hF.bel, hF.ba, hF.bz, hF.bv, hF.fa0, hF.fl0, hF.fa1, hF.fl1, hF.fa2, hF.fl2, hF.fa3, hF.fl3, hF.fa4, hF.fl4, hF.fa5, hF.fl5, hF.o0, hF.o1, hF.o2, hF.o3, hF.ne, fun _ => ⟨b0, b1, b2, b3, d0, d1, d2, d3, rfl, O4.out⟩⟩
        (simp only [putL, putT, List.setIfInBounds_toArray, List.set_cons_zero, List.set_cons_succ]); rw [← e0, ← e1, ← x0, ← x1, ← x2, ← x3]; (try rfl)
    · intro d s w1 hd hA hC hF K hK
      have hB9 := hF.bel
      simp only [putL, putT, List.setIfInBounds_toArray, List.set_cons_zero, List.set_cons_succ]
      clear hB9
      as_aux_lemma =>
        obtain ⟨b0, b1, b2, b3, d0, d1, d2, d3, e0, o4⟩ := hF.fb (hA.2.2.2.2.2.2.2.2.2.2.2.2.2.2.2.2.1)
        obtain ⟨y0, y1, y2, y3, y4, y5, hz⟩ := hF.bz
        have p0 := hz.at 0 _ rfl
        have p1 := hz.at 1 _ rfl
        have p2 := hz.at 2 _ rfl
        have p3 := hz.at 3 _ rfl
        have p4 := hz.at 4 _ rfl
        have p5 := hz.at 5 _ rfl
        have q0 := hz.fro 0
        have q1 := hz.fro 1
        have q2 := hz.fro 2
        have q3 := hz.fro 3
        have q4 := hz.fro 4
        have q5 := hz.fro 5
        have H0 : Hid (ABlk 36 w1 (w.heap.size + 1) #[y0, y1, y2, y3, y4, y5]) := hz
        have O4off : Hid (∀ k, (Value.slice b0 ws.length d0).ownBlock = some k ∨ (Value.slice b1 cs.length d1).ownBlock = some k ∨ (Value.slice b2 ss.length d2).ownBlock = some k ∨ (Value.slice b3 ms.length d3).ownBlock = some k → k ≠ w.heap.size + 1) := by
          intro k e
          rcases e with e | e | e | e
          · exact hz.off o4.o1 (by decide) k e
          · exact hz.off o4.o2 (by decide) k e
          · exact hz.off o4.o3 (by decide) k e
          · exact hz.off o4.o4 (by decide) k e
        have O4 : Hid (Own4 w1 w.heap.size (.slice b0 ws.length d0) (.slice b1 cs.length d1) (.slice b2 ss.length d2) (.slice b3 ms.length d3) ws cs ss ms) := o4
        clear hz o4
        rw [e0]
        go_simp
        clear p0 q0 p1 q1 p2 q2 p3 q3 p4 q4 p5 q5
        have g9 : GrL w1 ((((((w1.setCell ⟨w.heap.size + 1, 0, none⟩ (.int .i64 i)).setCell ⟨w.heap.size + 1, 1, none⟩ (.int .i64 n)).setCell ⟨w.heap.size + 1, 2, none⟩ (Value.slice b0 ws.length d0)).setCell ⟨w.heap.size + 1, 3, none⟩ (Value.slice b1 cs.length d1)).setCell ⟨w.heap.size + 1, 4, none⟩ (Value.slice b2 ss.length d2)).setCell ⟨w.heap.size + 1, 5, none⟩ (Value.slice b3 ms.length d3)) [some (w.heap.size + 1)] := put6_grl _ _ _ _ _ _ _ _
        have H1 : ABlk 36 ((((((w1.setCell ⟨w.heap.size + 1, 0, none⟩ (.int .i64 i)).setCell ⟨w.heap.size + 1, 1, none⟩ (.int .i64 n)).setCell ⟨w.heap.size + 1, 2, none⟩ (Value.slice b0 ws.length d0)).setCell ⟨w.heap.size + 1, 3, none⟩ (Value.slice b1 cs.length d1)).setCell ⟨w.heap.size + 1, 4, none⟩ (Value.slice b2 ss.length d2)).setCell ⟨w.heap.size + 1, 5, none⟩ (Value.slice b3 ms.length d3)) (w.heap.size + 1) #[.int .i64 i, .int .i64 n, .slice b0 ws.length d0, .slice b1 cs.length d1, .slice b2 ss.length d2, .slice b3 ms.length d3] := H0.out.put6 _ _ _ _ _ _
        generalize ((((((w1.setCell ⟨w.heap.size + 1, 0, none⟩ (.int .i64 i)).setCell ⟨w.heap.size + 1, 1, none⟩ (.int .i64 n)).setCell ⟨w.heap.size + 1, 2, none⟩ (Value.slice b0 ws.length d0)).setCell ⟨w.heap.size + 1, 3, none⟩ (Value.slice b1 cs.length d1)).setCell ⟨w.heap.size + 1, 4, none⟩ (Value.slice b2 ss.length d2)).setCell ⟨w.heap.size + 1, 5, none⟩ (Value.slice b3 ms.length d3)) = W at g9 H1 ⊢
        have O5 : Own4 W w.heap.size (.slice b0 ws.length d0) (.slice b1 cs.length d1) (.slice b2 ss.length d2) (.slice b3 ms.length d3) ws cs ss ms := O4.out.grl g9 (fun k e => by simp; exact O4off.out k e)
        refine hK.out s _ _ ?_ ⟨hF.bel.trans (g9.below hF.bel.size (by simp)), hF.ba.grl g9 (by simp), ⟨_, _, _, _, _, _, H1⟩, fun _ => ⟨b0, b1, b2, b3, d0, d1, d2, d3, H1, O5⟩, hF.fa0, hF.fl0, hF.fa1, hF.fl1, hF.fa2, hF.fl2, hF.fa3, hF.fl3, hF.fa4, hF.fl4, hF.fa5, hF.fl5, fun e => (by obtain ⟨b, c, h1, h2⟩ := hF.o0 e; exact ⟨b, c, h1, h2.grl g9 (fun k e => by simp; exact H0.out.off h2 (by decide) k e)⟩), fun e => (by obtain ⟨b, c, h1, h2⟩ := hF.o1 e; exact ⟨b, c, h1, h2.grl g9 (fun k e => by simp; exact H0.out.off h2 (by decide) k e)⟩), fun e => (by obtain ⟨b, c, h1, h2⟩ := hF.o2 e; exact ⟨b, c, h1, h2.grl g9 (fun k e => by simp; exact H0.out.off h2 (by decide) k e)⟩), fun e => (by obtain ⟨b, c, h1, h2⟩ := hF.o3 e; exact ⟨b, c, h1, h2.grl g9 (fun k e => by simp; exact H0.out.off h2 (by decide) k e)⟩), hF.ne, fun _ => ⟨b0, b1, b2, b3, d0, d1, d2, d3, e0, O5⟩⟩
        (simp only [putL, putT, List.setIfInBounds_toArray, List.set_cons_zero, List.set_cons_succ]); rw [← e0]; (try rfl)
  · intro d s w1 hA hF
    obtain ⟨b0, b1, b2, b3, d0, d1, d2, d3, hz, o4⟩ := hF.bv (hA.2.2.2.2.2.2.2.2.2.2.2.2.2.2.2.2.2.1)
    have HE : Hid (Own4 w1 w.heap.size (.slice b0 ws.length d0) (.slice b1 cs.length d1) (.slice b2 ss.length d2) (.slice b3 ms.length d3) ws cs ss ms ∧ Below w.heap.size w w1) := ⟨o4, hF.bel⟩
    have p0 := hz.at 0 _ rfl
    have p1 := hz.at 1 _ rfl
    have p2 := hz.at 2 _ rfl
    have p3 := hz.at 3 _ rfl
    have p4 := hz.at 4 _ rfl
    have p5 := hz.at 5 _ rfl
    clear hF hA hz o4
    simp only [putL, putT, List.setIfInBounds_toArray, List.set_cons_zero, List.set_cons_succ]
    go_wp2_with fail
    refine bodyPost_ret (v := .agg #[.int .i64 i, .int .i64 n, .slice b0 ws.length d0, .slice b1 cs.length d1, .slice b2 ss.length d2, .slice b3 ms.length d3]) (by simp [results, Try.results28, go_sem, *]) rfl ⟨b0, b1, b2, b3, d0, d1, d2, d3, rfl, HE.out.1, HE.out.2⟩

/-- What is known on the way through a region. -/
structure RgCopyS (w : World) (i n : Int) (a1 a2 a3 a4 : Option Addr) (c1 c2 c3 c4 : Nat) (ws : List Wn) (cs : List Cd) (ss ms : List Ca) (d : Nat → Bool) (s : Nat → Value) (w' : World) : Prop where
  bel : Below w.heap.size w w'
  ba : ABlk 36 w' w.heap.size #[.int .i64 i, .int .i64 n, .slice a1 ws.length c1, .slice a2 cs.length c2, .slice a3 ss.length c3, .slice a4 ms.length c4]
  bz : ∃ x0 x1 x2 x3 x4 x5, ABlk 36 w' (w.heap.size + 1) #[x0, x1, x2, x3, x4, x5]
  bv : d 21 = true → ∃ b0 b1 b2 b3 d0 d1 d2 d3, ABlk 36 w' (w.heap.size + 1) #[.int .i64 i, .int .i64 n, .slice b0 ws.length d0, .slice b1 cs.length d1, .slice b2 ss.length d2, .slice b3 ms.length d3] ∧ Own4 w' w.heap.size (.slice b0 ws.length d0) (.slice b1 cs.length d1) (.slice b2 ss.length d2) (.slice b3 ms.length d3) ws cs ss ms
  fa0 : d 0 = true → s 3 = .pointer (some ⟨w.heap.size, 0, none⟩)
  fl0 : d 1 = true → s 4 = Value.int .i64 i
  fa1 : d 2 = true → s 5 = .pointer (some ⟨w.heap.size, 1, none⟩)
  fl1 : d 3 = true → s 6 = Value.int .i64 n
  fa2 : d 5 = true → s 8 = .pointer (some ⟨w.heap.size, 2, none⟩)
  fl2 : d 6 = true → s 9 = Value.slice a1 ws.length c1
  fa3 : d 9 = true → s 12 = .pointer (some ⟨w.heap.size, 3, none⟩)
  fl3 : d 10 = true → s 13 = Value.slice a2 cs.length c2
  fa4 : d 13 = true → s 16 = .pointer (some ⟨w.heap.size, 4, none⟩)
  fl4 : d 14 = true → s 17 = Value.slice a3 ss.length c3
  fa5 : d 17 = true → s 20 = .pointer (some ⟨w.heap.size, 5, none⟩)
  fl5 : d 18 = true → s 21 = Value.slice a4 ms.length c4
  g0 : d 4 = true → ∃ b, s 7 = .slice b 0 0 ∧ OwnN celW 54 w' w.heap.size (.slice b 0 0) []
  g1 : d 8 = true → ∃ b, s 11 = .slice b 0 0 ∧ OwnN celD 58 w' w.heap.size (.slice b 0 0) []
  g2 : d 12 = true → ∃ b, s 15 = .slice b 0 0 ∧ OwnN celC 64 w' w.heap.size (.slice b 0 0) []
  g3 : d 16 = true → ∃ b, s 19 = .slice b 0 0 ∧ OwnN celC 64 w' w.heap.size (.slice b 0 0) []
  o0 : d 7 = true → ∃ b c, s 10 = .slice b ws.length c ∧ OwnN celW 54 w' w.heap.size (.slice b ws.length c) ws
  o1 : d 11 = true → ∃ b c, s 14 = .slice b cs.length c ∧ OwnN celD 58 w' w.heap.size (.slice b cs.length c) cs
  o2 : d 15 = true → ∃ b c, s 18 = .slice b ss.length c ∧ OwnN celC 64 w' w.heap.size (.slice b ss.length c) ss
  o3 : d 19 = true → ∃ b c, s 22 = .slice b ms.length c ∧ OwnN celC 64 w' w.heap.size (.slice b ms.length c) ms
  n1 : d 12 = true → d 16 = true → ∀ k, (s 15).ownBlock = some k → (s 19).ownBlock ≠ some k
  n2 : d 15 = true → d 16 = true → ∀ k, (s 18).ownBlock = some k → (s 19).ownBlock ≠ some k
  ne : d 19 = true → ∀ k, (s 18).ownBlock = some k → (s 22).ownBlock ≠ some k
  fb : d 20 = true → ∃ b0 b1 b2 b3 d0 d1 d2 d3, s 23 = .agg #[.int .i64 i, .int .i64 n, .slice b0 ws.length d0, .slice b1 cs.length d1, .slice b2 ss.length d2, .slice b3 ms.length d3] ∧ Own4 w' w.heap.size (.slice b0 ws.length d0) (.slice b1 cs.length d1) (.slice b2 ss.length d2) (.slice b3 ms.length d3) ws cs ss ms
theorem RgCopyS.later {w : World} {i n : Int} {a1 a2 a3 a4 : Option Addr} {c1 c2 c3 c4 : Nat} {ws : List Wn} {cs : List Cd} {ss ms : List Ca} {d : Nat → Bool} {s : Nat → Value} {w1 w2 : World} (h : RgCopyS w i n a1 a2 a3 a4 c1 c2 c3 c4 ws cs ss ms d s w1) (hb : Below w1.heap.size w1 w2) : RgCopyS w i n a1 a2 a3 a4 c1 c2 c3 c4 ws cs ss ms d s w2 := by
  refine ⟨?_, ?_, ?_, ?_, h.fa0, h.fl0, h.fa1, h.fl1, h.fa2, h.fl2, h.fa3, h.fl3, h.fa4, h.fl4, h.fa5, h.fl5, ?_, ?_, ?_, ?_, ?_, ?_, ?_, ?_, h.n1, h.n2, h.ne, ?_⟩
  · exact h.bel.trans (hb.mono h.bel.size)
  · exact h.ba.later hb
  · obtain ⟨x0, x1, x2, x3, x4, x5, h1⟩ := h.bz
    exact ⟨x0, x1, x2, x3, x4, x5, h1.later hb⟩
  · intro e
    obtain ⟨b0, b1, b2, b3, d0, d1, d2, d3, h1, h2⟩ := h.bv e
    exact ⟨b0, b1, b2, b3, d0, d1, d2, d3, h1.later hb, h2.later hb⟩
  · intro e
    obtain ⟨b, h1, h2⟩ := h.g0 e
    exact ⟨b, h1, h2.later hb⟩
  · intro e
    obtain ⟨b, h1, h2⟩ := h.g1 e
    exact ⟨b, h1, h2.later hb⟩
  · intro e
    obtain ⟨b, h1, h2⟩ := h.g2 e
    exact ⟨b, h1, h2.later hb⟩
  · intro e
    obtain ⟨b, h1, h2⟩ := h.g3 e
    exact ⟨b, h1, h2.later hb⟩
  · intro e
    obtain ⟨b, c, h1, h2⟩ := h.o0 e
    exact ⟨b, c, h1, h2.later hb⟩
  · intro e
    obtain ⟨b, c, h1, h2⟩ := h.o1 e
    exact ⟨b, c, h1, h2.later hb⟩
  · intro e
    obtain ⟨b, c, h1, h2⟩ := h.o2 e
    exact ⟨b, c, h1, h2.later hb⟩
  · intro e
    obtain ⟨b, c, h1, h2⟩ := h.o3 e
    exact ⟨b, c, h1, h2.later hb⟩
  · intro e
    obtain ⟨b0, b1, b2, b3, d0, d1, d2, d3, h1, h2⟩ := h.fb e
    exact ⟨b0, b1, b2, b3, d0, d1, d2, d3, h1, h2.later hb⟩

end Go.Proofs.Ytaokgbdddgoonaa
