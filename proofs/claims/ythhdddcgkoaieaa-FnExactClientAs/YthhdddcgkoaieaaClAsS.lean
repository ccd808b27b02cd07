/-
  Who asks for a first ticket, by the specification.
-/
import Derived.Test.YthhdddcgkoaieaaClAsI
import Derived.Deep.DeepCutAuto
namespace Go.Proofs.Ythhdddcgkoaieaa
open Go.RowKit
attribute [local go_sem ↓] Go.wp_at_zero Go.wp_at_succ

/-- What is known on the way through a region. -/
structure RgAsS (w : World) (B : Nat) (i n : Int) (b2 b3 b4 b5 : Option Addr) (e2 e3 e4 c5 : Nat) (WS : List Wn) (cs : List Cd) (ss ms : List Ca) (d : Nat → Bool) (s : Nat → Value) (w' : World) : Prop where
  bel : Below B w w'
  ba : ABlk 32 w' (w.heap.size) #[.int .i64 i, .int .i64 (n + 1), .slice b5 WS.length c5, .slice b2 cs.length e2, .slice b3 ss.length e3, .slice b4 ms.length e4]
  o4 : Own4 w' B (.slice b5 WS.length c5) (.slice b2 cs.length e2) (.slice b3 ss.length e3) (.slice b4 ms.length e4) WS cs ss ms
  r : ∃ x0 x1 x2 x3 x4 x5, ABlk 32 w' (w.heap.size + 1) #[x0, x1, x2, x3, x4, x5]
  rv : d 7 = true → ABlk 32 w' (w.heap.size + 1) #[.int .i64 i, .int .i64 (n + 1), .slice b5 WS.length c5, .slice b2 cs.length e2, .slice b3 ss.length e3, .slice b4 ms.length e4]
  m : ∃ y0 y1 y2 y3 y4, ABlk 35 w' (w.heap.size + 1 + 1) #[y0, y1, y2, y3, y4]
  mv : d 8 = true → ∃ g, ABlk 35 w' (w.heap.size + 1 + 1) #[.int .i64 1, .int .i64 i, .int .i64 0, .int .i64 (n + 1), .slice (some ⟨g, 0, none⟩) 0 0] ∧ OwnS w' w.heap.size (.slice (some ⟨g, 0, none⟩) 0 0) []
  fw : d 6 = true → ∃ g, s 28 = Value.agg #[.int .i64 1, .int .i64 i, .int .i64 0, .int .i64 (n + 1), .slice (some ⟨g, 0, none⟩) 0 0] ∧ OwnS w' w.heap.size (.slice (some ⟨g, 0, none⟩) 0 0) []
  fg : d 5 = true → ∃ g, s 27 = Value.slice (some ⟨g, 0, none⟩) 0 0 ∧ OwnS w' w.heap.size (.slice (some ⟨g, 0, none⟩) 0 0) []
  ft : d 9 = true → s 4 = Value.bool true
  f0 : d 0 = true → s 22 = Value.agg #[.int .i64 i, .int .i64 (n + 1), .slice b5 WS.length c5, .slice b2 cs.length e2, .slice b3 ss.length e3, .slice b4 ms.length e4]
  f1 : d 1 = true → s 23 = Value.pointer (some ⟨w.heap.size, 0, none⟩)
  f2 : d 2 = true → s 24 = Value.int .i64 i
  f3 : d 3 = true → s 25 = Value.pointer (some ⟨w.heap.size, 1, none⟩)
  f4 : d 4 = true → s 26 = Value.int .i64 (n + 1)
theorem RgAsS.later {w : World} {B : Nat} {i n : Int} {b2 b3 b4 b5 : Option Addr} {e2 e3 e4 c5 : Nat} {WS : List Wn} {cs : List Cd} {ss ms : List Ca} {d : Nat → Bool} {s : Nat → Value} {w1 w2 : World} (hB9 : B ≤ w.heap.size) (h : RgAsS w B i n b2 b3 b4 b5 e2 e3 e4 c5 WS cs ss ms d s w1) (hb : Below w1.heap.size w1 w2) : RgAsS w B i n b2 b3 b4 b5 e2 e3 e4 c5 WS cs ss ms d s w2 := by
  refine ⟨?_, ?_, ?_, ?_, ?_, ?_, ?_, ?_, ?_, h.ft, h.f0, h.f1, h.f2, h.f3, h.f4⟩
  · exact h.bel.trans (hb.mono (by have h7 := h.bel.size; omega))
  · exact h.ba.later hb
  · exact h.o4.later hb
  · obtain ⟨x0, x1, x2, x3, x4, x5, h1⟩ := h.r
    exact ⟨x0, x1, x2, x3, x4, x5, h1.later hb⟩
  · intro e
    exact (h.rv e).later hb
  · obtain ⟨y0, y1, y2, y3, y4, h1⟩ := h.m
    exact ⟨y0, y1, y2, y3, y4, h1.later hb⟩
  · intro e
    obtain ⟨g, h1, h2⟩ := h.mv e
    exact ⟨g, h1.later hb, h2.later hb⟩
  · intro e
    obtain ⟨g, h1, h2⟩ := h.fw e
    exact ⟨g, h1, h2.later hb⟩
  · intro e
    obtain ⟨g, h1, h2⟩ := h.fg e
    exact ⟨g, h1, h2.later hb⟩

set_option maxHeartbeats 8000000 in
set_option maxRecDepth 100000 in
theorem l12As_any (i n : Int) (b1 b2 b3 b4 : Option Addr) (e1 e2 e3 e4 : Nat) (ws : List Wn) (cs : List Cd) (ss ms : List Ca) (w : World) (B : Nat) (hB : B ≤ w.heap.size) (h : Own4 w B (.slice b1 ws.length e1) (.slice b2 cs.length e2) (.slice b3 ss.length e3) (.slice b4 ms.length e4) ws cs ss ms) (hn : 0 ≤ n ∧ n ≤ 60) (hx1 : ws.length ≤ 1048576) :
    Calls Try.prog 24 #[.agg #[.int .i64 i, .int .i64 n, .slice b1 ws.length e1, .slice b2 cs.length e2, .slice b3 ss.length e3, .slice b4 ms.length e4]] w fun r w' => ClRet B w w' (askA i n ws cs ss ms) r := by
  obtain ⟨W, hW⟩ : ∃ W, W = (((w.alloc (.cells #[.int .i64 i, .int .i64 n, .slice b1 ws.length e1, .slice b2 cs.length e2, .slice b3 ss.length e3, .slice b4 ms.length e4] 32)).alloc (.cells #[.int .i64 0, .int .i64 0, .slice none 0 0, .slice none 0 0, .slice none 0 0, .slice none 0 0] 32)).alloc (.cells #[.int .i64 0, .int .i64 0, .int .i64 0, .int .i64 0, .slice none 0 0] 35)) := ⟨_, rfl⟩
  have HB : Hid (ABlk 32 W w.heap.size #[.int .i64 i, .int .i64 n, .slice b1 ws.length e1, .slice b2 cs.length e2, .slice b3 ss.length e3, .slice b4 ms.length e4] ∧ ABlk 32 W (w.heap.size + 1) #[.int .i64 0, .int .i64 0, .slice none 0 0, .slice none 0 0, .slice none 0 0, .slice none 0 0] ∧ ABlk 35 W (w.heap.size + 1 + 1) #[.int .i64 0, .int .i64 0, .int .i64 0, .int .i64 0, .slice none 0 0] ∧ Below w.heap.size w W ∧ Own4 W B (.slice b1 ws.length e1) (.slice b2 cs.length e2) (.slice b3 ss.length e3) (.slice b4 ms.length e4) ws cs ss ms) := by
    have hb : Below w.heap.size w W := by
      rw [hW]
      exact (((Below.refl _ _).alloc (Nat.le_refl _) _).alloc (by simp) _).alloc (by simp; omega) _
    refine ⟨?_, ?_, ?_, hb, h.later hb⟩
    · rw [hW]
      exact ((ABlk.new _ _ _).later (Below.alloc_ _ _)).later (Below.alloc_ _ _)
    · rw [hW]
      have e := ABlk.new (w.alloc (.cells #[.int .i64 i, .int .i64 n, .slice b1 ws.length e1, .slice b2 cs.length e2, .slice b3 ss.length e3, .slice b4 ms.length e4] 32)) 32 #[.int .i64 0, .int .i64 0, .slice none 0 0, .slice none 0 0, .slice none 0 0, .slice none 0 0]
      rw [World.size_alloc] at e
      exact e.later (Below.alloc_ _ _)
    · rw [hW]
      have e := ABlk.new ((w.alloc (.cells #[.int .i64 i, .int .i64 n, .slice b1 ws.length e1, .slice b2 cs.length e2, .slice b3 ss.length e3, .slice b4 ms.length e4] 32)).alloc (.cells #[.int .i64 0, .int .i64 0, .slice none 0 0, .slice none 0 0, .slice none 0 0, .slice none 0 0] 32)) 35 #[.int .i64 0, .int .i64 0, .int .i64 0, .int .i64 0, .slice none 0 0]
      rw [World.size_alloc, World.size_alloc] at e
      exact e
  clear h
  go_enter Try.func24, Try.ntmps24
  go_upto_region 1 with fail
  rw [← hW]
  clear hW
  obtain ⟨l1, l2, l3⟩ : w.heap.size < W.heap.size ∧ w.heap.size + 1 < W.heap.size ∧ w.heap.size + 1 + 1 < W.heap.size := ⟨HB.out.1.lt, HB.out.2.1.lt, HB.out.2.2.1.lt⟩
  have p0 := HB.out.1.at 0 _ rfl
  have p1 := HB.out.1.at 1 _ rfl
  have p2 := HB.out.1.at 2 _ rfl
  have p3 := HB.out.1.at 3 _ rfl
  have p4 := HB.out.1.at 4 _ rfl
  have p5 := HB.out.1.at 5 _ rfl
  have pf1 := HB.out.1.fro 1
  have z0 := (HB.out.2.1).at 0 _ rfl
  have zf0 := (HB.out.2.1).fro 0
  have z1 := (HB.out.2.1).at 1 _ rfl
  have zf1 := (HB.out.2.1).fro 1
  have z2 := (HB.out.2.1).at 2 _ rfl
  have zf2 := (HB.out.2.1).fro 2
  have z3 := (HB.out.2.1).at 3 _ rfl
  have zf3 := (HB.out.2.1).fro 3
  have z4 := (HB.out.2.1).at 4 _ rfl
  have zf4 := (HB.out.2.1).fro 4
  have z5 := (HB.out.2.1).at 5 _ rfl
  have zf5 := (HB.out.2.1).fro 5
  have y0 := (HB.out.2.2.1).at 0 _ rfl
  have yf0 := (HB.out.2.2.1).fro 0
  have y1 := (HB.out.2.2.1).at 1 _ rfl
  have yf1 := (HB.out.2.2.1).fro 1
  have y2 := (HB.out.2.2.1).at 2 _ rfl
  have yf2 := (HB.out.2.2.1).fro 2
  have y3 := (HB.out.2.2.1).at 3 _ rfl
  have yf3 := (HB.out.2.2.1).fro 3
  have y4 := (HB.out.2.2.1).at 4 _ rfl
  have yf4 := (HB.out.2.2.1).fro 4
  have hw : wrap64 (n + 1) = n + 1 := by unfold wrap64; omega
  by_cases hm : n + 1 > 60
  · have EA : Hid (askA i n ws cs ss ms = keepA i n ws cs ss ms) := Hid.mk' (by unfold askA; rw [if_pos hm])
    obtain ⟨V, hV, gV, rV, mV⟩ := res2 (R := w.heap.size + 1) HB.out.2.1 HB.out.2.2.1 (Value.int .i64 i) (Value.int .i64 n) (Value.slice b1 ws.length e1) (Value.slice b2 cs.length e2) (Value.slice b3 ss.length e3) (Value.slice b4 ms.length e4) (Value.int .i64 0) (Value.int .i64 0) (Value.int .i64 0) (Value.int .i64 0) (Value.slice none 0 0)
    have HX : Hid (ABlk 32 V (w.heap.size + 1) #[.int .i64 i, .int .i64 n, .slice b1 ws.length e1, .slice b2 cs.length e2, .slice b3 ss.length e3, .slice b4 ms.length e4] ∧ ABlk 35 V (w.heap.size + 1 + 1) #[.int .i64 0, .int .i64 0, .int .i64 0, .int .i64 0, .slice none 0 0] ∧ Below w.heap.size w V ∧ Own4 V B (.slice b1 ws.length e1) (.slice b2 cs.length e2) (.slice b3 ss.length e3) (.slice b4 ms.length e4) ws cs ss ms) := ⟨rV, mV, HB.out.2.2.2.1.trans (gV.below HB.out.2.2.2.1.size (fun k hk => by simp at hk; omega)), HB.out.2.2.2.2.grl gV (HB.out.2.2.2.2.offs HB.out.2.1 HB.out.2.2.1)⟩
    clear gV rV mV HB
    go_wp2_with fail
    rw [← hV]
    clear hV pf1 p0 p1 p2 p3 p4 p5 z0 zf0 z1 zf1 z2 zf2 z3 zf3 z4 zf4 z5 zf5 y0 yf0 y1 yf1 y2 yf2 y3 yf3 y4 yf4
    have z0 := (HX.out.1).at 0 _ rfl
    have z1 := (HX.out.1).at 1 _ rfl
    have z2 := (HX.out.1).at 2 _ rfl
    have z3 := (HX.out.1).at 3 _ rfl
    have z4 := (HX.out.1).at 4 _ rfl
    have z5 := (HX.out.1).at 5 _ rfl
    have y0 := (HX.out.2.1).at 0 _ rfl
    have y1 := (HX.out.2.1).at 1 _ rfl
    have y2 := (HX.out.2.1).at 2 _ rfl
    have y3 := (HX.out.2.1).at 3 _ rfl
    have y4 := (HX.out.2.1).at 4 _ rfl
    refine bodyPost_ret (v := .tuple #[.agg #[.int .i64 i, .int .i64 n, .slice b1 ws.length e1, .slice b2 cs.length e2, .slice b3 ss.length e3, .slice b4 ms.length e4], .agg #[.int .i64 0, .int .i64 0, .int .i64 0, .int .i64 0, .slice none 0 0], .bool false]) (by simp [results, Try.results24, go_sem, *]) rfl ?_
    rw [EA.out]
    exact ⟨b1, e1, b2, e2, b3, e3, b4, e4, none, 0, rfl, HX.out.2.2.2, OwnS.nilB _ _, HX.out.2.2.1.mono hB⟩
  have EA : Hid (askA i n ws cs ss ms = ⟨i, n + 1, ws ++ [⟨6, n + 1⟩], cs, ss, ms, 1, i, 0, n + 1, [], true⟩) := Hid.mk' (by unfold askA; rw [if_neg hm])
  have HO : Hid (ABlk 32 ((W.setCell ⟨w.heap.size, 1, none⟩ (Value.int .i64 (n + 1))).alloc (.cells #[.int .i64 6, .int .i64 (n + 1)] 55)) w.heap.size #[.int .i64 i, .int .i64 (n + 1), .slice b1 ws.length e1, .slice b2 cs.length e2, .slice b3 ss.length e3, .slice b4 ms.length e4] ∧ ABlk 32 ((W.setCell ⟨w.heap.size, 1, none⟩ (Value.int .i64 (n + 1))).alloc (.cells #[.int .i64 6, .int .i64 (n + 1)] 55)) (w.heap.size + 1) #[.int .i64 0, .int .i64 0, .slice none 0 0, .slice none 0 0, .slice none 0 0, .slice none 0 0] ∧ ABlk 35 ((W.setCell ⟨w.heap.size, 1, none⟩ (Value.int .i64 (n + 1))).alloc (.cells #[.int .i64 6, .int .i64 (n + 1)] 55)) (w.heap.size + 1 + 1) #[.int .i64 0, .int .i64 0, .int .i64 0, .int .i64 0, .slice none 0 0] ∧ Below w.heap.size w ((W.setCell ⟨w.heap.size, 1, none⟩ (Value.int .i64 (n + 1))).alloc (.cells #[.int .i64 6, .int .i64 (n + 1)] 55)) ∧ Own4 ((W.setCell ⟨w.heap.size, 1, none⟩ (Value.int .i64 (n + 1))).alloc (.cells #[.int .i64 6, .int .i64 (n + 1)] 55)) B (.slice b1 ws.length e1) (.slice b2 cs.length e2) (.slice b3 ss.length e3) (.slice b4 ms.length e4) ws cs ss ms ∧ NRow celW ((W.setCell ⟨w.heap.size, 1, none⟩ (Value.int .i64 (n + 1))).alloc (.cells #[.int .i64 6, .int .i64 (n + 1)] 55)) (some ⟨W.heap.size, 0, none⟩) [⟨6, n + 1⟩]) := by
    have g7 := setCell_grl W w.heap.size 1 (Value.int .i64 (n + 1))
    have k7 := HB.out.1.set 1 (Value.int .i64 (n + 1))
    have ez : (W.setCell ⟨w.heap.size, 1, none⟩ (Value.int .i64 (n + 1))).heap.size = W.heap.size := by simp
    have e7 := wantNew1 (W.setCell ⟨w.heap.size, 1, none⟩ (Value.int .i64 (n + 1))) 6 (n + 1)
    rw [ez] at e7
    exact ⟨k7.later (Below.alloc_ _ _), (HB.out.2.1.grl g7 (by simp <;> omega)).later (Below.alloc_ _ _), (HB.out.2.2.1.grl g7 (by simp <;> omega)).later (Below.alloc_ _ _), (below_grl HB.out.2.2.2.1 g7 HB.out.2.2.2.1.size (fun k hm => by simp at hm; omega)).trans ((Below.alloc_ _ _).mono (by rw [ez]; omega)), (HB.out.2.2.2.2.grl g7 (HB.out.2.2.2.2.off HB.out.1 (by decide))).later (Below.alloc_ _ _), e7⟩
  clear HB
  go_wp2_with (at_builtin; apply stopHere)
  intro
  refine wpList_app_row celW _ 55 28 16 _ Try.underlying28 infoWant rfl (by omega) rfl (.tmp 15) (.tmp 19) rfl B (.slice b1 ws.length e1) ws rfl HO.out.2.2.2.2.1.o1 (some ⟨W.heap.size, 0, none⟩) [⟨6, n + 1⟩] 1 rfl HO.out.2.2.2.2.2 (by simp; omega) (by simp; omega) ?_
  intro b5 c5 w5 o5 g5
  have EA2 := EA.out
  clear EA
  generalize hWS : (ws ++ [(⟨6, n + 1⟩ : Wn)]) = WS at o5 EA2 ⊢
  have EA : Hid (askA i n ws cs ss ms = ⟨i, n + 1, WS, cs, ss, ms, 1, i, 0, n + 1, [], true⟩) := EA2
  clear EA2 hWS
  have g6 := GrL.of g5
  have H5 : Hid (ABlk 32 w5 w.heap.size #[.int .i64 i, .int .i64 (n + 1), .slice b1 ws.length e1, .slice b2 cs.length e2, .slice b3 ss.length e3, .slice b4 ms.length e4] ∧ ABlk 32 w5 (w.heap.size + 1) #[.int .i64 0, .int .i64 0, .slice none 0 0, .slice none 0 0, .slice none 0 0, .slice none 0 0] ∧ ABlk 35 w5 (w.heap.size + 1 + 1) #[.int .i64 0, .int .i64 0, .int .i64 0, .int .i64 0, .slice none 0 0] ∧ Below B w w5 ∧ Own4 w5 B (.slice b5 WS.length c5) (.slice b2 cs.length e2) (.slice b3 ss.length e3) (.slice b4 ms.length e4) WS cs ss ms) := by
    obtain ⟨q0, q1, q2, qb, q4, _⟩ := HO.out
    generalize ((W.setCell ⟨w.heap.size, 1, none⟩ (Value.int .i64 (n + 1))).alloc (.cells #[.int .i64 6, .int .i64 (n + 1)] 55)) = W9 at g6 q0 q1 q2 q4 qb
    exact ⟨q0.grl g6 (by simp only [List.mem_cons, List.not_mem_nil, or_false]; intro e; exact own_off q0 q4.o1 (by decide) e.symm), q1.grl g6 (by simp only [List.mem_cons, List.not_mem_nil, or_false]; intro e; exact own_off q1 q4.o1 (by decide) e.symm), q2.grl g6 (by simp only [List.mem_cons, List.not_mem_nil, or_false]; intro e; exact own_off q2 q4.o1 (by decide) e.symm), below_grl (qb.mono hB) g6 (Nat.le_trans hB qb.size) (fun k hm => by simp only [List.mem_cons, List.not_mem_nil, or_false] at hm; exact (q4.o1.low k hm.symm).1), ⟨o5, q4.o2.grl g6 (fun k e hm => by simp only [List.mem_cons, List.not_mem_nil, or_false] at hm; exact q4.ne12 k hm.symm e), q4.o3.grl g6 (fun k e hm => by simp only [List.mem_cons, List.not_mem_nil, or_false] at hm; exact q4.ne13 k hm.symm e), q4.o4.grl g6 (fun k e hm => by simp only [List.mem_cons, List.not_mem_nil, or_false] at hm; exact q4.ne14 k hm.symm e), q4.ne⟩⟩
  clear HO g5 g6 o5 pf1 p0 p1 p2 p3 p4 p5 z0 zf0 z1 zf1 z2 zf2 z3 zf3 z4 zf4 z5 zf5 y0 yf0 y1 yf1 y2 yf2 y3 yf3 y4 yf4
  have n2 := H5.out.1.at 2 _ rfl
  have nf2 := H5.out.1.fro 2
  go_wp2_with fail
  clear n2 nf2
  have H6 : Hid (ABlk 32 (w5.setCell ⟨w.heap.size, 2, none⟩ (Value.slice b5 WS.length c5)) w.heap.size #[.int .i64 i, .int .i64 (n + 1), .slice b5 WS.length c5, .slice b2 cs.length e2, .slice b3 ss.length e3, .slice b4 ms.length e4] ∧ ABlk 32 (w5.setCell ⟨w.heap.size, 2, none⟩ (Value.slice b5 WS.length c5)) (w.heap.size + 1) #[.int .i64 0, .int .i64 0, .slice none 0 0, .slice none 0 0, .slice none 0 0, .slice none 0 0] ∧ ABlk 35 (w5.setCell ⟨w.heap.size, 2, none⟩ (Value.slice b5 WS.length c5)) (w.heap.size + 1 + 1) #[.int .i64 0, .int .i64 0, .int .i64 0, .int .i64 0, .slice none 0 0] ∧ Below B w (w5.setCell ⟨w.heap.size, 2, none⟩ (Value.slice b5 WS.length c5)) ∧ Own4 (w5.setCell ⟨w.heap.size, 2, none⟩ (Value.slice b5 WS.length c5)) B (.slice b5 WS.length c5) (.slice b2 cs.length e2) (.slice b3 ss.length e3) (.slice b4 ms.length e4) WS cs ss ms) := by
    have g7 := setCell_grl w5 w.heap.size 2 (Value.slice b5 WS.length c5)
    have k7 := H5.out.1.set 2 (Value.slice b5 WS.length c5)
    exact ⟨k7, H5.out.2.1.grl g7 (by simp <;> omega), H5.out.2.2.1.grl g7 (by simp <;> omega), below_grl H5.out.2.2.2.1 g7 (Nat.le_trans hB H5.out.2.2.2.1.size) (fun k hm => by simp at hm; omega), H5.out.2.2.2.2.grl g7 (H5.out.2.2.2.2.off H5.out.1 (by decide))⟩
  clear H5
  generalize (w5.setCell ⟨w.heap.size, 2, none⟩ (Value.slice b5 WS.length c5)) = w6 at H6 ⊢
  refine wp_region_walk [22, 23, 24, 25, 26, 27, 28, 4] (RgAsS w B i n b2 b3 b4 b5 e2 e3 e4 c5 WS cs ss ms) [0, 1, 2, 3, 4, 5, 6, 7, 8, 9] (by kernel_rfl) (by kernel_rfl) (by kernel_rfl) ?_ ?_ ?_
  · intro s
    exact ⟨H6.out.2.2.2.1.drew, H6.out.1, H6.out.2.2.2.2.later (Below.refl _ _).drew, ⟨_, _, _, _, _, _, H6.out.2.1⟩, fun e => (by cases e), ⟨_, _, _, _, _, H6.out.2.2.1⟩, fun e => (by cases e), fun e => (by cases e), fun e => (by cases e), fun e => (by cases e), fun e => (by cases e), fun e => (by cases e), fun e => (by cases e), fun e => (by cases e), fun e => (by cases e)⟩
  · refine StepsR.cons (k := 0) [] (by kernel_rfl) ?_ (StepsR.cons (k := 1) [] (by kernel_rfl) ?_ (StepsR.cons (k := 2) [1] (by kernel_rfl) ?_ (StepsR.cons (k := 3) [] (by kernel_rfl) ?_ (StepsR.cons (k := 4) [3] (by kernel_rfl) ?_ (StepsR.cons (k := 5) [] (by kernel_rfl) ?_ (StepsR.cons (k := 6) [2, 4, 5] (by kernel_rfl) ?_ (StepsR.cons (k := 7) [0] (by kernel_rfl) ?_ (StepsR.cons (k := 8) [6] (by kernel_rfl) ?_ (StepsR.cons (k := 9) [] (by kernel_rfl) ?_ (StepsR.nil))))))))))
    · intro d s w1 hd hA hC hF K hK
      have hB9 := hF.bel
      simp only [putL, putT, List.setIfInBounds_toArray, List.set_cons_zero, List.set_cons_succ]
      clear hB9
      as_aux_lemma =>
        have p0 := hF.ba.at 0 _ rfl
        have p1 := hF.ba.at 1 _ rfl
        have p2 := hF.ba.at 2 _ rfl
        have p3 := hF.ba.at 3 _ rfl
        have p4 := hF.ba.at 4 _ rfl
        have p5 := hF.ba.at 5 _ rfl
        go_simp
        clear p0 p1 p2 p3 p4 p5
        refine hK.out (updS s 22 (Value.agg #[.int .i64 i, .int .i64 (n + 1), .slice b5 WS.length c5, .slice b2 cs.length e2, .slice b3 ss.length e3, .slice b4 ms.length e4])) _ _ ?_ ⟨hF.bel, hF.ba, hF.o4, hF.r, hF.rv, hF.m, hF.mv, hF.fw, hF.fg, hF.ft, fun _ => rfl, hF.f1, hF.f2, hF.f3, hF.f4⟩
        (simp only [putL, putT, List.setIfInBounds_toArray, List.set_cons_zero, List.set_cons_succ]); rfl
    · intro d s w1 hd hA hC hF K hK
      have hB9 := hF.bel
      simp only [putL, putT, List.setIfInBounds_toArray, List.set_cons_zero, List.set_cons_succ]
      clear hB9
      as_aux_lemma =>
        go_simp
        refine hK.out (updS s 23 (Value.pointer (some ⟨w.heap.size, 0, none⟩))) _ _ ?_ ⟨hF.bel, hF.ba, hF.o4, hF.r, hF.rv, hF.m, hF.mv, hF.fw, hF.fg, hF.ft, hF.f0, fun _ => rfl, hF.f2, hF.f3, hF.f4⟩
        (simp only [putL, putT, List.setIfInBounds_toArray, List.set_cons_zero, List.set_cons_succ]); rfl
    · intro d s w1 hd hA hC hF K hK
      have hB9 := hF.bel
      simp only [putL, putT, List.setIfInBounds_toArray, List.set_cons_zero, List.set_cons_succ]
      clear hB9
      as_aux_lemma =>
        have p0 := hF.ba.at 0 _ rfl
        have e0 := hF.f1 (hA.1)
        rw [e0]
        go_simp
        clear p0
        refine hK.out (updS s 24 (Value.int .i64 i)) _ _ ?_ ⟨hF.bel, hF.ba, hF.o4, hF.r, hF.rv, hF.m, hF.mv, hF.fw, hF.fg, hF.ft, hF.f0, hF.f1, fun _ => rfl, hF.f3, hF.f4⟩
        (simp only [putL, putT, List.setIfInBounds_toArray, List.set_cons_zero, List.set_cons_succ]); rw [← e0]; (try rfl)
    · intro d s w1 hd hA hC hF K hK
      have hB9 := hF.bel
      simp only [putL, putT, List.setIfInBounds_toArray, List.set_cons_zero, List.set_cons_succ]
      clear hB9
      as_aux_lemma =>
        go_simp
        refine hK.out (updS s 25 (Value.pointer (some ⟨w.heap.size, 1, none⟩))) _ _ ?_ ⟨hF.bel, hF.ba, hF.o4, hF.r, hF.rv, hF.m, hF.mv, hF.fw, hF.fg, hF.ft, hF.f0, hF.f1, hF.f2, fun _ => rfl, hF.f4⟩
        (simp only [putL, putT, List.setIfInBounds_toArray, List.set_cons_zero, List.set_cons_succ]); rfl
    · intro d s w1 hd hA hC hF K hK
      have hB9 := hF.bel
      simp only [putL, putT, List.setIfInBounds_toArray, List.set_cons_zero, List.set_cons_succ]
      clear hB9
      as_aux_lemma =>
        have p0 := hF.ba.at 1 _ rfl
        have e0 := hF.f3 (hA.1)
        rw [e0]
        go_simp
        clear p0
        refine hK.out (updS s 26 (Value.int .i64 (n + 1))) _ _ ?_ ⟨hF.bel, hF.ba, hF.o4, hF.r, hF.rv, hF.m, hF.mv, hF.fw, hF.fg, hF.ft, hF.f0, hF.f1, hF.f2, hF.f3, fun _ => rfl⟩
        (simp only [putL, putT, List.setIfInBounds_toArray, List.set_cons_zero, List.set_cons_succ]); rw [← e0]; (try rfl)
    · intro d s w1 hd hA hC hF K hK
      have hB9 := hF.bel
      simp only [putL, putT, List.setIfInBounds_toArray, List.set_cons_zero, List.set_cons_succ]
      clear hB9
      as_aux_lemma =>
        go_simp
        have b9 : Below w1.heap.size w1 (w1.alloc (.cells #[] 66)) := Below.alloc_ _ _
        have N9 : OwnS (w1.alloc (.cells #[] 66)) w.heap.size (.slice (some ⟨w1.heap.size, 0, none⟩) 0 0) [] := OwnS.zero w1 hF.bel.size
        have hF2 := RgAsS.later hB hF b9
        refine hK.out (updS s 27 (Value.slice (some ⟨w1.heap.size, 0, none⟩) 0 0)) _ _ ?_ ⟨hF2.bel, hF2.ba, hF2.o4, hF2.r, hF2.rv, hF2.m, hF2.mv, hF2.fw, fun _ => ⟨_, rfl, N9⟩, hF2.ft, hF2.f0, hF2.f1, hF2.f2, hF2.f3, hF2.f4⟩
        (simp only [putL, putT, List.setIfInBounds_toArray, List.set_cons_zero, List.set_cons_succ]); rfl
    · intro d s w1 hd hA hC hF K hK
      have hB9 := hF.bel
      simp only [putL, putT, List.setIfInBounds_toArray, List.set_cons_zero, List.set_cons_succ]
      clear hB9
      as_aux_lemma =>
        have e0 := hF.f2 (hA.1)
        have e1 := hF.f4 (hA.2.1)
        obtain ⟨g, eg, og⟩ := hF.fg (hA.2.2.1)
        rw [e0, e1, eg]
        simp only [Region.wanted, if_true]
        refine wp_built 35 _ _ _ rfl (by simp only [List.map_toArray, List.map_cons, List.map_nil]; rfl) (bldMsgS w1 1 i (n + 1) g) ?_
        refine hK.out (updS s 28 (Value.agg #[.int .i64 1, .int .i64 i, .int .i64 0, .int .i64 (n + 1), .slice (some ⟨g, 0, none⟩) 0 0])) _ _ ?_ ⟨hF.bel, hF.ba, hF.o4, hF.r, hF.rv, hF.m, hF.mv, fun _ => ⟨g, rfl, og⟩, hF.fg, hF.ft, hF.f0, hF.f1, hF.f2, hF.f3, hF.f4⟩
        (simp only [putL, putT, List.setIfInBounds_toArray, List.set_cons_zero, List.set_cons_succ]); rw [← e0, ← e1, ← eg]; (try rfl)
    · intro d s w1 hd hA hC hF K hK
      have hB9 := hF.bel
      simp only [putL, putT, List.setIfInBounds_toArray, List.set_cons_zero, List.set_cons_succ]
      clear hB9
      as_aux_lemma =>
        obtain ⟨x0, x1, x2, x3, x4, x5, hr⟩ := hF.r
        have e0 := hF.f0 (hA.1)
        have z0 := hr.at 0 _ rfl
        have z1 := hr.at 1 _ rfl
        have z2 := hr.at 2 _ rfl
        have z3 := hr.at 3 _ rfl
        have z4 := hr.at 4 _ rfl
        have z5 := hr.at 5 _ rfl
        have zf0 := hr.fro 0
        have zf1 := hr.fro 1
        have zf2 := hr.fro 2
        have zf3 := hr.fro 3
        have zf4 := hr.fro 4
        have zf5 := hr.fro 5
        have HR : Hid (ABlk 32 w1 (w.heap.size + 1) #[x0, x1, x2, x3, x4, x5]) := hr
        clear hr
        rw [e0]
        go_simp
        clear z0 zf0 z1 zf1 z2 zf2 z3 zf3 z4 zf4 z5 zf5
        have g9 : GrL w1 ((((((w1.setCell ⟨w.heap.size + 1, 0, none⟩ (Value.int .i64 i)).setCell ⟨w.heap.size + 1, 1, none⟩ (Value.int .i64 (n + 1))).setCell ⟨w.heap.size + 1, 2, none⟩ (Value.slice b5 WS.length c5)).setCell ⟨w.heap.size + 1, 3, none⟩ (Value.slice b2 cs.length e2)).setCell ⟨w.heap.size + 1, 4, none⟩ (Value.slice b3 ss.length e3)).setCell ⟨w.heap.size + 1, 5, none⟩ (Value.slice b4 ms.length e4)) [some (w.heap.size + 1)] := put6_grl _ _ _ _ _ _ _ _
        have K1 : ABlk 32 ((((((w1.setCell ⟨w.heap.size + 1, 0, none⟩ (Value.int .i64 i)).setCell ⟨w.heap.size + 1, 1, none⟩ (Value.int .i64 (n + 1))).setCell ⟨w.heap.size + 1, 2, none⟩ (Value.slice b5 WS.length c5)).setCell ⟨w.heap.size + 1, 3, none⟩ (Value.slice b2 cs.length e2)).setCell ⟨w.heap.size + 1, 4, none⟩ (Value.slice b3 ss.length e3)).setCell ⟨w.heap.size + 1, 5, none⟩ (Value.slice b4 ms.length e4)) (w.heap.size + 1) #[Value.int .i64 i, Value.int .i64 (n + 1), Value.slice b5 WS.length c5, Value.slice b2 cs.length e2, Value.slice b3 ss.length e3, Value.slice b4 ms.length e4] := HR.out.put6 _ _ _ _ _ _
        generalize ((((((w1.setCell ⟨w.heap.size + 1, 0, none⟩ (Value.int .i64 i)).setCell ⟨w.heap.size + 1, 1, none⟩ (Value.int .i64 (n + 1))).setCell ⟨w.heap.size + 1, 2, none⟩ (Value.slice b5 WS.length c5)).setCell ⟨w.heap.size + 1, 3, none⟩ (Value.slice b2 cs.length e2)).setCell ⟨w.heap.size + 1, 4, none⟩ (Value.slice b3 ss.length e3)).setCell ⟨w.heap.size + 1, 5, none⟩ (Value.slice b4 ms.length e4)) = W at g9 K1 ⊢
        refine hK.out s _ _ ?_ ⟨hF.bel.trans (g9.below (by have h7 := hF.bel.size; omega) (fun k hk => by simp at hk; omega)), hF.ba.grl g9 (by simp <;> omega), hF.o4.grl g9 (hF.o4.off HR.out ⟨by decide, by decide, by decide⟩), ⟨_, _, _, _, _, _, K1⟩, fun _ => K1, (by obtain ⟨y0, y1, y2, y3, y4, h1⟩ := hF.m; exact ⟨y0, y1, y2, y3, y4, h1.grl g9 (by simp <;> omega)⟩), fun e => (by obtain ⟨g, h1, h2⟩ := hF.mv e; exact ⟨g, h1.grl g9 (by simp <;> omega), h2.grl g9 (h2.offB HR.out (by decide))⟩), fun e => (by obtain ⟨g, h1, h2⟩ := hF.fw e; exact ⟨g, h1, h2.grl g9 (h2.offB HR.out (by decide))⟩), fun e => (by obtain ⟨g, h1, h2⟩ := hF.fg e; exact ⟨g, h1, h2.grl g9 (h2.offB HR.out (by decide))⟩), hF.ft, hF.f0, hF.f1, hF.f2, hF.f3, hF.f4⟩
        (simp only [putL, putT, List.setIfInBounds_toArray, List.set_cons_zero, List.set_cons_succ]); rw [← e0]; (try rfl)
    · intro d s w1 hd hA hC hF K hK
      have hB9 := hF.bel
      simp only [putL, putT, List.setIfInBounds_toArray, List.set_cons_zero, List.set_cons_succ]
      clear hB9
      as_aux_lemma =>
        obtain ⟨y0, y1, y2, y3, y4, hr⟩ := hF.m
        obtain ⟨g, e0, og⟩ := hF.fw (hA.1)
        have z0 := hr.at 0 _ rfl
        have z1 := hr.at 1 _ rfl
        have z2 := hr.at 2 _ rfl
        have z3 := hr.at 3 _ rfl
        have z4 := hr.at 4 _ rfl
        have zf0 := hr.fro 0
        have zf1 := hr.fro 1
        have zf2 := hr.fro 2
        have zf3 := hr.fro 3
        have zf4 := hr.fro 4
        have HR : Hid (ABlk 35 w1 (w.heap.size + 1 + 1) #[y0, y1, y2, y3, y4]) := hr
        clear hr
        have OG : Hid (OwnS w1 w.heap.size (.slice (some ⟨g, 0, none⟩) 0 0) []) := og
        clear og
        rw [e0]
        go_simp
        clear z0 zf0 z1 zf1 z2 zf2 z3 zf3 z4 zf4
        have g9 : GrL w1 (((((w1.setCell ⟨w.heap.size + 1 + 1, 0, none⟩ (Value.int .i64 1)).setCell ⟨w.heap.size + 1 + 1, 1, none⟩ (Value.int .i64 i)).setCell ⟨w.heap.size + 1 + 1, 2, none⟩ (Value.int .i64 0)).setCell ⟨w.heap.size + 1 + 1, 3, none⟩ (Value.int .i64 (n + 1))).setCell ⟨w.heap.size + 1 + 1, 4, none⟩ (Value.slice (some ⟨g, 0, none⟩) 0 0)) [some (w.heap.size + 1 + 1)] := put5_grl _ _ _ _ _ _ _
        have K1 : ABlk 35 (((((w1.setCell ⟨w.heap.size + 1 + 1, 0, none⟩ (Value.int .i64 1)).setCell ⟨w.heap.size + 1 + 1, 1, none⟩ (Value.int .i64 i)).setCell ⟨w.heap.size + 1 + 1, 2, none⟩ (Value.int .i64 0)).setCell ⟨w.heap.size + 1 + 1, 3, none⟩ (Value.int .i64 (n + 1))).setCell ⟨w.heap.size + 1 + 1, 4, none⟩ (Value.slice (some ⟨g, 0, none⟩) 0 0)) (w.heap.size + 1 + 1) #[Value.int .i64 1, Value.int .i64 i, Value.int .i64 0, Value.int .i64 (n + 1), Value.slice (some ⟨g, 0, none⟩) 0 0] := HR.out.put5 _ _ _ _ _
        generalize (((((w1.setCell ⟨w.heap.size + 1 + 1, 0, none⟩ (Value.int .i64 1)).setCell ⟨w.heap.size + 1 + 1, 1, none⟩ (Value.int .i64 i)).setCell ⟨w.heap.size + 1 + 1, 2, none⟩ (Value.int .i64 0)).setCell ⟨w.heap.size + 1 + 1, 3, none⟩ (Value.int .i64 (n + 1))).setCell ⟨w.heap.size + 1 + 1, 4, none⟩ (Value.slice (some ⟨g, 0, none⟩) 0 0)) = W at g9 K1 ⊢
        have O9 : OwnS W w.heap.size (.slice (some ⟨g, 0, none⟩) 0 0) [] := OG.out.grl g9 (OG.out.offB HR.out (by decide))
        refine hK.out s _ _ ?_ ⟨hF.bel.trans (g9.below (by have h7 := hF.bel.size; omega) (fun k hk => by simp at hk; omega)), hF.ba.grl g9 (by simp <;> omega), hF.o4.grl g9 (hF.o4.off HR.out ⟨by decide, by decide, by decide⟩), (by obtain ⟨x0, x1, x2, x3, x4, x5, h1⟩ := hF.r; exact ⟨x0, x1, x2, x3, x4, x5, h1.grl g9 (by simp <;> omega)⟩), fun e => (hF.rv e).grl g9 (by simp <;> omega), ⟨_, _, _, _, _, K1⟩, fun _ => ⟨g, K1, O9⟩, fun e => (by obtain ⟨g, h1, h2⟩ := hF.fw e; exact ⟨g, h1, h2.grl g9 (h2.offB HR.out (by decide))⟩), fun e => (by obtain ⟨g, h1, h2⟩ := hF.fg e; exact ⟨g, h1, h2.grl g9 (h2.offB HR.out (by decide))⟩), hF.ft, hF.f0, hF.f1, hF.f2, hF.f3, hF.f4⟩
        (simp only [putL, putT, List.setIfInBounds_toArray, List.set_cons_zero, List.set_cons_succ]); rw [← e0]; (try rfl)
    · intro d s w1 hd hA hC hF K hK
      have hB9 := hF.bel
      simp only [putL, putT, List.setIfInBounds_toArray, List.set_cons_zero, List.set_cons_succ]
      clear hB9
      as_aux_lemma =>
        go_simp
        refine hK.out (updS s 4 (Value.bool true)) _ _ ?_ ⟨hF.bel, hF.ba, hF.o4, hF.r, hF.rv, hF.m, hF.mv, hF.fw, hF.fg, fun _ => rfl, hF.f0, hF.f1, hF.f2, hF.f3, hF.f4⟩
        (simp only [putL, putT, List.setIfInBounds_toArray, List.set_cons_zero, List.set_cons_succ]); rfl
  · intro d s w1 hA hF
    have e0 := hF.ft (hA.2.2.2.2.2.2.2.2.2.1)
    have hr := hF.rv (hA.2.2.2.2.2.2.2.1)
    obtain ⟨g, hm, og⟩ := hF.mv (hA.2.2.2.2.2.2.2.2.1)
    have z0 := hr.at 0 _ rfl
    have z1 := hr.at 1 _ rfl
    have z2 := hr.at 2 _ rfl
    have z3 := hr.at 3 _ rfl
    have z4 := hr.at 4 _ rfl
    have z5 := hr.at 5 _ rfl
    have y0 := hm.at 0 _ rfl
    have y1 := hm.at 1 _ rfl
    have y2 := hm.at 2 _ rfl
    have y3 := hm.at 3 _ rfl
    have y4 := hm.at 4 _ rfl
    have HE : Hid ((Own4 w1 B (.slice b5 WS.length c5) (.slice b2 cs.length e2) (.slice b3 ss.length e3) (.slice b4 ms.length e4) WS cs ss ms) ∧ OwnS w1 w.heap.size (.slice (some ⟨g, 0, none⟩) 0 0) [] ∧ Below B w w1) := ⟨hF.o4, og, hF.bel⟩
    clear hF hA hr hm og
    simp only [putL, putT, List.setIfInBounds_toArray, List.set_cons_zero, List.set_cons_succ]
    rw [e0]
    clear e0
    go_wp2_with fail
    refine bodyPost_ret (v := .tuple #[.agg #[.int .i64 i, .int .i64 (n + 1), .slice b5 WS.length c5, .slice b2 cs.length e2, .slice b3 ss.length e3, .slice b4 ms.length e4], .agg #[.int .i64 1, .int .i64 i, .int .i64 0, .int .i64 (n + 1), .slice (some ⟨g, 0, none⟩) 0 0], .bool true]) (by simp [results, Try.results24, go_sem, *]) rfl ?_
    rw [EA.out]
    exact ⟨b5, c5, b2, e2, b3, e3, b4, e4, some ⟨g, 0, none⟩, 0, rfl, HE.out.1, HE.out.2.1.lessB hB, HE.out.2.2⟩

set_option maxHeartbeats 8000000 in
set_option maxRecDepth 100000 in
theorem specClientAs_any (i n : Int) (a1 a2 a3 a4 : Option Addr) (c1 c2 c3 c4 : Nat) (ws : List Wn) (cs : List Cd) (ss ms : List Ca) (w : World) (h : CRows w a1 a2 a3 a4 ws cs ss ms) (hc4 : ms.length ≤ c4) (hx1 : ws.length ≤ 1048576) (hx2 : cs.length ≤ 1048576) (hx3 : ss.length ≤ 1048576) (hx4 : ms.length ≤ 1048576) :
    Calls Try.prog 7 #[.agg #[.int .i64 i, .int .i64 n, .slice a1 ws.length c1, .slice a2 cs.length c2, .slice a3 ss.length c3, .slice a4 ms.length c4]] w fun r w' => ClRet w.heap.size w w' (asA i n ws cs ss ms) r := by
  obtain ⟨W, hW⟩ : ∃ W, W = (((w.alloc (.cells #[.int .i64 i, .int .i64 n, .slice a1 ws.length c1, .slice a2 cs.length c2, .slice a3 ss.length c3, .slice a4 ms.length c4] 32)).alloc (.cells #[.int .i64 0, .int .i64 0, .slice none 0 0, .slice none 0 0, .slice none 0 0, .slice none 0 0] 32)).alloc (.cells #[.int .i64 0, .int .i64 0, .int .i64 0, .int .i64 0, .slice none 0 0] 35)) := ⟨_, rfl⟩
  have HB : Hid (ABlk 32 W w.heap.size #[.int .i64 i, .int .i64 n, .slice a1 ws.length c1, .slice a2 cs.length c2, .slice a3 ss.length c3, .slice a4 ms.length c4] ∧ ABlk 32 W (w.heap.size + 1) #[.int .i64 0, .int .i64 0, .slice none 0 0, .slice none 0 0, .slice none 0 0, .slice none 0 0] ∧ ABlk 35 W (w.heap.size + 1 + 1) #[.int .i64 0, .int .i64 0, .int .i64 0, .int .i64 0, .slice none 0 0] ∧ Below w.heap.size w W ∧ CRows W a1 a2 a3 a4 ws cs ss ms) := by
    have hb : Below w.heap.size w W := by
      rw [hW]
      exact (((Below.refl _ _).alloc (Nat.le_refl _) _).alloc (by simp) _).alloc (by simp; omega) _
    refine ⟨?_, ?_, ?_, hb, h.later hb⟩
    · rw [hW]
      exact ((ABlk.new _ _ _).later (Below.alloc_ _ _)).later (Below.alloc_ _ _)
    · rw [hW]
      have e := ABlk.new (w.alloc (.cells #[.int .i64 i, .int .i64 n, .slice a1 ws.length c1, .slice a2 cs.length c2, .slice a3 ss.length c3, .slice a4 ms.length c4] 32)) 32 #[.int .i64 0, .int .i64 0, .slice none 0 0, .slice none 0 0, .slice none 0 0, .slice none 0 0]
      rw [World.size_alloc] at e
      exact e.later (Below.alloc_ _ _)
    · rw [hW]
      have e := ABlk.new ((w.alloc (.cells #[.int .i64 i, .int .i64 n, .slice a1 ws.length c1, .slice a2 cs.length c2, .slice a3 ss.length c3, .slice a4 ms.length c4] 32)).alloc (.cells #[.int .i64 0, .int .i64 0, .slice none 0 0, .slice none 0 0, .slice none 0 0, .slice none 0 0] 32)) 35 #[.int .i64 0, .int .i64 0, .int .i64 0, .int .i64 0, .slice none 0 0]
      rw [World.size_alloc, World.size_alloc] at e
      exact e
  clear h
  go_enter Try.func7, Try.ntmps7
  go_wp2_with fail
  rw [← hW]
  clear hW
  refine (specClientOk_any i n _ _ _ _ _ _ _ _ ws cs ss ms _ HB.out.2.2.2.2 hc4 hx1 hx2 hx3 hx4).mono ?_
  rintro r w1 ⟨rfl, b9⟩
  have H1 : Hid (ABlk 32 w1 w.heap.size #[.int .i64 i, .int .i64 n, .slice a1 ws.length c1, .slice a2 cs.length c2, .slice a3 ss.length c3, .slice a4 ms.length c4] ∧ ABlk 32 w1 (w.heap.size + 1) #[.int .i64 0, .int .i64 0, .slice none 0 0, .slice none 0 0, .slice none 0 0, .slice none 0 0] ∧ ABlk 35 w1 (w.heap.size + 1 + 1) #[.int .i64 0, .int .i64 0, .int .i64 0, .int .i64 0, .slice none 0 0] ∧ Below w.heap.size w w1 ∧ CRows w1 a1 a2 a3 a4 ws cs ss ms) := ⟨HB.out.1.later b9, HB.out.2.1.later b9, HB.out.2.2.1.later b9, HB.out.2.2.2.1.trans (b9.mono HB.out.2.2.2.1.size), HB.out.2.2.2.2.later b9⟩
  clear HB b9
  have z0 := (H1.out.2.1).at 0 _ rfl
  have zf0 := (H1.out.2.1).fro 0
  have z1 := (H1.out.2.1).at 1 _ rfl
  have zf1 := (H1.out.2.1).fro 1
  have z2 := (H1.out.2.1).at 2 _ rfl
  have zf2 := (H1.out.2.1).fro 2
  have z3 := (H1.out.2.1).at 3 _ rfl
  have zf3 := (H1.out.2.1).fro 3
  have z4 := (H1.out.2.1).at 4 _ rfl
  have zf4 := (H1.out.2.1).fro 4
  have z5 := (H1.out.2.1).at 5 _ rfl
  have zf5 := (H1.out.2.1).fro 5
  have y0 := (H1.out.2.2.1).at 0 _ rfl
  have yf0 := (H1.out.2.2.1).fro 0
  have y1 := (H1.out.2.2.1).at 1 _ rfl
  have yf1 := (H1.out.2.2.1).fro 1
  have y2 := (H1.out.2.2.1).at 2 _ rfl
  have yf2 := (H1.out.2.2.1).fro 2
  have y3 := (H1.out.2.2.1).at 3 _ rfl
  have yf3 := (H1.out.2.2.1).fro 3
  have y4 := (H1.out.2.2.1).at 4 _ rfl
  have yf4 := (H1.out.2.2.1).fro 4
  cases u1 : clientB i n ws cs ss ms
  · have EA : Hid (asA i n ws cs ss ms = noA) := Hid.mk' (by unfold asA; rw [if_neg (by rw [u1]; decide)])
    obtain ⟨V, hV, gV, rV, mV⟩ := res2 (R := w.heap.size + 1) H1.out.2.1 H1.out.2.2.1 (Value.int .i64 0) (Value.int .i64 0) (Value.slice none 0 0) (Value.slice none 0 0) (Value.slice none 0 0) (Value.slice none 0 0) (Value.int .i64 0) (Value.int .i64 0) (Value.int .i64 0) (Value.int .i64 0) (Value.slice none 0 0)
    have HV : Hid (ABlk 32 V (w.heap.size + 1) #[.int .i64 0, .int .i64 0, .slice none 0 0, .slice none 0 0, .slice none 0 0, .slice none 0 0] ∧ ABlk 35 V (w.heap.size + 1 + 1) #[.int .i64 0, .int .i64 0, .int .i64 0, .int .i64 0, .slice none 0 0] ∧ Below w.heap.size w V) := ⟨rV, mV, H1.out.2.2.2.1.trans (gV.below H1.out.2.2.2.1.size (fun k hk => by simp at hk; omega))⟩
    clear gV rV mV
    go_wp2_with fail
    rw [← hV]
    clear hV z0 zf0 z1 zf1 z2 zf2 z3 zf3 z4 zf4 z5 zf5 y0 yf0 y1 yf1 y2 yf2 y3 yf3 y4 yf4
    have z0 := (HV.out.1).at 0 _ rfl
    have z1 := (HV.out.1).at 1 _ rfl
    have z2 := (HV.out.1).at 2 _ rfl
    have z3 := (HV.out.1).at 3 _ rfl
    have z4 := (HV.out.1).at 4 _ rfl
    have z5 := (HV.out.1).at 5 _ rfl
    have y0 := (HV.out.2.1).at 0 _ rfl
    have y1 := (HV.out.2.1).at 1 _ rfl
    have y2 := (HV.out.2.1).at 2 _ rfl
    have y3 := (HV.out.2.1).at 3 _ rfl
    have y4 := (HV.out.2.1).at 4 _ rfl
    refine bodyPost_ret (v := .tuple #[.agg #[.int .i64 0, .int .i64 0, .slice none 0 0, .slice none 0 0, .slice none 0 0, .slice none 0 0], .agg #[.int .i64 0, .int .i64 0, .int .i64 0, .int .i64 0, .slice none 0 0], .bool false]) (by simp [results, Try.results7, go_sem, *]) rfl ?_
    rw [EA.out]
    exact ⟨none, 0, none, 0, none, 0, none, 0, none, 0, rfl, Own4.nil _ _, OwnS.nilB _ _, HV.out.2.2⟩
  have hb := clientB_num u1
  have EA : Hid (asA i n ws cs ss ms = askA i n ws cs ss ms) := Hid.mk' (by unfold asA; rw [if_pos u1]; rfl)
  have p0 := H1.out.1.at 0 _ rfl
  have p1 := H1.out.1.at 1 _ rfl
  have p2 := H1.out.1.at 2 _ rfl
  have p3 := H1.out.1.at 3 _ rfl
  have p4 := H1.out.1.at 4 _ rfl
  have p5 := H1.out.1.at 5 _ rfl
  go_wp2_with fail
  clear p0 p1 p2 p3 p4 p5 z0 zf0 z1 zf1 z2 zf2 z3 zf3 z4 zf4 z5 zf5 y0 yf0 y1 yf1 y2 yf2 y3 yf3 y4 yf4
  refine (l12Copy_any i n _ _ _ _ _ _ _ _ ws cs ss ms _ H1.out.2.2.2.2 hx1 hx2 hx3 hx4).mono ?_
  rintro r w2 ⟨b1, b2, b3, b4, e1, e2, e3, e4, rfl, o4, b9⟩
  have hB : w.heap.size ≤ w1.heap.size := H1.out.2.2.2.1.size
  have hB2 : w1.heap.size ≤ w2.heap.size := b9.size
  obtain ⟨l1, l2, l3⟩ : w.heap.size < w1.heap.size ∧ w.heap.size + 1 < w1.heap.size ∧ w.heap.size + 1 + 1 < w1.heap.size := ⟨H1.out.1.lt, H1.out.2.1.lt, H1.out.2.2.1.lt⟩
  have H2 : Hid (ABlk 32 w2 (w.heap.size + 1) #[.int .i64 0, .int .i64 0, .slice none 0 0, .slice none 0 0, .slice none 0 0, .slice none 0 0] ∧ ABlk 35 w2 (w.heap.size + 1 + 1) #[.int .i64 0, .int .i64 0, .int .i64 0, .int .i64 0, .slice none 0 0] ∧ Below w.heap.size w w2 ∧ Own4 w2 w1.heap.size (.slice b1 ws.length e1) (.slice b2 cs.length e2) (.slice b3 ss.length e3) (.slice b4 ms.length e4) ws cs ss ms) := ⟨H1.out.2.1.later b9, H1.out.2.2.1.later b9, H1.out.2.2.2.1.trans (b9.mono hB), o4⟩
  clear H1 o4 b9
  go_wp2_with fail
  refine (l12As_any i n _ _ _ _ _ _ _ _ ws cs ss ms _ w1.heap.size hB2 H2.out.2.2.2 (by omega) hx1).mono ?_
  generalize askA i n ws cs ss ms = X at EA
  rintro r w3 ⟨b5, e5, b6, e6, b7, e7, b8, e8, b10, e10, rfl, o4, oS, b9⟩
  have H3 : Hid (ABlk 32 w3 (w.heap.size + 1) #[.int .i64 0, .int .i64 0, .slice none 0 0, .slice none 0 0, .slice none 0 0, .slice none 0 0] ∧ ABlk 35 w3 (w.heap.size + 1 + 1) #[.int .i64 0, .int .i64 0, .int .i64 0, .int .i64 0, .slice none 0 0] ∧ Below w.heap.size w w3 ∧ Own4 w3 w1.heap.size (.slice b5 X.W.length e5) (.slice b6 X.C.length e6) (.slice b7 X.S.length e7) (.slice b8 X.M.length e8) X.W X.C X.S X.M ∧ OwnS w3 w1.heap.size (.slice b10 X.Y.length e10) X.Y) := ⟨H2.out.1.base b9 l2, H2.out.2.1.base b9 l3, H2.out.2.2.1.trans (b9.mono hB), o4, oS⟩
  clear H2 o4 oS b9
  have z0 := (H3.out.1).at 0 _ rfl
  have zf0 := (H3.out.1).fro 0
  have z1 := (H3.out.1).at 1 _ rfl
  have zf1 := (H3.out.1).fro 1
  have z2 := (H3.out.1).at 2 _ rfl
  have zf2 := (H3.out.1).fro 2
  have z3 := (H3.out.1).at 3 _ rfl
  have zf3 := (H3.out.1).fro 3
  have z4 := (H3.out.1).at 4 _ rfl
  have zf4 := (H3.out.1).fro 4
  have z5 := (H3.out.1).at 5 _ rfl
  have zf5 := (H3.out.1).fro 5
  have y0 := (H3.out.2.1).at 0 _ rfl
  have yf0 := (H3.out.2.1).fro 0
  have y1 := (H3.out.2.1).at 1 _ rfl
  have yf1 := (H3.out.2.1).fro 1
  have y2 := (H3.out.2.1).at 2 _ rfl
  have yf2 := (H3.out.2.1).fro 2
  have y3 := (H3.out.2.1).at 3 _ rfl
  have yf3 := (H3.out.2.1).fro 3
  have y4 := (H3.out.2.1).at 4 _ rfl
  have yf4 := (H3.out.2.1).fro 4
  obtain ⟨V, hV, gV, rV, mV⟩ := res2 (R := w.heap.size + 1) H3.out.1 H3.out.2.1 (Value.int .i64 X.i) (Value.int .i64 X.n) (Value.slice b5 X.W.length e5) (Value.slice b6 X.C.length e6) (Value.slice b7 X.S.length e7) (Value.slice b8 X.M.length e8) (Value.int .i64 X.k) (Value.int .i64 X.c) (Value.int .i64 X.s) (Value.int .i64 X.f) (Value.slice b10 X.Y.length e10)
  have HV : Hid (ABlk 32 V (w.heap.size + 1) #[(Value.int .i64 X.i), (Value.int .i64 X.n), (Value.slice b5 X.W.length e5), (Value.slice b6 X.C.length e6), (Value.slice b7 X.S.length e7), (Value.slice b8 X.M.length e8)] ∧ ABlk 35 V (w.heap.size + 1 + 1) #[(Value.int .i64 X.k), (Value.int .i64 X.c), (Value.int .i64 X.s), (Value.int .i64 X.f), (Value.slice b10 X.Y.length e10)] ∧ Below w.heap.size w V ∧ Own4 V w1.heap.size (.slice b5 X.W.length e5) (.slice b6 X.C.length e6) (.slice b7 X.S.length e7) (.slice b8 X.M.length e8) X.W X.C X.S X.M ∧ OwnS V w1.heap.size (.slice b10 X.Y.length e10) X.Y) := ⟨rV, mV, H3.out.2.2.1.trans (gV.below H3.out.2.2.1.size (fun k hk => by simp at hk; omega)), H3.out.2.2.2.1.grl gV (H3.out.2.2.2.1.offs H3.out.1 H3.out.2.1), H3.out.2.2.2.2.grl gV (H3.out.2.2.2.2.offs H3.out.1 H3.out.2.1)⟩
  clear gV rV mV H3
  go_wp2_with fail
  rw [← hV]
  clear hV z0 zf0 z1 zf1 z2 zf2 z3 zf3 z4 zf4 z5 zf5 y0 yf0 y1 yf1 y2 yf2 y3 yf3 y4 yf4
  have z0 := (HV.out.1).at 0 _ rfl
  have z1 := (HV.out.1).at 1 _ rfl
  have z2 := (HV.out.1).at 2 _ rfl
  have z3 := (HV.out.1).at 3 _ rfl
  have z4 := (HV.out.1).at 4 _ rfl
  have z5 := (HV.out.1).at 5 _ rfl
  have y0 := (HV.out.2.1).at 0 _ rfl
  have y1 := (HV.out.2.1).at 1 _ rfl
  have y2 := (HV.out.2.1).at 2 _ rfl
  have y3 := (HV.out.2.1).at 3 _ rfl
  have y4 := (HV.out.2.1).at 4 _ rfl
  refine bodyPost_ret (v := .tuple #[.agg #[(Value.int .i64 X.i), (Value.int .i64 X.n), (Value.slice b5 X.W.length e5), (Value.slice b6 X.C.length e6), (Value.slice b7 X.S.length e7), (Value.slice b8 X.M.length e8)], .agg #[(Value.int .i64 X.k), (Value.int .i64 X.c), (Value.int .i64 X.s), (Value.int .i64 X.f), (Value.slice b10 X.Y.length e10)], .bool X.T]) (by simp [results, Try.results7, go_sem, *]) rfl ?_
  rw [EA.out]
  exact ⟨b5, e5, b6, e6, b7, e7, b8, e8, b10, e10, rfl, HV.out.2.2.2.1.lessB hB, HV.out.2.2.2.2.lessB hB, HV.out.2.2.1⟩

end Go.Proofs.Ythhdddcgkoaieaa
