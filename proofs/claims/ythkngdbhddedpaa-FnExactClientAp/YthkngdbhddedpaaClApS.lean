/-
  Who calls: what the specification answers.
-/
import Derived.Test.YthkngdbhddedpaaClTgsS
namespace Go.Proofs.Ythkngdbhddedpaa
open Go.RowKit
attribute [local go_sem ↓] Go.wp_at_zero Go.wp_at_succ

set_option maxHeartbeats 8000000 in
set_option maxRecDepth 100000 in
theorem l12Ap_any (i n : Int) (b1 b2 b3 b4 : Option Addr) (e1 e2 e3 e4 : Nat) (ws : List Wn) (cs : List Cd) (ss ms : List Ca) (serv now : Int) (x : Cd) (lb : Bool) (w : World) (B : Nat) (hB : B ≤ w.heap.size) (h : Own4 w B (.slice b1 ws.length e1) (.slice b2 cs.length e2) (.slice b3 ss.length e3) (.slice b4 ms.length e4) ws cs ss ms) (hn : 0 ≤ n ∧ n ≤ 60) (_hx1 : ws.length ≤ 1048576) (hx2 : cs.length ≤ 1048576) (hx3 : ss.length ≤ 1048576) (hc : HasC serv now cs x lb) :
    Calls Try.prog 45 #[.agg #[.int .i64 i, .int .i64 n, .slice b1 ws.length e1, .slice b2 cs.length e2, .slice b3 ss.length e3, .slice b4 ms.length e4], .int .i64 serv, .int .i64 now] w fun r w' => ClRet B w w' (askP i n ws cs ss ms serv now x lb) r := by
  go_enter Try.func45, Try.ntmps45
  go_wp2_with fail
  obtain ⟨w1, hX9, HS1⟩ : ∃ X, X = (((w.alloc (.cells #[.int .i64 i, .int .i64 n, .slice b1 ws.length e1, .slice b2 cs.length e2, .slice b3 ss.length e3, .slice b4 ms.length e4] 32)).alloc (.cells #[.int .i64 0, .int .i64 0, .slice none 0 0, .slice none 0 0, .slice none 0 0, .slice none 0 0] 32)).alloc (.cells #[.int .i64 0, .int .i64 0, .int .i64 0, .int .i64 0, .slice none 0 0] 35)) ∧ Hid (St B w [⟨w.heap.size, 32, #[.int .i64 i, .int .i64 n, .slice b1 ws.length e1, .slice b2 cs.length e2, .slice b3 ss.length e3, .slice b4 ms.length e4]⟩, ⟨w.heap.size + 1, 32, #[.int .i64 0, .int .i64 0, .slice none 0 0, .slice none 0 0, .slice none 0 0, .slice none 0 0]⟩, ⟨w.heap.size + 1 + 1, 35, #[.int .i64 0, .int .i64 0, .int .i64 0, .int .i64 0, .slice none 0 0]⟩] [⟨sel4, fun W => Own4 W B (.slice b1 ws.length e1) (.slice b2 cs.length e2) (.slice b3 ss.length e3) (.slice b4 ms.length e4) ws cs ss ms⟩] X) := ⟨_, rfl, Hid.mk' (by
    have h := (St.alloc #[.int .i64 0, .int .i64 0, .int .i64 0, .int .i64 0, .slice none 0 0] 35 (St.alloc #[.int .i64 0, .int .i64 0, .slice none 0 0, .slice none 0 0, .slice none 0 0, .slice none 0 0] 32 (St.alloc #[.int .i64 i, .int .i64 n, .slice b1 ws.length e1, .slice b2 cs.length e2, .slice b3 ss.length e3, .slice b4 ms.length e4] 32 (St.add sel4 (fun W => Own4 W B (.slice b1 ws.length e1) (.slice b2 cs.length e2) (.slice b3 ss.length e3) (.slice b4 ms.length e4) ws cs ss ms) (keep_own4 _ _ _ _ _ _ _ _ _) h (St.newB hB)))))
    try simp only [World.size_alloc] at h
    try simp only [World.size_setCell] at h
    exact h)⟩
  rw [← hX9]
  clear hX9
  clear h
  refine (l12Cred_any i n _ _ _ _ _ cs serv _ (HS1.out.of 0 rfl).o2.rowAt (by omega)).mono ?_
  rintro r w2 ⟨rfl, b9⟩
  have hB2 := b9.size
  have HS2 : Hid (St B w [⟨w.heap.size, 32, #[.int .i64 i, .int .i64 n, .slice b1 ws.length e1, .slice b2 cs.length e2, .slice b3 ss.length e3, .slice b4 ms.length e4]⟩, ⟨w.heap.size + 1, 32, #[.int .i64 0, .int .i64 0, .slice none 0 0, .slice none 0 0, .slice none 0 0, .slice none 0 0]⟩, ⟨w.heap.size + 1 + 1, 35, #[.int .i64 0, .int .i64 0, .int .i64 0, .int .i64 0, .slice none 0 0]⟩] [⟨sel4, fun W => Own4 W B (.slice b1 ws.length e1) (.slice b2 cs.length e2) (.slice b3 ss.length e3) (.slice b4 ms.length e4) ws cs ss ms⟩] w2) := Hid.mk' (by
    have h := St.grow b9 HS1.out
    try simp only [World.size_alloc] at h
    try simp only [World.size_setCell] at h
    exact h)
  clear HS1
  clear b9
  have hw1 : wrap64 (n + 2) = n + 2 := by unfold wrap64; omega
  have hw3 : wrap64 (n + 1) = n + 1 := by unfold wrap64; omega
  have hw4 : IntKind.i64.wrap (n + 1) = n + 1 := wrapM (by omega) (by omega)
  have HC : Hid (HasC serv now cs x lb) := hc
  clear hc
  by_cases hlb : lb = false
  · subst hlb
    rcases HC.out.2 rfl with hj | ⟨j, y, hj, hxj, hu⟩
    · rw [hj]
      have EA : Hid (askP i n ws cs ss ms serv now x false = keepA i n ws cs ss ms) := Hid.mk' (by unfold askP; rw [if_neg (by simp)])
      have p0 := HS2.out.cell 0 rfl 0 (.int .i64 i) rfl
      have p1 := HS2.out.cell 0 rfl 1 (.int .i64 n) rfl
      have p2 := HS2.out.cell 0 rfl 2 (.slice b1 ws.length e1) rfl
      have p3 := HS2.out.cell 0 rfl 3 (.slice b2 cs.length e2) rfl
      have p4 := HS2.out.cell 0 rfl 4 (.slice b3 ss.length e3) rfl
      have p5 := HS2.out.cell 0 rfl 5 (.slice b4 ms.length e4) rfl
      have z0 := HS2.out.cell 1 rfl 0 (.int .i64 0) rfl
      have zf0 := HS2.out.fro 1 rfl 0
      have z1 := HS2.out.cell 1 rfl 1 (.int .i64 0) rfl
      have zf1 := HS2.out.fro 1 rfl 1
      have z2 := HS2.out.cell 1 rfl 2 (.slice none 0 0) rfl
      have zf2 := HS2.out.fro 1 rfl 2
      have z3 := HS2.out.cell 1 rfl 3 (.slice none 0 0) rfl
      have zf3 := HS2.out.fro 1 rfl 3
      have z4 := HS2.out.cell 1 rfl 4 (.slice none 0 0) rfl
      have zf4 := HS2.out.fro 1 rfl 4
      have z5 := HS2.out.cell 1 rfl 5 (.slice none 0 0) rfl
      have zf5 := HS2.out.fro 1 rfl 5
      have y0 := HS2.out.cell 2 rfl 0 (.int .i64 0) rfl
      have yf0 := HS2.out.fro 2 rfl 0
      have y1 := HS2.out.cell 2 rfl 1 (.int .i64 0) rfl
      have yf1 := HS2.out.fro 2 rfl 1
      have y2 := HS2.out.cell 2 rfl 2 (.int .i64 0) rfl
      have yf2 := HS2.out.fro 2 rfl 2
      have y3 := HS2.out.cell 2 rfl 3 (.int .i64 0) rfl
      have yf3 := HS2.out.fro 2 rfl 3
      have y4 := HS2.out.cell 2 rfl 4 (.slice none 0 0) rfl
      have yf4 := HS2.out.fro 2 rfl 4
      go_wp2_with fail
      clear p0 p1 p2 p3 p4 p5 z0 zf0 z1 zf1 z2 zf2 z3 zf3 z4 zf4 z5 zf5 y0 yf0 y1 yf1 y2 yf2 y3 yf3 y4 yf4
      obtain ⟨V, hX9, HS3⟩ : ∃ X, X = (((((((((((w2.setCell ⟨w.heap.size + 1, 0, none⟩ (.int .i64 i)).setCell ⟨w.heap.size + 1, 1, none⟩ (.int .i64 n)).setCell ⟨w.heap.size + 1, 2, none⟩ (.slice b1 ws.length e1)).setCell ⟨w.heap.size + 1, 3, none⟩ (.slice b2 cs.length e2)).setCell ⟨w.heap.size + 1, 4, none⟩ (.slice b3 ss.length e3)).setCell ⟨w.heap.size + 1, 5, none⟩ (.slice b4 ms.length e4)).setCell ⟨w.heap.size + 1 + 1, 0, none⟩ (.int .i64 0)).setCell ⟨w.heap.size + 1 + 1, 1, none⟩ (.int .i64 0)).setCell ⟨w.heap.size + 1 + 1, 2, none⟩ (.int .i64 0)).setCell ⟨w.heap.size + 1 + 1, 3, none⟩ (.int .i64 0)).setCell ⟨w.heap.size + 1 + 1, 4, none⟩ (.slice none 0 0)) ∧ Hid (St B w [⟨w.heap.size, 32, #[.int .i64 i, .int .i64 n, .slice b1 ws.length e1, .slice b2 cs.length e2, .slice b3 ss.length e3, .slice b4 ms.length e4]⟩, ⟨w.heap.size + 1, 32, #[.int .i64 i, .int .i64 n, .slice b1 ws.length e1, .slice b2 cs.length e2, .slice b3 ss.length e3, .slice b4 ms.length e4]⟩, ⟨w.heap.size + 1 + 1, 35, #[.int .i64 0, .int .i64 0, .int .i64 0, .int .i64 0, .slice none 0 0]⟩] [⟨sel4, fun W => Own4 W B (.slice b1 ws.length e1) (.slice b2 cs.length e2) (.slice b3 ss.length e3) (.slice b4 ms.length e4) ws cs ss ms⟩] X) := ⟨_, rfl, Hid.mk' (by
        have h := (St.put5 2 (St.put6 1 HS2.out rfl rfl (.int .i64 i) (.int .i64 n) (.slice b1 ws.length e1) (.slice b2 cs.length e2) (.slice b3 ss.length e3) (.slice b4 ms.length e4)) rfl rfl (.int .i64 0) (.int .i64 0) (.int .i64 0) (.int .i64 0) (.slice none 0 0))
        try simp only [World.size_alloc] at h
        try simp only [World.size_setCell] at h
        exact h)⟩
      rw [← hX9]
      clear hX9
      clear HS2
      have y0 := HS3.out.cell 1 rfl 0 (.int .i64 i) rfl
      have y1 := HS3.out.cell 1 rfl 1 (.int .i64 n) rfl
      have y2 := HS3.out.cell 1 rfl 2 (.slice b1 ws.length e1) rfl
      have y3 := HS3.out.cell 1 rfl 3 (.slice b2 cs.length e2) rfl
      have y4 := HS3.out.cell 1 rfl 4 (.slice b3 ss.length e3) rfl
      have y5 := HS3.out.cell 1 rfl 5 (.slice b4 ms.length e4) rfl
      have z0 := HS3.out.cell 2 rfl 0 (.int .i64 0) rfl
      have z1 := HS3.out.cell 2 rfl 1 (.int .i64 0) rfl
      have z2 := HS3.out.cell 2 rfl 2 (.int .i64 0) rfl
      have z3 := HS3.out.cell 2 rfl 3 (.int .i64 0) rfl
      have z4 := HS3.out.cell 2 rfl 4 (.slice none 0 0) rfl
      refine bodyPost_ret (v := .tuple #[.agg #[.int .i64 i, .int .i64 n, .slice b1 ws.length e1, .slice b2 cs.length e2, .slice b3 ss.length e3, .slice b4 ms.length e4], .agg #[.int .i64 0, .int .i64 0, .int .i64 0, .int .i64 0, .slice none 0 0], .bool false]) (by simp [results, Try.results45, go_sem, *]) rfl ?_
      rw [EA.out]
      exact ⟨b1, e1, b2, e2, b3, e3, b4, e4, none, 0, rfl, HS3.out.of 0 rfl, OwnS.nilB _ _, HS3.out.bel⟩
    · rw [hj]
      have EA : Hid (askP i n ws cs ss ms serv now x false = keepA i n ws cs ss ms) := Hid.mk' (by unfold askP; rw [if_neg (by simp)])
      obtain ⟨gr, rfl, hgB, hgl, hgc⟩ := own_elem (HS2.out.of 0 rfl).o2 hxj
      have g2 := hgc 2 y.u rfl
      have hjl := (List.getElem?_eq_some_iff.1 hxj).1
      have hjn : ¬ (j : Int) < 0 := by omega
      have p0 := HS2.out.cell 0 rfl 0 (.int .i64 i) rfl
      have p1 := HS2.out.cell 0 rfl 1 (.int .i64 n) rfl
      have p2 := HS2.out.cell 0 rfl 2 (.slice b1 ws.length e1) rfl
      have p3 := HS2.out.cell 0 rfl 3 (.slice (some ⟨gr, 0, none⟩) cs.length e2) rfl
      have p4 := HS2.out.cell 0 rfl 4 (.slice b3 ss.length e3) rfl
      have p5 := HS2.out.cell 0 rfl 5 (.slice b4 ms.length e4) rfl
      have z0 := HS2.out.cell 1 rfl 0 (.int .i64 0) rfl
      have zf0 := HS2.out.fro 1 rfl 0
      have z1 := HS2.out.cell 1 rfl 1 (.int .i64 0) rfl
      have zf1 := HS2.out.fro 1 rfl 1
      have z2 := HS2.out.cell 1 rfl 2 (.slice none 0 0) rfl
      have zf2 := HS2.out.fro 1 rfl 2
      have z3 := HS2.out.cell 1 rfl 3 (.slice none 0 0) rfl
      have zf3 := HS2.out.fro 1 rfl 3
      have z4 := HS2.out.cell 1 rfl 4 (.slice none 0 0) rfl
      have zf4 := HS2.out.fro 1 rfl 4
      have z5 := HS2.out.cell 1 rfl 5 (.slice none 0 0) rfl
      have zf5 := HS2.out.fro 1 rfl 5
      have y0 := HS2.out.cell 2 rfl 0 (.int .i64 0) rfl
      have yf0 := HS2.out.fro 2 rfl 0
      have y1 := HS2.out.cell 2 rfl 1 (.int .i64 0) rfl
      have yf1 := HS2.out.fro 2 rfl 1
      have y2 := HS2.out.cell 2 rfl 2 (.int .i64 0) rfl
      have yf2 := HS2.out.fro 2 rfl 2
      have y3 := HS2.out.cell 2 rfl 3 (.int .i64 0) rfl
      have yf3 := HS2.out.fro 2 rfl 3
      have y4 := HS2.out.cell 2 rfl 4 (.slice none 0 0) rfl
      have yf4 := HS2.out.fro 2 rfl 4
      go_wp2_with fail
      clear p0 p1 p2 p3 p4 p5 z0 zf0 z1 zf1 z2 zf2 z3 zf3 z4 zf4 z5 zf5 y0 yf0 y1 yf1 y2 yf2 y3 yf3 y4 yf4
      clear g2 hgc
      obtain ⟨V, hX9, HS3⟩ : ∃ X, X = (((((((((((w2.setCell ⟨w.heap.size + 1, 0, none⟩ (.int .i64 i)).setCell ⟨w.heap.size + 1, 1, none⟩ (.int .i64 n)).setCell ⟨w.heap.size + 1, 2, none⟩ (.slice b1 ws.length e1)).setCell ⟨w.heap.size + 1, 3, none⟩ (.slice (some ⟨gr, 0, none⟩) cs.length e2)).setCell ⟨w.heap.size + 1, 4, none⟩ (.slice b3 ss.length e3)).setCell ⟨w.heap.size + 1, 5, none⟩ (.slice b4 ms.length e4)).setCell ⟨w.heap.size + 1 + 1, 0, none⟩ (.int .i64 0)).setCell ⟨w.heap.size + 1 + 1, 1, none⟩ (.int .i64 0)).setCell ⟨w.heap.size + 1 + 1, 2, none⟩ (.int .i64 0)).setCell ⟨w.heap.size + 1 + 1, 3, none⟩ (.int .i64 0)).setCell ⟨w.heap.size + 1 + 1, 4, none⟩ (.slice none 0 0)) ∧ Hid (St B w [⟨w.heap.size, 32, #[.int .i64 i, .int .i64 n, .slice b1 ws.length e1, .slice (some ⟨gr, 0, none⟩) cs.length e2, .slice b3 ss.length e3, .slice b4 ms.length e4]⟩, ⟨w.heap.size + 1, 32, #[.int .i64 i, .int .i64 n, .slice b1 ws.length e1, .slice (some ⟨gr, 0, none⟩) cs.length e2, .slice b3 ss.length e3, .slice b4 ms.length e4]⟩, ⟨w.heap.size + 1 + 1, 35, #[.int .i64 0, .int .i64 0, .int .i64 0, .int .i64 0, .slice none 0 0]⟩] [⟨sel4, fun W => Own4 W B (.slice b1 ws.length e1) (.slice (some ⟨gr, 0, none⟩) cs.length e2) (.slice b3 ss.length e3) (.slice b4 ms.length e4) ws cs ss ms⟩] X) := ⟨_, rfl, Hid.mk' (by
        have h := (St.put5 2 (St.put6 1 HS2.out rfl rfl (.int .i64 i) (.int .i64 n) (.slice b1 ws.length e1) (.slice (some ⟨gr, 0, none⟩) cs.length e2) (.slice b3 ss.length e3) (.slice b4 ms.length e4)) rfl rfl (.int .i64 0) (.int .i64 0) (.int .i64 0) (.int .i64 0) (.slice none 0 0))
        try simp only [World.size_alloc] at h
        try simp only [World.size_setCell] at h
        exact h)⟩
      rw [← hX9]
      clear hX9
      clear HS2
      have y0 := HS3.out.cell 1 rfl 0 (.int .i64 i) rfl
      have y1 := HS3.out.cell 1 rfl 1 (.int .i64 n) rfl
      have y2 := HS3.out.cell 1 rfl 2 (.slice b1 ws.length e1) rfl
      have y3 := HS3.out.cell 1 rfl 3 (.slice (some ⟨gr, 0, none⟩) cs.length e2) rfl
      have y4 := HS3.out.cell 1 rfl 4 (.slice b3 ss.length e3) rfl
      have y5 := HS3.out.cell 1 rfl 5 (.slice b4 ms.length e4) rfl
      have z0 := HS3.out.cell 2 rfl 0 (.int .i64 0) rfl
      have z1 := HS3.out.cell 2 rfl 1 (.int .i64 0) rfl
      have z2 := HS3.out.cell 2 rfl 2 (.int .i64 0) rfl
      have z3 := HS3.out.cell 2 rfl 3 (.int .i64 0) rfl
      have z4 := HS3.out.cell 2 rfl 4 (.slice none 0 0) rfl
      refine bodyPost_ret (v := .tuple #[.agg #[.int .i64 i, .int .i64 n, .slice b1 ws.length e1, .slice (some ⟨gr, 0, none⟩) cs.length e2, .slice b3 ss.length e3, .slice b4 ms.length e4], .agg #[.int .i64 0, .int .i64 0, .int .i64 0, .int .i64 0, .slice none 0 0], .bool false]) (by simp [results, Try.results45, go_sem, *]) rfl ?_
      rw [EA.out]
      exact ⟨b1, e1, (some ⟨gr, 0, none⟩), e2, b3, e3, b4, e4, none, 0, rfl, HS3.out.of 0 rfl, OwnS.nilB _ _, HS3.out.bel⟩
  obtain rfl : lb = true := by simpa using hlb
  obtain ⟨j, hj, hxj, hu⟩ := HC.out.1 rfl
  rw [hj]
  obtain ⟨gr, rfl, hgB, hgl, hgc⟩ := own_elem (HS2.out.of 0 rfl).o2 hxj
  have g2 := hgc 2 x.u rfl
  have g1 := hgc 1 x.k rfl
  have hjl := (List.getElem?_eq_some_iff.1 hxj).1
  have hjn : ¬ (j : Int) < 0 := by omega
  have HG : Hid (B ≤ gr ∧ gr < w2.heap.size) := ⟨hgB, hgl⟩
  have hgw : gr ≠ w.heap.size := ((HS2.out.at 0 rfl)).off (HS2.out.of 0 rfl).o2 (by decide) gr rfl
  have hgw2 : w.heap.size ≠ gr := Ne.symm hgw
  clear hgB hgl hgc
  have p0 := HS2.out.cell 0 rfl 0 (.int .i64 i) rfl
  have pf0 := HS2.out.fro 0 rfl 0
  have p1 := HS2.out.cell 0 rfl 1 (.int .i64 n) rfl
  have pf1 := HS2.out.fro 0 rfl 1
  have p2 := HS2.out.cell 0 rfl 2 (.slice b1 ws.length e1) rfl
  have pf2 := HS2.out.fro 0 rfl 2
  have p3 := HS2.out.cell 0 rfl 3 (.slice (some ⟨gr, 0, none⟩) cs.length e2) rfl
  have pf3 := HS2.out.fro 0 rfl 3
  have p4 := HS2.out.cell 0 rfl 4 (.slice b3 ss.length e3) rfl
  have pf4 := HS2.out.fro 0 rfl 4
  have p5 := HS2.out.cell 0 rfl 5 (.slice b4 ms.length e4) rfl
  have pf5 := HS2.out.fro 0 rfl 5
  have z0 := HS2.out.cell 1 rfl 0 (.int .i64 0) rfl
  have zf0 := HS2.out.fro 1 rfl 0
  have z1 := HS2.out.cell 1 rfl 1 (.int .i64 0) rfl
  have zf1 := HS2.out.fro 1 rfl 1
  have z2 := HS2.out.cell 1 rfl 2 (.slice none 0 0) rfl
  have zf2 := HS2.out.fro 1 rfl 2
  have z3 := HS2.out.cell 1 rfl 3 (.slice none 0 0) rfl
  have zf3 := HS2.out.fro 1 rfl 3
  have z4 := HS2.out.cell 1 rfl 4 (.slice none 0 0) rfl
  have zf4 := HS2.out.fro 1 rfl 4
  have z5 := HS2.out.cell 1 rfl 5 (.slice none 0 0) rfl
  have zf5 := HS2.out.fro 1 rfl 5
  have y0 := HS2.out.cell 2 rfl 0 (.int .i64 0) rfl
  have yf0 := HS2.out.fro 2 rfl 0
  have y1 := HS2.out.cell 2 rfl 1 (.int .i64 0) rfl
  have yf1 := HS2.out.fro 2 rfl 1
  have y2 := HS2.out.cell 2 rfl 2 (.int .i64 0) rfl
  have yf2 := HS2.out.fro 2 rfl 2
  have y3 := HS2.out.cell 2 rfl 3 (.int .i64 0) rfl
  have yf3 := HS2.out.fro 2 rfl 3
  have y4 := HS2.out.cell 2 rfl 4 (.slice none 0 0) rfl
  have yf4 := HS2.out.fro 2 rfl 4
  by_cases hm : n + 1 > 60
  · skip
    have EA : Hid (askP i n ws cs ss ms serv now x true = keepA i n ws cs ss ms) := Hid.mk' (by unfold askP; rw [if_neg (by intro hq; exact hq.2.2 hm)])
    have hm2 : 60 ≤ n := by omega
    go_wp2_with fail
    clear p0 pf0 p1 pf1 p2 pf2 p3 pf3 p4 pf4 p5 pf5 z0 zf0 z1 zf1 z2 zf2 z3 zf3 z4 zf4 z5 zf5 y0 yf0 y1 yf1 y2 yf2 y3 yf3 y4 yf4
    obtain ⟨V, hX9, HS3⟩ : ∃ X, X = (((((((((((w2.setCell ⟨w.heap.size + 1, 0, none⟩ (.int .i64 i)).setCell ⟨w.heap.size + 1, 1, none⟩ (.int .i64 n)).setCell ⟨w.heap.size + 1, 2, none⟩ (.slice b1 ws.length e1)).setCell ⟨w.heap.size + 1, 3, none⟩ (.slice (some ⟨gr, 0, none⟩) cs.length e2)).setCell ⟨w.heap.size + 1, 4, none⟩ (.slice b3 ss.length e3)).setCell ⟨w.heap.size + 1, 5, none⟩ (.slice b4 ms.length e4)).setCell ⟨w.heap.size + 1 + 1, 0, none⟩ (.int .i64 0)).setCell ⟨w.heap.size + 1 + 1, 1, none⟩ (.int .i64 0)).setCell ⟨w.heap.size + 1 + 1, 2, none⟩ (.int .i64 0)).setCell ⟨w.heap.size + 1 + 1, 3, none⟩ (.int .i64 0)).setCell ⟨w.heap.size + 1 + 1, 4, none⟩ (.slice none 0 0)) ∧ Hid (St B w [⟨w.heap.size, 32, #[.int .i64 i, .int .i64 n, .slice b1 ws.length e1, .slice (some ⟨gr, 0, none⟩) cs.length e2, .slice b3 ss.length e3, .slice b4 ms.length e4]⟩, ⟨w.heap.size + 1, 32, #[.int .i64 i, .int .i64 n, .slice b1 ws.length e1, .slice (some ⟨gr, 0, none⟩) cs.length e2, .slice b3 ss.length e3, .slice b4 ms.length e4]⟩, ⟨w.heap.size + 1 + 1, 35, #[.int .i64 0, .int .i64 0, .int .i64 0, .int .i64 0, .slice none 0 0]⟩] [⟨sel4, fun W => Own4 W B (.slice b1 ws.length e1) (.slice (some ⟨gr, 0, none⟩) cs.length e2) (.slice b3 ss.length e3) (.slice b4 ms.length e4) ws cs ss ms⟩] X) := ⟨_, rfl, Hid.mk' (by
      have h := (St.put5 2 (St.put6 1 HS2.out rfl rfl (.int .i64 i) (.int .i64 n) (.slice b1 ws.length e1) (.slice (some ⟨gr, 0, none⟩) cs.length e2) (.slice b3 ss.length e3) (.slice b4 ms.length e4)) rfl rfl (.int .i64 0) (.int .i64 0) (.int .i64 0) (.int .i64 0) (.slice none 0 0))
      try simp only [World.size_alloc] at h
      try simp only [World.size_setCell] at h
      exact h)⟩
    rw [← hX9]
    clear hX9
    clear HS2
    have y0 := HS3.out.cell 1 rfl 0 (.int .i64 i) rfl
    have y1 := HS3.out.cell 1 rfl 1 (.int .i64 n) rfl
    have y2 := HS3.out.cell 1 rfl 2 (.slice b1 ws.length e1) rfl
    have y3 := HS3.out.cell 1 rfl 3 (.slice (some ⟨gr, 0, none⟩) cs.length e2) rfl
    have y4 := HS3.out.cell 1 rfl 4 (.slice b3 ss.length e3) rfl
    have y5 := HS3.out.cell 1 rfl 5 (.slice b4 ms.length e4) rfl
    have z0 := HS3.out.cell 2 rfl 0 (.int .i64 0) rfl
    have z1 := HS3.out.cell 2 rfl 1 (.int .i64 0) rfl
    have z2 := HS3.out.cell 2 rfl 2 (.int .i64 0) rfl
    have z3 := HS3.out.cell 2 rfl 3 (.int .i64 0) rfl
    have z4 := HS3.out.cell 2 rfl 4 (.slice none 0 0) rfl
    refine bodyPost_ret (v := .tuple #[.agg #[.int .i64 i, .int .i64 n, .slice b1 ws.length e1, .slice (some ⟨gr, 0, none⟩) cs.length e2, .slice b3 ss.length e3, .slice b4 ms.length e4], .agg #[.int .i64 0, .int .i64 0, .int .i64 0, .int .i64 0, .slice none 0 0], .bool false]) (by simp [results, Try.results45, go_sem, *]) rfl ?_
    rw [EA.out]
    exact ⟨b1, e1, (some ⟨gr, 0, none⟩), e2, b3, e3, b4, e4, none, 0, rfl, HS3.out.of 0 rfl, OwnS.nilB _ _, HS3.out.bel⟩
  have hm3 : ¬ 60 ≤ n := by omega
  go_wp2_with fail
  refine (l1Serv_any' _ _).mono ?_
  rintro r w9 ⟨rfl, he9⟩
  obtain rfl : w2 = w9 := he9.symm
  cases u3 : inB serv 4 5
  · skip
    have EA : Hid (askP i n ws cs ss ms serv now x true = keepA i n ws cs ss ms) := Hid.mk' (by unfold askP; rw [if_neg (by rw [u3]; simp)])
    go_wp2_with fail
    clear p0 pf0 p1 pf1 p2 pf2 p3 pf3 p4 pf4 p5 pf5 z0 zf0 z1 zf1 z2 zf2 z3 zf3 z4 zf4 z5 zf5 y0 yf0 y1 yf1 y2 yf2 y3 yf3 y4 yf4
    obtain ⟨V, hX9, HS3⟩ : ∃ X, X = (((((((((((w2.setCell ⟨w.heap.size + 1, 0, none⟩ (.int .i64 i)).setCell ⟨w.heap.size + 1, 1, none⟩ (.int .i64 n)).setCell ⟨w.heap.size + 1, 2, none⟩ (.slice b1 ws.length e1)).setCell ⟨w.heap.size + 1, 3, none⟩ (.slice (some ⟨gr, 0, none⟩) cs.length e2)).setCell ⟨w.heap.size + 1, 4, none⟩ (.slice b3 ss.length e3)).setCell ⟨w.heap.size + 1, 5, none⟩ (.slice b4 ms.length e4)).setCell ⟨w.heap.size + 1 + 1, 0, none⟩ (.int .i64 0)).setCell ⟨w.heap.size + 1 + 1, 1, none⟩ (.int .i64 0)).setCell ⟨w.heap.size + 1 + 1, 2, none⟩ (.int .i64 0)).setCell ⟨w.heap.size + 1 + 1, 3, none⟩ (.int .i64 0)).setCell ⟨w.heap.size + 1 + 1, 4, none⟩ (.slice none 0 0)) ∧ Hid (St B w [⟨w.heap.size, 32, #[.int .i64 i, .int .i64 n, .slice b1 ws.length e1, .slice (some ⟨gr, 0, none⟩) cs.length e2, .slice b3 ss.length e3, .slice b4 ms.length e4]⟩, ⟨w.heap.size + 1, 32, #[.int .i64 i, .int .i64 n, .slice b1 ws.length e1, .slice (some ⟨gr, 0, none⟩) cs.length e2, .slice b3 ss.length e3, .slice b4 ms.length e4]⟩, ⟨w.heap.size + 1 + 1, 35, #[.int .i64 0, .int .i64 0, .int .i64 0, .int .i64 0, .slice none 0 0]⟩] [⟨sel4, fun W => Own4 W B (.slice b1 ws.length e1) (.slice (some ⟨gr, 0, none⟩) cs.length e2) (.slice b3 ss.length e3) (.slice b4 ms.length e4) ws cs ss ms⟩] X) := ⟨_, rfl, Hid.mk' (by
      have h := (St.put5 2 (St.put6 1 HS2.out rfl rfl (.int .i64 i) (.int .i64 n) (.slice b1 ws.length e1) (.slice (some ⟨gr, 0, none⟩) cs.length e2) (.slice b3 ss.length e3) (.slice b4 ms.length e4)) rfl rfl (.int .i64 0) (.int .i64 0) (.int .i64 0) (.int .i64 0) (.slice none 0 0))
      try simp only [World.size_alloc] at h
      try simp only [World.size_setCell] at h
      exact h)⟩
    rw [← hX9]
    clear hX9
    clear HS2
    have y0 := HS3.out.cell 1 rfl 0 (.int .i64 i) rfl
    have y1 := HS3.out.cell 1 rfl 1 (.int .i64 n) rfl
    have y2 := HS3.out.cell 1 rfl 2 (.slice b1 ws.length e1) rfl
    have y3 := HS3.out.cell 1 rfl 3 (.slice (some ⟨gr, 0, none⟩) cs.length e2) rfl
    have y4 := HS3.out.cell 1 rfl 4 (.slice b3 ss.length e3) rfl
    have y5 := HS3.out.cell 1 rfl 5 (.slice b4 ms.length e4) rfl
    have z0 := HS3.out.cell 2 rfl 0 (.int .i64 0) rfl
    have z1 := HS3.out.cell 2 rfl 1 (.int .i64 0) rfl
    have z2 := HS3.out.cell 2 rfl 2 (.int .i64 0) rfl
    have z3 := HS3.out.cell 2 rfl 3 (.int .i64 0) rfl
    have z4 := HS3.out.cell 2 rfl 4 (.slice none 0 0) rfl
    refine bodyPost_ret (v := .tuple #[.agg #[.int .i64 i, .int .i64 n, .slice b1 ws.length e1, .slice (some ⟨gr, 0, none⟩) cs.length e2, .slice b3 ss.length e3, .slice b4 ms.length e4], .agg #[.int .i64 0, .int .i64 0, .int .i64 0, .int .i64 0, .slice none 0 0], .bool false]) (by simp [results, Try.results45, go_sem, *]) rfl ?_
    rw [EA.out]
    exact ⟨b1, e1, (some ⟨gr, 0, none⟩), e2, b3, e3, b4, e4, none, 0, rfl, HS3.out.of 0 rfl, OwnS.nilB _ _, HS3.out.bel⟩
  have EA : Hid (askP i n ws cs ss ms serv now x true = ⟨i, n + 1, ws, cs, ss ++ [⟨serv, x.k, now, n + 1⟩], ms, 5, 0, serv, 0, [x.x, authS x.k i now (n + 1)], true⟩) := Hid.mk' (by unfold askP; rw [if_pos ⟨u3, rfl, by omega⟩])
  go_wp2_with (at_builtin; apply stopHere)
  clear p0 pf0 p1 pf1 p2 pf2 p3 pf3 p4 pf4 p5 pf5 z0 zf0 z1 zf1 z2 zf2 z3 zf3 z4 zf4 z5 zf5 y0 yf0 y1 yf1 y2 yf2 y3 yf3 y4 yf4
  intro hst
  clear hst
  clear g1 g2
  generalize (decide ((j : Int) < 0)) = dd1
  generalize (decide (x.u < now)) = dd2
  generalize (decide (60 ≤ n)) = dd3
  have HR : Hid (St B w [⟨w.heap.size, 32, #[.int .i64 i, .int .i64 (n + 1), .slice b1 ws.length e1, .slice (some ⟨gr, 0, none⟩) cs.length e2, .slice b3 ss.length e3, .slice b4 ms.length e4]⟩, ⟨w.heap.size + 1, 32, #[.int .i64 0, .int .i64 0, .slice none 0 0, .slice none 0 0, .slice none 0 0, .slice none 0 0]⟩, ⟨w.heap.size + 1 + 1, 35, #[.int .i64 0, .int .i64 0, .int .i64 0, .int .i64 0, .slice none 0 0]⟩] [⟨sel4, fun W => Own4 W B (.slice b1 ws.length e1) (.slice (some ⟨gr, 0, none⟩) cs.length e2) (.slice b3 ss.length e3) (.slice b4 ms.length e4) ws cs ss ms⟩] ((w2.setCell ⟨w.heap.size, 1, none⟩ (.int .i64 (n + 1))).alloc (.cells #[.int .i64 serv, .int .i64 x.k, .int .i64 now, .int .i64 (n + 1)] 71))) := Hid.mk' (by
    have h := (St.lay (.cells #[.int .i64 serv, .int .i64 x.k, .int .i64 now, .int .i64 (n + 1)] 71) (St.set 0 (q := 1) (v := .int .i64 (n + 1)) HS2.out rfl rfl))
    try simp only [World.size_alloc] at h
    try simp only [World.size_setCell] at h
    exact h)
  have HN : Hid (NRow celC ((w2.setCell ⟨w.heap.size, 1, none⟩ (.int .i64 (n + 1))).alloc (.cells #[.int .i64 serv, .int .i64 x.k, .int .i64 now, .int .i64 (n + 1)] 71)) (some ⟨w2.heap.size, 0, none⟩) [⟨serv, x.k, now, n + 1⟩]) := Hid.mk' (by
    have h := nrow_new celC (w2.setCell ⟨w.heap.size, 1, none⟩ (.int .i64 (n + 1))) 71 ⟨serv, x.k, now, n + 1⟩
    simp only [World.size_setCell] at h
    exact h)
  have hO := HR.out.of 0 rfl
  refine wpList_app_one celC _ 71 30 32 _ Try.underlying30 infoCall rfl (by omega) rfl (.tmp 49) (.tmp 56) rfl B (.slice b3 ss.length e3) ss rfl hO.o3 (some ⟨w2.heap.size, 0, none⟩) ⟨serv, x.k, now, n + 1⟩ 1 rfl HN.out (by omega) HR.out.sz ?_
  intro b5 c5 w5 o5 g5 k5
  generalize hWS : (ss ++ [(⟨serv, x.k, now, n + 1⟩ : Ca)]) = WS at o5 EA k5 ⊢
  clear hWS
  have HS3 : Hid (St B w [⟨w.heap.size, 32, #[.int .i64 i, .int .i64 (n + 1), .slice b1 ws.length e1, .slice (some ⟨gr, 0, none⟩) cs.length e2, .slice b3 ss.length e3, .slice b4 ms.length e4]⟩, ⟨w.heap.size + 1, 32, #[.int .i64 0, .int .i64 0, .slice none 0 0, .slice none 0 0, .slice none 0 0, .slice none 0 0]⟩, ⟨w.heap.size + 1 + 1, 35, #[.int .i64 0, .int .i64 0, .int .i64 0, .int .i64 0, .slice none 0 0]⟩] [⟨sel4, fun W => Own4 W B (.slice b1 ws.length e1) (.slice (some ⟨gr, 0, none⟩) cs.length e2) (.slice b5 WS.length c5) (.slice b4 ms.length e4) ws cs WS ms⟩] w5) := Hid.mk' (by
    have h := St.appR HR.out 0 71 (fun b e => ⟨(hO.o3.lt b e).1, hO.o3.type e⟩) g5 rfl (fun _ => rfl) sel4 (fun W => Own4 W B (.slice b1 ws.length e1) (.slice (some ⟨gr, 0, none⟩) cs.length e2) (.slice b5 WS.length c5) (.slice b4 ms.length e4) ws cs WS ms) (keep_own4 _ _ _ _ _ _ _ _ _) (own4_app3 hO o5 g5 k5)
    try simp only [World.size_alloc] at h
    try simp only [World.size_setCell] at h
    exact h)
  clear HS2
  clear hO o5 g5 k5 HR HN
  have p0 := HS3.out.cell 0 rfl 0 (.int .i64 i) rfl
  have pf0 := HS3.out.fro 0 rfl 0
  have p1 := HS3.out.cell 0 rfl 1 (.int .i64 (n + 1)) rfl
  have pf1 := HS3.out.fro 0 rfl 1
  have p2 := HS3.out.cell 0 rfl 2 (.slice b1 ws.length e1) rfl
  have pf2 := HS3.out.fro 0 rfl 2
  have p3 := HS3.out.cell 0 rfl 3 (.slice (some ⟨gr, 0, none⟩) cs.length e2) rfl
  have pf3 := HS3.out.fro 0 rfl 3
  have p4 := HS3.out.cell 0 rfl 4 (.slice b3 ss.length e3) rfl
  have pf4 := HS3.out.fro 0 rfl 4
  have p5 := HS3.out.cell 0 rfl 5 (.slice b4 ms.length e4) rfl
  have pf5 := HS3.out.fro 0 rfl 5
  go_wp2_with fail
  clear p0 pf0 p1 pf1 p2 pf2 p3 pf3 p4 pf4 p5 pf5
  obtain ⟨w6, hX9, HS4⟩ : ∃ X, X = (w5.setCell ⟨w.heap.size, 4, none⟩ (.slice b5 WS.length c5)) ∧ Hid (St B w [⟨w.heap.size, 32, #[.int .i64 i, .int .i64 (n + 1), .slice b1 ws.length e1, .slice (some ⟨gr, 0, none⟩) cs.length e2, .slice b5 WS.length c5, .slice b4 ms.length e4]⟩, ⟨w.heap.size + 1, 32, #[.int .i64 0, .int .i64 0, .slice none 0 0, .slice none 0 0, .slice none 0 0, .slice none 0 0]⟩, ⟨w.heap.size + 1 + 1, 35, #[.int .i64 0, .int .i64 0, .int .i64 0, .int .i64 0, .slice none 0 0]⟩] [⟨sel4, fun W => Own4 W B (.slice b1 ws.length e1) (.slice (some ⟨gr, 0, none⟩) cs.length e2) (.slice b5 WS.length c5) (.slice b4 ms.length e4) ws cs WS ms⟩] X) := ⟨_, rfl, Hid.mk' (by
    have h := (St.set 0 (q := 4) (v := .slice b5 WS.length c5) HS3.out rfl rfl)
    try simp only [World.size_alloc] at h
    try simp only [World.size_setCell] at h
    exact h)⟩
  rw [← hX9]
  clear hX9
  clear HS3
  have hmb : B ≤ w.heap.size + 1 + 1 := (HS4.out.lt 2 rfl).1
  refine wp_region_walk [8, 59, 60, 61, 62, 63, 64, 65, 66, 67, 68, 69, 70, 71, 72, 73, 74, 75] (fun d s W => St B w [⟨w.heap.size, 32, #[.int .i64 i, .int .i64 (n + 1), .slice b1 ws.length e1, .slice (some ⟨gr, 0, none⟩) cs.length e2, .slice b5 WS.length c5, .slice b4 ms.length e4]⟩, ⟨w.heap.size + 1, 32, bif d 17 then #[.int .i64 i, .int .i64 (n + 1), .slice b1 ws.length e1, .slice (some ⟨gr, 0, none⟩) cs.length e2, .slice b5 WS.length c5, .slice b4 ms.length e4] else #[.int .i64 0, .int .i64 0, .slice none 0 0, .slice none 0 0, .slice none 0 0, .slice none 0 0]⟩] [⟨sel4, fun W => Own4 W B (.slice b1 ws.length e1) (.slice (some ⟨gr, 0, none⟩) cs.length e2) (.slice b5 WS.length c5) (.slice b4 ms.length e4) ws cs WS ms⟩, ⟨selSM, fun W => ∃ (g : Nat) (cs : Array Value), (d 15 = true → s 74 = Value.slice (some ⟨g, 0, none⟩) 2 2 ∧ OwnS W B (.slice (some ⟨g, 0, none⟩) 2 2) [x.x, authS x.k i now (n + 1)]) ∧ ABlk 35 W (w.heap.size + 1 + 1) cs ∧ ((d 16 = true → s 75 = Value.agg #[.int .i64 5, .int .i64 0, .int .i64 serv, .int .i64 0, .slice (some ⟨g, 0, none⟩) 2 2]) ∧ (d 18 = true → cs = #[.int .i64 5, .int .i64 0, .int .i64 serv, .int .i64 0, .slice (some ⟨g, 0, none⟩) 2 2]) ∧ (d 18 = false → cs = #[.int .i64 0, .int .i64 0, .int .i64 0, .int .i64 0, .slice none 0 0]))⟩] W ∧ Looks [(0, 59, Value.agg #[.int .i64 i, .int .i64 (n + 1), .slice b1 ws.length e1, .slice (some ⟨gr, 0, none⟩) cs.length e2, .slice b5 WS.length c5, .slice b4 ms.length e4]), (1, 60, Value.int .i64 serv), (2, 61, Value.pointer (some ⟨w.heap.size, 3, none⟩)), (3, 62, Value.slice (some ⟨gr, 0, none⟩) cs.length e2), (4, 63, Value.int .i64 j), (5, 64, Value.pointer (some ⟨gr, j * 10, none⟩)), (6, 65, Value.pointer (some ⟨gr, j * 10 + 3, none⟩)), (7, 66, Value.agg #[Value.int .i64 x.x.k, Value.int .i64 x.x.t, Value.int .i64 x.x.a, Value.int .i64 x.x.b, Value.int .i64 x.x.c, Value.int .i64 x.x.d, Value.int .i64 x.x.e]), (8, 67, Value.pointer (some ⟨w.heap.size, 0, none⟩)), (9, 68, Value.int .i64 i), (10, 69, Value.int .i64 x.k), (11, 70, Value.int .i64 now), (12, 71, Value.pointer (some ⟨w.heap.size, 1, none⟩)), (13, 72, Value.int .i64 (n + 1)), (14, 73, Value.agg #[.int .i64 x.k, .int .i64 3, .int .i64 i, .int .i64 now, .int .i64 (n + 1), .int .i64 0, .int .i64 0]), (19, 8, Value.bool true)] d s) [0, 1, 2, 3, 4, 5, 6, 7, 8, 9, 10, 11, 12, 13, 14, 15, 16, 17, 18, 19] (by kernel_rfl) (by kernel_rfl) (by kernel_rfl) ?_ ?_ ?_
  · intro s
    exact ⟨St.add selSM (fun W => ∃ (g : Nat) (cs : Array Value), ((fun _ : Nat => false) 15 = true → s 74 = Value.slice (some ⟨g, 0, none⟩) 2 2 ∧ OwnS W B (.slice (some ⟨g, 0, none⟩) 2 2) [x.x, authS x.k i now (n + 1)]) ∧ ABlk 35 W (w.heap.size + 1 + 1) cs ∧ (((fun _ : Nat => false) 16 = true → s 75 = Value.agg #[.int .i64 5, .int .i64 0, .int .i64 serv, .int .i64 0, .slice (some ⟨g, 0, none⟩) 2 2]) ∧ ((fun _ : Nat => false) 18 = true → cs = #[.int .i64 5, .int .i64 0, .int .i64 serv, .int .i64 0, .slice (some ⟨g, 0, none⟩) 2 2]) ∧ ((fun _ : Nat => false) 18 = false → cs = #[.int .i64 0, .int .i64 0, .int .i64 0, .int .i64 0, .slice none 0 0]))) (keep_SM ((fun _ : Nat => false) 15 = true) (fun g => s 74 = Value.slice (some ⟨g, 0, none⟩) 2 2) (fun g => .slice (some ⟨g, 0, none⟩) 2 2) [x.x, authS x.k i now (n + 1)] B (w.heap.size + 1 + 1) (fun g cs => ((fun _ : Nat => false) 16 = true → s 75 = Value.agg #[.int .i64 5, .int .i64 0, .int .i64 serv, .int .i64 0, .slice (some ⟨g, 0, none⟩) 2 2]) ∧ ((fun _ : Nat => false) 18 = true → cs = #[.int .i64 5, .int .i64 0, .int .i64 serv, .int .i64 0, .slice (some ⟨g, 0, none⟩) 2 2]) ∧ ((fun _ : Nat => false) 18 = false → cs = #[.int .i64 0, .int .i64 0, .int .i64 0, .int .i64 0, .slice none 0 0]))) ⟨0, _, (fun e => by cases e), HS4.out.drew.at 2 rfl, (fun e => by cases e), (fun e => by cases e), fun _ => rfl⟩ (St.dropB 2 HS4.out.drew), Looks.none _ _⟩
  · refine StepsR.cons (k := 0) [] (by kernel_rfl) ?_ (StepsR.cons (k := 1) [] (by kernel_rfl) ?_ (StepsR.cons (k := 2) [] (by kernel_rfl) ?_ (StepsR.cons (k := 3) [2] (by kernel_rfl) ?_ (StepsR.cons (k := 4) [] (by kernel_rfl) ?_ (StepsR.cons (k := 5) [3, 4] (by kernel_rfl) ?_ (StepsR.cons (k := 6) [5] (by kernel_rfl) ?_ (StepsR.cons (k := 7) [6] (by kernel_rfl) ?_ (StepsR.cons (k := 8) [] (by kernel_rfl) ?_ (StepsR.cons (k := 9) [8] (by kernel_rfl) ?_ (StepsR.cons (k := 10) [] (by kernel_rfl) ?_ (StepsR.cons (k := 11) [] (by kernel_rfl) ?_ (StepsR.cons (k := 12) [] (by kernel_rfl) ?_ (StepsR.cons (k := 13) [12] (by kernel_rfl) ?_ (StepsR.cons (k := 14) [9, 10, 11, 13] (by kernel_rfl) ?_ (StepsR.cons (k := 15) [7, 14] (by kernel_rfl) ?_ (StepsR.cons (k := 16) [1, 15] (by kernel_rfl) ?_ (StepsR.cons (k := 17) [0] (by kernel_rfl) ?_ (StepsR.cons (k := 18) [16] (by kernel_rfl) ?_ (StepsR.cons (k := 19) [] (by kernel_rfl) ?_ (StepsR.nil))))))))))))))))))))
    · intro d s w9 hd hA hC hF K hK
      have hB9 := hF.1.bel
      simp only [putL, putT, List.setIfInBounds_toArray, List.set_cons_zero, List.set_cons_succ]
      clear hB9
      as_aux_lemma =>
        have p0 := hF.1.cell 0 rfl 0 (.int .i64 i) rfl
        have p1 := hF.1.cell 0 rfl 1 (.int .i64 (n + 1)) rfl
        have p2 := hF.1.cell 0 rfl 2 (.slice b1 ws.length e1) rfl
        have p3 := hF.1.cell 0 rfl 3 (.slice (some ⟨gr, 0, none⟩) cs.length e2) rfl
        have p4 := hF.1.cell 0 rfl 4 (.slice b5 WS.length c5) rfl
        have p5 := hF.1.cell 0 rfl 5 (.slice b4 ms.length e4) rfl
        go_simp
        clear p0 p1 p2 p3 p4 p5
        refine hK.out (updS s 59 (Value.agg #[.int .i64 i, .int .i64 (n + 1), .slice b1 ws.length e1, .slice (some ⟨gr, 0, none⟩) cs.length e2, .slice b5 WS.length c5, .slice b4 ms.length e4])) _ _ ?_ ⟨hF.1, hF.2.put 0 59 (Value.agg #[.int .i64 i, .int .i64 (n + 1), .slice b1 ws.length e1, .slice (some ⟨gr, 0, none⟩) cs.length e2, .slice b5 WS.length c5, .slice b4 ms.length e4]) rfl (by simp)⟩
        (simp only [putL, putT, List.setIfInBounds_toArray, List.set_cons_zero, List.set_cons_succ]); rfl
    · intro d s w9 hd hA hC hF K hK
      have hB9 := hF.1.bel
      simp only [putL, putT, List.setIfInBounds_toArray, List.set_cons_zero, List.set_cons_succ]
      clear hB9
      as_aux_lemma =>
        go_simp
        refine hK.out (updS s 60 (Value.int .i64 serv)) _ _ ?_ ⟨hF.1, hF.2.put 1 60 (Value.int .i64 serv) rfl (by simp)⟩
        (simp only [putL, putT, List.setIfInBounds_toArray, List.set_cons_zero, List.set_cons_succ]); rfl
    · intro d s w9 hd hA hC hF K hK
      have hB9 := hF.1.bel
      simp only [putL, putT, List.setIfInBounds_toArray, List.set_cons_zero, List.set_cons_succ]
      clear hB9
      as_aux_lemma =>
        go_simp
        refine hK.out (updS s 61 (Value.pointer (some ⟨w.heap.size, 3, none⟩))) _ _ ?_ ⟨hF.1, hF.2.put 2 61 (Value.pointer (some ⟨w.heap.size, 3, none⟩)) rfl (by simp)⟩
        (simp only [putL, putT, List.setIfInBounds_toArray, List.set_cons_zero, List.set_cons_succ]); rfl
    · intro d s w9 hd hA hC hF K hK
      have hB9 := hF.1.bel
      simp only [putL, putT, List.setIfInBounds_toArray, List.set_cons_zero, List.set_cons_succ]
      clear hB9
      as_aux_lemma =>
        have eq2 : s 61 = Value.pointer (some ⟨w.heap.size, 3, none⟩) := hF.2 (2, 61, Value.pointer (some ⟨w.heap.size, 3, none⟩)) (by simp) (hA.1)
        rw [eq2]
        have p3 := hF.1.cell 0 rfl 3 (.slice (some ⟨gr, 0, none⟩) cs.length e2) rfl
        go_simp
        clear p3
        refine hK.out (updS s 62 (Value.slice (some ⟨gr, 0, none⟩) cs.length e2)) _ _ ?_ ⟨hF.1, hF.2.put 3 62 (Value.slice (some ⟨gr, 0, none⟩) cs.length e2) rfl (by simp)⟩
        (simp only [putL, putT, List.setIfInBounds_toArray, List.set_cons_zero, List.set_cons_succ]); rw [← eq2]; (try rfl)
    · intro d s w9 hd hA hC hF K hK
      have hB9 := hF.1.bel
      simp only [putL, putT, List.setIfInBounds_toArray, List.set_cons_zero, List.set_cons_succ]
      clear hB9
      as_aux_lemma =>
        go_simp
        refine hK.out (updS s 63 (Value.int .i64 j)) _ _ ?_ ⟨hF.1, hF.2.put 4 63 (Value.int .i64 j) rfl (by simp)⟩
        (simp only [putL, putT, List.setIfInBounds_toArray, List.set_cons_zero, List.set_cons_succ]); rfl
    · intro d s w9 hd hA hC hF K hK
      have hB9 := hF.1.bel
      simp only [putL, putT, List.setIfInBounds_toArray, List.set_cons_zero, List.set_cons_succ]
      clear hB9
      as_aux_lemma =>
        have eq3 : s 62 = Value.slice (some ⟨gr, 0, none⟩) cs.length e2 := hF.2 (3, 62, Value.slice (some ⟨gr, 0, none⟩) cs.length e2) (by simp) (hA.1)
        have eq4 : s 63 = Value.int .i64 j := hF.2 (4, 63, Value.int .i64 j) (by simp) (hA.2.1)
        rw [eq3, eq4]
        go_simp
        refine hK.out (updS s 64 (Value.pointer (some ⟨gr, j * 10, none⟩))) _ _ ?_ ⟨hF.1, hF.2.put 5 64 (Value.pointer (some ⟨gr, j * 10, none⟩)) rfl (by simp)⟩
        (simp only [putL, putT, List.setIfInBounds_toArray, List.set_cons_zero, List.set_cons_succ]); rw [← eq3, ← eq4]; (try rfl)
    · intro d s w9 hd hA hC hF K hK
      have hB9 := hF.1.bel
      simp only [putL, putT, List.setIfInBounds_toArray, List.set_cons_zero, List.set_cons_succ]
      clear hB9
      as_aux_lemma =>
        have eq5 : s 64 = Value.pointer (some ⟨gr, j * 10, none⟩) := hF.2 (5, 64, Value.pointer (some ⟨gr, j * 10, none⟩)) (by simp) (hA.1)
        rw [eq5]
        go_simp
        refine hK.out (updS s 65 (Value.pointer (some ⟨gr, j * 10 + 3, none⟩))) _ _ ?_ ⟨hF.1, hF.2.put 6 65 (Value.pointer (some ⟨gr, j * 10 + 3, none⟩)) rfl (by simp)⟩
        (simp only [putL, putT, List.setIfInBounds_toArray, List.set_cons_zero, List.set_cons_succ]); rw [← eq5]; (try rfl)
    · intro d s w9 hd hA hC hF K hK
      have hB9 := hF.1.bel
      simp only [putL, putT, List.setIfInBounds_toArray, List.set_cons_zero, List.set_cons_succ]
      clear hB9
      as_aux_lemma =>
        have eq6 : s 65 = Value.pointer (some ⟨gr, j * 10 + 3, none⟩) := hF.2 (6, 65, Value.pointer (some ⟨gr, j * 10 + 3, none⟩)) (by simp) (hA.1)
        rw [eq6]
        obtain ⟨_, hgr, _, _, hgc⟩ := own_elem (hF.1.of 0 rfl).o2 hxj
        injection hgr with hgr
        injection hgr with hgr
        subst hgr
        have g3 := hgc 3 x.x.k rfl
        have g4 := hgc 4 x.x.t rfl
        have g5 := hgc 5 x.x.a rfl
        have g6 := hgc 6 x.x.b rfl
        have g7 := hgc 7 x.x.c rfl
        have g8 := hgc 8 x.x.d rfl
        have g9 := hgc 9 x.x.e rfl
        clear hgc
        go_simp
        clear g3 g4 g5 g6 g7 g8 g9
        refine hK.out (updS s 66 (Value.agg #[Value.int .i64 x.x.k, Value.int .i64 x.x.t, Value.int .i64 x.x.a, Value.int .i64 x.x.b, Value.int .i64 x.x.c, Value.int .i64 x.x.d, Value.int .i64 x.x.e])) _ _ ?_ ⟨hF.1, hF.2.put 7 66 (Value.agg #[Value.int .i64 x.x.k, Value.int .i64 x.x.t, Value.int .i64 x.x.a, Value.int .i64 x.x.b, Value.int .i64 x.x.c, Value.int .i64 x.x.d, Value.int .i64 x.x.e]) rfl (by simp)⟩
        (simp only [putL, putT, List.setIfInBounds_toArray, List.set_cons_zero, List.set_cons_succ]); rw [← eq6]; (try rfl)
    · intro d s w9 hd hA hC hF K hK
      have hB9 := hF.1.bel
      simp only [putL, putT, List.setIfInBounds_toArray, List.set_cons_zero, List.set_cons_succ]
      clear hB9
      as_aux_lemma =>
        go_simp
        refine hK.out (updS s 67 (Value.pointer (some ⟨w.heap.size, 0, none⟩))) _ _ ?_ ⟨hF.1, hF.2.put 8 67 (Value.pointer (some ⟨w.heap.size, 0, none⟩)) rfl (by simp)⟩
        (simp only [putL, putT, List.setIfInBounds_toArray, List.set_cons_zero, List.set_cons_succ]); rfl
    · intro d s w9 hd hA hC hF K hK
      have hB9 := hF.1.bel
      simp only [putL, putT, List.setIfInBounds_toArray, List.set_cons_zero, List.set_cons_succ]
      clear hB9
      as_aux_lemma =>
        have eq8 : s 67 = Value.pointer (some ⟨w.heap.size, 0, none⟩) := hF.2 (8, 67, Value.pointer (some ⟨w.heap.size, 0, none⟩)) (by simp) (hA.1)
        rw [eq8]
        have p0 := hF.1.cell 0 rfl 0 (.int .i64 i) rfl
        go_simp
        clear p0
        refine hK.out (updS s 68 (Value.int .i64 i)) _ _ ?_ ⟨hF.1, hF.2.put 9 68 (Value.int .i64 i) rfl (by simp)⟩
        (simp only [putL, putT, List.setIfInBounds_toArray, List.set_cons_zero, List.set_cons_succ]); rw [← eq8]; (try rfl)
    · intro d s w9 hd hA hC hF K hK
      have hB9 := hF.1.bel
      simp only [putL, putT, List.setIfInBounds_toArray, List.set_cons_zero, List.set_cons_succ]
      clear hB9
      as_aux_lemma =>
        go_simp
        refine hK.out (updS s 69 (Value.int .i64 x.k)) _ _ ?_ ⟨hF.1, hF.2.put 10 69 (Value.int .i64 x.k) rfl (by simp)⟩
        (simp only [putL, putT, List.setIfInBounds_toArray, List.set_cons_zero, List.set_cons_succ]); rfl
    · intro d s w9 hd hA hC hF K hK
      have hB9 := hF.1.bel
      simp only [putL, putT, List.setIfInBounds_toArray, List.set_cons_zero, List.set_cons_succ]
      clear hB9
      as_aux_lemma =>
        go_simp
        refine hK.out (updS s 70 (Value.int .i64 now)) _ _ ?_ ⟨hF.1, hF.2.put 11 70 (Value.int .i64 now) rfl (by simp)⟩
        (simp only [putL, putT, List.setIfInBounds_toArray, List.set_cons_zero, List.set_cons_succ]); rfl
    · intro d s w9 hd hA hC hF K hK
      have hB9 := hF.1.bel
      simp only [putL, putT, List.setIfInBounds_toArray, List.set_cons_zero, List.set_cons_succ]
      clear hB9
      as_aux_lemma =>
        go_simp
        refine hK.out (updS s 71 (Value.pointer (some ⟨w.heap.size, 1, none⟩))) _ _ ?_ ⟨hF.1, hF.2.put 12 71 (Value.pointer (some ⟨w.heap.size, 1, none⟩)) rfl (by simp)⟩
        (simp only [putL, putT, List.setIfInBounds_toArray, List.set_cons_zero, List.set_cons_succ]); rfl
    · intro d s w9 hd hA hC hF K hK
      have hB9 := hF.1.bel
      simp only [putL, putT, List.setIfInBounds_toArray, List.set_cons_zero, List.set_cons_succ]
      clear hB9
      as_aux_lemma =>
        have eq12 : s 71 = Value.pointer (some ⟨w.heap.size, 1, none⟩) := hF.2 (12, 71, Value.pointer (some ⟨w.heap.size, 1, none⟩)) (by simp) (hA.1)
        rw [eq12]
        have p1 := hF.1.cell 0 rfl 1 (.int .i64 (n + 1)) rfl
        go_simp
        clear p1
        refine hK.out (updS s 72 (Value.int .i64 (n + 1))) _ _ ?_ ⟨hF.1, hF.2.put 13 72 (Value.int .i64 (n + 1)) rfl (by simp)⟩
        (simp only [putL, putT, List.setIfInBounds_toArray, List.set_cons_zero, List.set_cons_succ]); rw [← eq12]; (try rfl)
    · intro d s w9 hd hA hC hF K hK
      have hB9 := hF.1.bel
      simp only [putL, putT, List.setIfInBounds_toArray, List.set_cons_zero, List.set_cons_succ]
      clear hB9
      as_aux_lemma =>
        have eq9 : s 68 = Value.int .i64 i := hF.2 (9, 68, Value.int .i64 i) (by simp) (hA.1)
        have eq10 : s 69 = Value.int .i64 x.k := hF.2 (10, 69, Value.int .i64 x.k) (by simp) (hA.2.1)
        have eq11 : s 70 = Value.int .i64 now := hF.2 (11, 70, Value.int .i64 now) (by simp) (hA.2.2.1)
        have eq13 : s 72 = Value.int .i64 (n + 1) := hF.2 (13, 72, Value.int .i64 (n + 1)) (by simp) (hA.2.2.2.1)
        rw [eq9, eq10, eq11, eq13]
        go_simp
        refine (l12Auth_any _ _ _ _ _).mono ?_
        rintro r w8 ⟨rfl, b9⟩
        simp only [authS, Sl.v]
        go_simp
        refine hK.out (updS s 73 (Value.agg #[.int .i64 x.k, .int .i64 3, .int .i64 i, .int .i64 now, .int .i64 (n + 1), .int .i64 0, .int .i64 0])) _ _ ?_ ⟨St.grow b9 hF.1, hF.2.put 14 73 (Value.agg #[.int .i64 x.k, .int .i64 3, .int .i64 i, .int .i64 now, .int .i64 (n + 1), .int .i64 0, .int .i64 0]) rfl (by simp)⟩
        (simp only [putL, putT, List.setIfInBounds_toArray, List.set_cons_zero, List.set_cons_succ]); rw [← eq9, ← eq10, ← eq11, ← eq13]; (try rfl)
    · intro d s w9 hd hA hC hF K hK
      have hB9 := hF.1.bel
      simp only [putL, putT, List.setIfInBounds_toArray, List.set_cons_zero, List.set_cons_succ]
      clear hB9
      as_aux_lemma =>
        have eq7 : s 66 = Value.agg #[Value.int .i64 x.x.k, Value.int .i64 x.x.t, Value.int .i64 x.x.a, Value.int .i64 x.x.b, Value.int .i64 x.x.c, Value.int .i64 x.x.d, Value.int .i64 x.x.e] := hF.2 (7, 66, Value.agg #[Value.int .i64 x.x.k, Value.int .i64 x.x.t, Value.int .i64 x.x.a, Value.int .i64 x.x.b, Value.int .i64 x.x.c, Value.int .i64 x.x.d, Value.int .i64 x.x.e]) (by simp) (hA.1)
        have eq14 : s 73 = Value.agg #[.int .i64 x.k, .int .i64 3, .int .i64 i, .int .i64 now, .int .i64 (n + 1), .int .i64 0, .int .i64 0] := hF.2 (14, 73, Value.agg #[.int .i64 x.k, .int .i64 3, .int .i64 i, .int .i64 now, .int .i64 (n + 1), .int .i64 0, .int .i64 0]) (by simp) (hA.2.1)
        rw [eq7, eq14]
        have hb0 : d 16 = false := hC.off 16 15 (by kernel_rfl) hd
        have hs0 : d 18 = false := hC.off 18 16 (by kernel_rfl) hb0
        obtain ⟨g0, cs0, h1, h2, h3⟩ := hF.1.of 1 rfl
        have hO2 := OwnS.two w9 hF.1.sz x.x (authS x.k i now (n + 1))
        simp only [Region.wanted, if_true]
        clear h1
        refine wp_two (.tmp 66) (.tmp 73) rfl rfl rfl rfl ?_
        refine hK.out (updS s 74 (Value.slice (some ⟨w9.heap.size, 0, none⟩) 2 2)) _ _ ?_ ⟨St.setR (St.lay _ hF.1) 1 selSM (fun W => ∃ (g : Nat) (cs : Array Value), ((upd d 15) 15 = true → (updS s 74 (Value.slice (some ⟨w9.heap.size, 0, none⟩) 2 2)) 74 = Value.slice (some ⟨g, 0, none⟩) 2 2 ∧ OwnS W B (.slice (some ⟨g, 0, none⟩) 2 2) [x.x, authS x.k i now (n + 1)]) ∧ ABlk 35 W (w.heap.size + 1 + 1) cs ∧ (((upd d 15) 16 = true → (updS s 74 (Value.slice (some ⟨w9.heap.size, 0, none⟩) 2 2)) 75 = Value.agg #[.int .i64 5, .int .i64 0, .int .i64 serv, .int .i64 0, .slice (some ⟨g, 0, none⟩) 2 2]) ∧ ((upd d 15) 18 = true → cs = #[.int .i64 5, .int .i64 0, .int .i64 serv, .int .i64 0, .slice (some ⟨g, 0, none⟩) 2 2]) ∧ ((upd d 15) 18 = false → cs = #[.int .i64 0, .int .i64 0, .int .i64 0, .int .i64 0, .slice none 0 0]))) (keep_SM ((upd d 15) 15 = true) (fun g => (updS s 74 (Value.slice (some ⟨w9.heap.size, 0, none⟩) 2 2)) 74 = Value.slice (some ⟨g, 0, none⟩) 2 2) (fun g => .slice (some ⟨g, 0, none⟩) 2 2) [x.x, authS x.k i now (n + 1)] B (w.heap.size + 1 + 1) (fun g cs => ((upd d 15) 16 = true → (updS s 74 (Value.slice (some ⟨w9.heap.size, 0, none⟩) 2 2)) 75 = Value.agg #[.int .i64 5, .int .i64 0, .int .i64 serv, .int .i64 0, .slice (some ⟨g, 0, none⟩) 2 2]) ∧ ((upd d 15) 18 = true → cs = #[.int .i64 5, .int .i64 0, .int .i64 serv, .int .i64 0, .slice (some ⟨g, 0, none⟩) 2 2]) ∧ ((upd d 15) 18 = false → cs = #[.int .i64 0, .int .i64 0, .int .i64 0, .int .i64 0, .slice none 0 0]))) ⟨w9.heap.size, cs0, fun _ => ⟨rfl, hO2⟩, h2.later (Below.alloc_ _ _), fun e => absurd (hb0.symm.trans e) (by decide), fun e => absurd (hs0.symm.trans e) (by decide), h3.2.2⟩, hF.2.skipS 15 74 _ rfl⟩
        (simp only [putL, putT, List.setIfInBounds_toArray, List.set_cons_zero, List.set_cons_succ]); rw [← eq7, ← eq14]; (try rfl)
    · intro d s w9 hd hA hC hF K hK
      have hB9 := hF.1.bel
      simp only [putL, putT, List.setIfInBounds_toArray, List.set_cons_zero, List.set_cons_succ]
      clear hB9
      as_aux_lemma =>
        have eq1 : s 60 = Value.int .i64 serv := hF.2 (1, 60, Value.int .i64 serv) (by simp) (hA.1)
        rw [eq1]
        have hs0 : d 18 = false := hC.off 18 16 (by kernel_rfl) hd
        obtain ⟨gq, cs0, h1, h2, h3⟩ := hF.1.of 1 rfl
        obtain ⟨e75, hown⟩ := h1 (hA.2.1)
        rw [e75]
        simp only [Region.wanted, if_true]
        refine wp_built 35 _ _ _ rfl (by simp only [List.map_toArray, List.map_cons, List.map_nil]; rfl) (bldMsgA w9 serv gq) ?_
        refine hK.out (updS s 75 (Value.agg #[.int .i64 5, .int .i64 0, .int .i64 serv, .int .i64 0, .slice (some ⟨gq, 0, none⟩) 2 2])) _ _ ?_ ⟨St.setR hF.1 1 selSM (fun W => ∃ (g : Nat) (cs : Array Value), ((upd d 16) 15 = true → (updS s 75 (Value.agg #[.int .i64 5, .int .i64 0, .int .i64 serv, .int .i64 0, .slice (some ⟨gq, 0, none⟩) 2 2])) 74 = Value.slice (some ⟨g, 0, none⟩) 2 2 ∧ OwnS W B (.slice (some ⟨g, 0, none⟩) 2 2) [x.x, authS x.k i now (n + 1)]) ∧ ABlk 35 W (w.heap.size + 1 + 1) cs ∧ (((upd d 16) 16 = true → (updS s 75 (Value.agg #[.int .i64 5, .int .i64 0, .int .i64 serv, .int .i64 0, .slice (some ⟨gq, 0, none⟩) 2 2])) 75 = Value.agg #[.int .i64 5, .int .i64 0, .int .i64 serv, .int .i64 0, .slice (some ⟨g, 0, none⟩) 2 2]) ∧ ((upd d 16) 18 = true → cs = #[.int .i64 5, .int .i64 0, .int .i64 serv, .int .i64 0, .slice (some ⟨g, 0, none⟩) 2 2]) ∧ ((upd d 16) 18 = false → cs = #[.int .i64 0, .int .i64 0, .int .i64 0, .int .i64 0, .slice none 0 0]))) (keep_SM ((upd d 16) 15 = true) (fun g => (updS s 75 (Value.agg #[.int .i64 5, .int .i64 0, .int .i64 serv, .int .i64 0, .slice (some ⟨gq, 0, none⟩) 2 2])) 74 = Value.slice (some ⟨g, 0, none⟩) 2 2) (fun g => .slice (some ⟨g, 0, none⟩) 2 2) [x.x, authS x.k i now (n + 1)] B (w.heap.size + 1 + 1) (fun g cs => ((upd d 16) 16 = true → (updS s 75 (Value.agg #[.int .i64 5, .int .i64 0, .int .i64 serv, .int .i64 0, .slice (some ⟨gq, 0, none⟩) 2 2])) 75 = Value.agg #[.int .i64 5, .int .i64 0, .int .i64 serv, .int .i64 0, .slice (some ⟨g, 0, none⟩) 2 2]) ∧ ((upd d 16) 18 = true → cs = #[.int .i64 5, .int .i64 0, .int .i64 serv, .int .i64 0, .slice (some ⟨g, 0, none⟩) 2 2]) ∧ ((upd d 16) 18 = false → cs = #[.int .i64 0, .int .i64 0, .int .i64 0, .int .i64 0, .slice none 0 0]))) ⟨gq, cs0, fun _ => ⟨e75, hown⟩, h2, fun _ => rfl, fun e => absurd (hs0.symm.trans e) (by decide), h3.2.2⟩, hF.2.skipS 16 75 _ rfl⟩
        (simp only [putL, putT, List.setIfInBounds_toArray, List.set_cons_zero, List.set_cons_succ]); rw [← eq1, ← e75]; (try rfl)
    · intro d s w9 hd hA hC hF K hK
      have hB9 := hF.1.bel
      simp only [putL, putT, List.setIfInBounds_toArray, List.set_cons_zero, List.set_cons_succ]
      clear hB9
      as_aux_lemma =>
        have eq0 : s 59 = Value.agg #[.int .i64 i, .int .i64 (n + 1), .slice b1 ws.length e1, .slice (some ⟨gr, 0, none⟩) cs.length e2, .slice b5 WS.length c5, .slice b4 ms.length e4] := hF.2 (0, 59, Value.agg #[.int .i64 i, .int .i64 (n + 1), .slice b1 ws.length e1, .slice (some ⟨gr, 0, none⟩) cs.length e2, .slice b5 WS.length c5, .slice b4 ms.length e4]) (by simp) (hA.1)
        rw [eq0]
        have hS := hF.1
        rw [hd] at hS
        simp only [cond_false] at hS
        have p0 := hS.cell 1 rfl 0 (.int .i64 0) rfl
        have pf0 := hS.fro 1 rfl 0
        have p1 := hS.cell 1 rfl 1 (.int .i64 0) rfl
        have pf1 := hS.fro 1 rfl 1
        have p2 := hS.cell 1 rfl 2 (.slice none 0 0) rfl
        have pf2 := hS.fro 1 rfl 2
        have p3 := hS.cell 1 rfl 3 (.slice none 0 0) rfl
        have pf3 := hS.fro 1 rfl 3
        have p4 := hS.cell 1 rfl 4 (.slice none 0 0) rfl
        have pf4 := hS.fro 1 rfl 4
        have p5 := hS.cell 1 rfl 5 (.slice none 0 0) rfl
        have pf5 := hS.fro 1 rfl 5
        go_simp
        clear p0 pf0 p1 pf1 p2 pf2 p3 pf3 p4 pf4 p5 pf5
        refine hK.out s _ _ ?_ ⟨St.put6 1 hS rfl rfl (.int .i64 i) (.int .i64 (n + 1)) (.slice b1 ws.length e1) (.slice (some ⟨gr, 0, none⟩) cs.length e2) (.slice b5 WS.length c5) (.slice b4 ms.length e4), hF.2.skip 17 rfl⟩
        (simp only [putL, putT, List.setIfInBounds_toArray, List.set_cons_zero, List.set_cons_succ]); rw [← eq0]; (try rfl)
    · intro d s w9 hd hA hC hF K hK
      have hB9 := hF.1.bel
      simp only [putL, putT, List.setIfInBounds_toArray, List.set_cons_zero, List.set_cons_succ]
      clear hB9
      as_aux_lemma =>
        obtain ⟨g, cs0, h1, h2, h3⟩ := hF.1.of 1 rfl
        have e76 := h3.1 (hA.1)
        have ec := h3.2.2 hd
        subst ec
        rw [e76]
        have p0 := h2.at 0 (.int .i64 0) rfl
        have pf0 := h2.fro 0
        have p1 := h2.at 1 (.int .i64 0) rfl
        have pf1 := h2.fro 1
        have p2 := h2.at 2 (.int .i64 0) rfl
        have pf2 := h2.fro 2
        have p3 := h2.at 3 (.int .i64 0) rfl
        have pf3 := h2.fro 3
        have p4 := h2.at 4 (.slice none 0 0) rfl
        have pf4 := h2.fro 4
        simp only [Region.wanted, if_true]
        have H123 : Hid (_ ∧ ABlk _ _ _ _ ∧ _) := ⟨h1, h2, h3⟩
        clear h1 h2 h3
        go_simp
        clear p0 pf0 p1 pf1 p2 pf2 p3 pf3 p4 pf4
        refine hK.out s _ _ ?_ ⟨hF.1.turnR 1 35 hmb H123.out.2.1 (put5_grl _ _ (.int .i64 5) (.int .i64 0) (.int .i64 serv) (.int .i64 0) (.slice (some ⟨g, 0, none⟩) 2 2)) rfl (fun _ => rfl) selSM (fun W => ∃ (g : Nat) (cs : Array Value), ((upd d 18) 15 = true → s 74 = Value.slice (some ⟨g, 0, none⟩) 2 2 ∧ OwnS W B (.slice (some ⟨g, 0, none⟩) 2 2) [x.x, authS x.k i now (n + 1)]) ∧ ABlk 35 W (w.heap.size + 1 + 1) cs ∧ (((upd d 18) 16 = true → s 75 = Value.agg #[.int .i64 5, .int .i64 0, .int .i64 serv, .int .i64 0, .slice (some ⟨g, 0, none⟩) 2 2]) ∧ ((upd d 18) 18 = true → cs = #[.int .i64 5, .int .i64 0, .int .i64 serv, .int .i64 0, .slice (some ⟨g, 0, none⟩) 2 2]) ∧ ((upd d 18) 18 = false → cs = #[.int .i64 0, .int .i64 0, .int .i64 0, .int .i64 0, .slice none 0 0]))) (keep_SM ((upd d 18) 15 = true) (fun g => s 74 = Value.slice (some ⟨g, 0, none⟩) 2 2) (fun g => .slice (some ⟨g, 0, none⟩) 2 2) [x.x, authS x.k i now (n + 1)] B (w.heap.size + 1 + 1) (fun g cs => ((upd d 18) 16 = true → s 75 = Value.agg #[.int .i64 5, .int .i64 0, .int .i64 serv, .int .i64 0, .slice (some ⟨g, 0, none⟩) 2 2]) ∧ ((upd d 18) 18 = true → cs = #[.int .i64 5, .int .i64 0, .int .i64 serv, .int .i64 0, .slice (some ⟨g, 0, none⟩) 2 2]) ∧ ((upd d 18) 18 = false → cs = #[.int .i64 0, .int .i64 0, .int .i64 0, .int .i64 0, .slice none 0 0]))) ⟨g, _, fun e => ⟨(H123.out.1 e).1, own_grl (H123.out.1 e).2 (put5_grl _ _ (.int .i64 5) (.int .i64 0) (.int .i64 serv) (.int .i64 0) (.slice (some ⟨g, 0, none⟩) 2 2)) (fun k e1 hm => own_off H123.out.2.1 (H123.out.1 e).2 (by decide) ((List.mem_singleton.1 hm) ▸ e1))⟩, H123.out.2.1.put5 (.int .i64 5) (.int .i64 0) (.int .i64 serv) (.int .i64 0) (.slice (some ⟨g, 0, none⟩) 2 2), H123.out.2.2.1, fun _ => rfl, fun e => by cases e⟩, hF.2.skip 18 rfl⟩
        (simp only [putL, putT, List.setIfInBounds_toArray, List.set_cons_zero, List.set_cons_succ]); rw [← e76]; (try rfl)
    · intro d s w9 hd hA hC hF K hK
      have hB9 := hF.1.bel
      simp only [putL, putT, List.setIfInBounds_toArray, List.set_cons_zero, List.set_cons_succ]
      clear hB9
      as_aux_lemma =>
        go_simp
        refine hK.out (updS s 8 (Value.bool true)) _ _ ?_ ⟨hF.1, hF.2.put 19 8 (Value.bool true) rfl (by simp)⟩
        (simp only [putL, putT, List.setIfInBounds_toArray, List.set_cons_zero, List.set_cons_succ]); rfl
  · intro d s w7 hA hF
    have hS := hF.1
    rw [hA.2.2.2.2.2.2.2.2.2.2.2.2.2.2.2.2.2.1] at hS
    simp only [cond_true] at hS
    have eq19 : s 8 = Value.bool true := hF.2 (19, 8, Value.bool true) (by simp) (hA.2.2.2.2.2.2.2.2.2.2.2.2.2.2.2.2.2.2.2.1)
    obtain ⟨gs, cs0, h1, h2, h3⟩ := hS.of 1 rfl
    obtain rfl := h3.2.1 (hA.2.2.2.2.2.2.2.2.2.2.2.2.2.2.2.2.2.2.1)
    have hS := ((hS.dropR 1).addT _ 35 _ h2 hmb rfl).add (selT 54) (fun W => OwnS W B (.slice (some ⟨gs, 0, none⟩) 2 2) [x.x, authS x.k i now (n + 1)]) (keep_owns _ _ _) (h1 (hA.2.2.2.2.2.2.2.2.2.2.2.2.2.2.2.1)).2
    clear h1 h2 h3
    have HS5 : Hid (St B w [⟨w.heap.size, 32, #[.int .i64 i, .int .i64 (n + 1), .slice b1 ws.length e1, .slice (some ⟨gr, 0, none⟩) cs.length e2, .slice b5 WS.length c5, .slice b4 ms.length e4]⟩, ⟨w.heap.size + 1, 32, #[.int .i64 i, .int .i64 (n + 1), .slice b1 ws.length e1, .slice (some ⟨gr, 0, none⟩) cs.length e2, .slice b5 WS.length c5, .slice b4 ms.length e4]⟩, ⟨w.heap.size + 1 + 1, 35, #[.int .i64 5, .int .i64 0, .int .i64 serv, .int .i64 0, .slice (some ⟨gs, 0, none⟩) 2 2]⟩] [⟨sel4, fun W => Own4 W B (.slice b1 ws.length e1) (.slice (some ⟨gr, 0, none⟩) cs.length e2) (.slice b5 WS.length c5) (.slice b4 ms.length e4) ws cs WS ms⟩, ⟨selT 54, fun W => OwnS W B (.slice (some ⟨gs, 0, none⟩) 2 2) [x.x, authS x.k i now (n + 1)]⟩] w7) := hS
    clear hS hF hA HS4
    simp only [putL, putT, List.setIfInBounds_toArray, List.set_cons_zero, List.set_cons_succ]
    rw [eq19]
    clear eq19
    go_wp2_with fail
    have y0 := HS5.out.cell 1 rfl 0 (.int .i64 i) rfl
    have y1 := HS5.out.cell 1 rfl 1 (.int .i64 (n + 1)) rfl
    have y2 := HS5.out.cell 1 rfl 2 (.slice b1 ws.length e1) rfl
    have y3 := HS5.out.cell 1 rfl 3 (.slice (some ⟨gr, 0, none⟩) cs.length e2) rfl
    have y4 := HS5.out.cell 1 rfl 4 (.slice b5 WS.length c5) rfl
    have y5 := HS5.out.cell 1 rfl 5 (.slice b4 ms.length e4) rfl
    have z0 := HS5.out.cell 2 rfl 0 (.int .i64 5) rfl
    have z1 := HS5.out.cell 2 rfl 1 (.int .i64 0) rfl
    have z2 := HS5.out.cell 2 rfl 2 (.int .i64 serv) rfl
    have z3 := HS5.out.cell 2 rfl 3 (.int .i64 0) rfl
    have z4 := HS5.out.cell 2 rfl 4 (.slice (some ⟨gs, 0, none⟩) 2 2) rfl
    refine bodyPost_ret (v := .tuple #[.agg #[.int .i64 i, .int .i64 (n + 1), .slice b1 ws.length e1, .slice (some ⟨gr, 0, none⟩) cs.length e2, .slice b5 WS.length c5, .slice b4 ms.length e4], .agg #[.int .i64 5, .int .i64 0, .int .i64 serv, .int .i64 0, .slice (some ⟨gs, 0, none⟩) 2 2], .bool true]) (by simp [results, Try.results45, go_sem, *]) rfl ?_
    rw [EA.out]
    exact ⟨b1, e1, (some ⟨gr, 0, none⟩), e2, b5, c5, b4, e4, _, 2, rfl, HS5.out.of 0 rfl, HS5.out.of 1 rfl, HS5.out.bel⟩

end Go.Proofs.Ythkngdbhddedpaa
