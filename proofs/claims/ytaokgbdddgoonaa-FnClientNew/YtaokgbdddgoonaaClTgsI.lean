/-
  Who asks for a ticket, and who calls: what the program answers.
-/
import Derived.Test.YtaokgbdddgoonaaClAsI
import Derived.Test.YtaokgbdddgoonaaClShow
import Derived.Test.YtaokgbdddgoonaaStJ
namespace Go.Proofs.Ytaokgbdddgoonaa
open Go.RowKit
attribute [local go_sem ↓] Go.wp_at_zero Go.wp_at_succ

theorem okCds_keys : ∀ {cs : List Cd}, cs.all okCd = true → ∀ x ∈ cs, 4 ≤ x.s ∧ x.s ≤ 6 := fun h x hx => by
  have h1 := List.all_eq_true.1 h x hx
  unfold okCd at h1
  simp [inB] at h1
  omega
theorem clientB_keys {i n : Int} {ws : List Wn} {cs : List Cd} {ss ms : List Ca} (h : clientB i n ws cs ss ms = true) : ∀ x ∈ cs, 4 ≤ x.s ∧ x.s ≤ 6 := by
  unfold clientB at h
  simp only [Bool.and_eq_true] at h
  exact okCds_keys (by simp_all)
theorem nrow_new {X : Type} (C : Cel X) (W : World) (T : TypeId) (x : X) : NRow C (W.alloc (.cells ((C.cs x).map (Value.int .i64)).toArray T)) (some ⟨W.heap.size, 0, none⟩) [x] := by
  refine Or.inr ⟨_, 0, rfl, by simp, fun j y hj => ?_⟩
  have e := numsAt_new W T (C.cs x)
  cases j with
  | zero => simp at hj; subst hj; simpa using e
  | succ j => simp at hj
theorem bldMsgT (w : World) (s f : Int) (g : Nat) : (Instr.build 41 #[(0, .int .i64 3), (2, .int .i64 s), (3, .int .i64 f), (4, .slice (some ⟨g, 0, none⟩) 2 2)]).run Try.prog w = .ok (.agg #[.int .i64 3, .int .i64 0, .int .i64 s, .int .i64 f, .slice (some ⟨g, 0, none⟩) 2 2]) w := by kernel_rfl
theorem bldMsgA (w : World) (s : Int) (g : Nat) : (Instr.build 41 #[(0, .int .i64 5), (2, .int .i64 s), (4, .slice (some ⟨g, 0, none⟩) 2 2)]).run Try.prog w = .ok (.agg #[.int .i64 5, .int .i64 0, .int .i64 s, .int .i64 0, .slice (some ⟨g, 0, none⟩) 2 2]) w := by kernel_rfl
/-- What is answered of who asks for a ticket for a service. -/
def tgsA (i n : Int) (ws : List Wn) (cs : List Cd) (ss ms : List Ca) (serv now : Int) : ClA :=
  if clientB i n ws cs ss ms = true ∧ inB now 0 100 = true then
    (if inB serv 4 5 = true ∧ lastB' 6 now cs = true ∧ ¬ n + 2 > 60 then ⟨i, n + 2, ws ++ [⟨serv, n + 2⟩], cs, ss, ms, 3, 0, serv, n + 2, [(lastC 6 now cs).x, authS (lastC 6 now cs).k i now (n + 1)], true⟩ else keepA i n ws cs ss ms)
  else noA
/-- What is answered of who calls. -/
def apA (i n : Int) (ws : List Wn) (cs : List Cd) (ss ms : List Ca) (serv now : Int) : ClA :=
  if clientB i n ws cs ss ms = true ∧ inB now 0 100 = true then
    (if inB serv 4 5 = true ∧ lastB' serv now cs = true ∧ ¬ n + 1 > 60 then ⟨i, n + 1, ws, cs, ss ++ [⟨serv, (lastC serv now cs).k, now, n + 1⟩], ms, 5, 0, serv, 0, [(lastC serv now cs).x, authS (lastC serv now cs).k i now (n + 1)], true⟩ else keepA i n ws cs ss ms)
  else noA
set_option maxHeartbeats 8000000 in
set_option maxRecDepth 100000 in
theorem implClientTgs_any (i n : Int) (a1 a2 a3 a4 : Option Addr) (c1 c2 c3 c4 : Nat) (ws : List Wn) (cs : List Cd) (ss ms : List Ca) (serv now : Int) (w : World) (h : CRows w a1 a2 a3 a4 ws cs ss ms) (hc4 : ms.length ≤ c4) (hx1 : ws.length ≤ 1048576) (hx2 : cs.length ≤ 1048576) (hx3 : ss.length ≤ 1048576) (hx4 : ms.length ≤ 1048576) :
    Calls Try.prog 14 #[.agg #[.int .i64 i, .int .i64 n, .slice a1 ws.length c1, .slice a2 cs.length c2, .slice a3 ss.length c3, .slice a4 ms.length c4], .int .i64 serv, .int .i64 now] w fun r w' => ClRet w.heap.size w w' (tgsA i n ws cs ss ms serv now) r := by
  have HH : Hid (CRows w a1 a2 a3 a4 ws cs ss ms) := h
  clear h
  go_enter Try.func14, Try.ntmps14
  go_wp2_with fail
  obtain ⟨w1, hX9, HS1⟩ : ∃ X, X = (((w.alloc (.cells #[.int .i64 i, .int .i64 n, .slice a1 ws.length c1, .slice a2 cs.length c2, .slice a3 ss.length c3, .slice a4 ms.length c4] 36)).alloc (.cells #[.int .i64 0, .int .i64 0, .slice none 0 0, .slice none 0 0, .slice none 0 0, .slice none 0 0] 36)).alloc (.cells #[.int .i64 0, .int .i64 0, .int .i64 0, .int .i64 0, .slice none 0 0] 41)) ∧ Hid (St w.heap.size w [⟨w.heap.size, 36, #[.int .i64 i, .int .i64 n, .slice a1 ws.length c1, .slice a2 cs.length c2, .slice a3 ss.length c3, .slice a4 ms.length c4]⟩, ⟨w.heap.size + 1, 36, #[.int .i64 0, .int .i64 0, .slice none 0 0, .slice none 0 0, .slice none 0 0, .slice none 0 0]⟩, ⟨w.heap.size + 1 + 1, 41, #[.int .i64 0, .int .i64 0, .int .i64 0, .int .i64 0, .slice none 0 0]⟩] [] X) := ⟨_, rfl, Hid.mk' (by
    have h := (St.alloc #[.int .i64 0, .int .i64 0, .int .i64 0, .int .i64 0, .slice none 0 0] 41 (St.alloc #[.int .i64 0, .int .i64 0, .slice none 0 0, .slice none 0 0, .slice none 0 0, .slice none 0 0] 36 (St.alloc #[.int .i64 i, .int .i64 n, .slice a1 ws.length c1, .slice a2 cs.length c2, .slice a3 ss.length c3, .slice a4 ms.length c4] 36 (St.new w))))
    try simp only [World.size_alloc] at h
    try simp only [World.size_setCell] at h
    exact h)⟩
  rw [← hX9]
  clear hX9
  refine (implClientOk_any i n _ _ _ _ _ _ _ _ ws cs ss ms _ (HH.out.later HS1.out.bel) hc4 hx1 hx2 hx3 hx4).mono ?_
  rintro r w2 ⟨rfl, b9⟩
  have HS2 : Hid (St w.heap.size w [⟨w.heap.size, 36, #[.int .i64 i, .int .i64 n, .slice a1 ws.length c1, .slice a2 cs.length c2, .slice a3 ss.length c3, .slice a4 ms.length c4]⟩, ⟨w.heap.size + 1, 36, #[.int .i64 0, .int .i64 0, .slice none 0 0, .slice none 0 0, .slice none 0 0, .slice none 0 0]⟩, ⟨w.heap.size + 1 + 1, 41, #[.int .i64 0, .int .i64 0, .int .i64 0, .int .i64 0, .slice none 0 0]⟩] [] w2) := Hid.mk' (by
    have h := St.grow b9 HS1.out
    try simp only [World.size_alloc] at h
    try simp only [World.size_setCell] at h
    exact h)
  clear HS1
  clear b9
  cases u1 : clientB i n ws cs ss ms
  · skip
    have EA : Hid (tgsA i n ws cs ss ms serv now = noA) := Hid.mk' (by unfold tgsA; rw [if_neg (by rw [u1]; simp)])
    have z0 := HS2.out.cell 1 rfl 0 (.int .i64 0) rfl
    have zf0 := HS2.out.fro 1 rfl 0
    have z1 := HS2.out.cell 1 rfl 1 (.int .i64 0) rfl
    have zf1 := HS2.out.fro 1 rfl 1
    have z2 := HS2.out.cell 1 rfl 2 (.slice none 0 0) rfl
    have zf2 := HS2.out.fro 1 rfl 2
    have z3 := HS2.out.cell 1 rfl 3 (.slice none 0 0) rfl
    have zf3 := HS2.out.fro 1 rfl 3
    have z4 := HS2.out.cell 1 rfl 4 (.slice none 0 0) rfl
    have zf4 := HS2.out.fro 1 rfl 4
    have z5 := HS2.out.cell 1 rfl 5 (.slice none 0 0) rfl
    have zf5 := HS2.out.fro 1 rfl 5
    have y0 := HS2.out.cell 2 rfl 0 (.int .i64 0) rfl
    have yf0 := HS2.out.fro 2 rfl 0
    have y1 := HS2.out.cell 2 rfl 1 (.int .i64 0) rfl
    have yf1 := HS2.out.fro 2 rfl 1
    have y2 := HS2.out.cell 2 rfl 2 (.int .i64 0) rfl
    have yf2 := HS2.out.fro 2 rfl 2
    have y3 := HS2.out.cell 2 rfl 3 (.int .i64 0) rfl
    have yf3 := HS2.out.fro 2 rfl 3
    have y4 := HS2.out.cell 2 rfl 4 (.slice none 0 0) rfl
    have yf4 := HS2.out.fro 2 rfl 4
    go_wp2_with fail
    clear z0 zf0 z1 zf1 z2 zf2 z3 zf3 z4 zf4 z5 zf5 y0 yf0 y1 yf1 y2 yf2 y3 yf3 y4 yf4
    obtain ⟨V, hX9, HS3⟩ : ∃ X, X = (((((((((((w2.setCell ⟨w.heap.size + 1, 0, none⟩ (.int .i64 0)).setCell ⟨w.heap.size + 1, 1, none⟩ (.int .i64 0)).setCell ⟨w.heap.size + 1, 2, none⟩ (.slice none 0 0)).setCell ⟨w.heap.size + 1, 3, none⟩ (.slice none 0 0)).setCell ⟨w.heap.size + 1, 4, none⟩ (.slice none 0 0)).setCell ⟨w.heap.size + 1, 5, none⟩ (.slice none 0 0)).setCell ⟨w.heap.size + 1 + 1, 0, none⟩ (.int .i64 0)).setCell ⟨w.heap.size + 1 + 1, 1, none⟩ (.int .i64 0)).setCell ⟨w.heap.size + 1 + 1, 2, none⟩ (.int .i64 0)).setCell ⟨w.heap.size + 1 + 1, 3, none⟩ (.int .i64 0)).setCell ⟨w.heap.size + 1 + 1, 4, none⟩ (.slice none 0 0)) ∧ Hid (St w.heap.size w [⟨w.heap.size, 36, #[.int .i64 i, .int .i64 n, .slice a1 ws.length c1, .slice a2 cs.length c2, .slice a3 ss.length c3, .slice a4 ms.length c4]⟩, ⟨w.heap.size + 1, 36, #[.int .i64 0, .int .i64 0, .slice none 0 0, .slice none 0 0, .slice none 0 0, .slice none 0 0]⟩, ⟨w.heap.size + 1 + 1, 41, #[.int .i64 0, .int .i64 0, .int .i64 0, .int .i64 0, .slice none 0 0]⟩] [] X) := ⟨_, rfl, Hid.mk' (by
      have h := (St.put5 2 (St.put6 1 HS2.out rfl rfl (.int .i64 0) (.int .i64 0) (.slice none 0 0) (.slice none 0 0) (.slice none 0 0) (.slice none 0 0)) rfl rfl (.int .i64 0) (.int .i64 0) (.int .i64 0) (.int .i64 0) (.slice none 0 0))
      try simp only [World.size_alloc] at h
      try simp only [World.size_setCell] at h
      exact h)⟩
    rw [← hX9]
    clear hX9
    clear HS2
    have y0 := HS3.out.cell 1 rfl 0 (.int .i64 0) rfl
    have y1 := HS3.out.cell 1 rfl 1 (.int .i64 0) rfl
    have y2 := HS3.out.cell 1 rfl 2 (.slice none 0 0) rfl
    have y3 := HS3.out.cell 1 rfl 3 (.slice none 0 0) rfl
    have y4 := HS3.out.cell 1 rfl 4 (.slice none 0 0) rfl
    have y5 := HS3.out.cell 1 rfl 5 (.slice none 0 0) rfl
    have z0 := HS3.out.cell 2 rfl 0 (.int .i64 0) rfl
    have z1 := HS3.out.cell 2 rfl 1 (.int .i64 0) rfl
    have z2 := HS3.out.cell 2 rfl 2 (.int .i64 0) rfl
    have z3 := HS3.out.cell 2 rfl 3 (.int .i64 0) rfl
    have z4 := HS3.out.cell 2 rfl 4 (.slice none 0 0) rfl
    refine bodyPost_ret (v := .tuple #[.agg #[.int .i64 0, .int .i64 0, .slice none 0 0, .slice none 0 0, .slice none 0 0, .slice none 0 0], .agg #[.int .i64 0, .int .i64 0, .int .i64 0, .int .i64 0, .slice none 0 0], .bool false]) (by simp [results, Try.results14, go_sem, *]) rfl ?_
    rw [EA.out]
    exact ⟨none, 0, none, 0, none, 0, none, 0, none, 0, rfl, Own4.nil _ _, OwnS.nilB _ _, HS3.out.bel⟩
  go_wp2_with fail
  refine (isTime_any _ _).mono ?_
  rintro r w9 ⟨rfl, he9⟩
  obtain rfl : w2 = w9 := he9.symm
  cases u2 : inB now 0 100
  · skip
    have EA : Hid (tgsA i n ws cs ss ms serv now = noA) := Hid.mk' (by unfold tgsA; rw [if_neg (by rw [u1, u2]; simp)])
    have z0 := HS2.out.cell 1 rfl 0 (.int .i64 0) rfl
    have zf0 := HS2.out.fro 1 rfl 0
    have z1 := HS2.out.cell 1 rfl 1 (.int .i64 0) rfl
    have zf1 := HS2.out.fro 1 rfl 1
    have z2 := HS2.out.cell 1 rfl 2 (.slice none 0 0) rfl
    have zf2 := HS2.out.fro 1 rfl 2
    have z3 := HS2.out.cell 1 rfl 3 (.slice none 0 0) rfl
    have zf3 := HS2.out.fro 1 rfl 3
    have z4 := HS2.out.cell 1 rfl 4 (.slice none 0 0) rfl
    have zf4 := HS2.out.fro 1 rfl 4
    have z5 := HS2.out.cell 1 rfl 5 (.slice none 0 0) rfl
    have zf5 := HS2.out.fro 1 rfl 5
    have y0 := HS2.out.cell 2 rfl 0 (.int .i64 0) rfl
    have yf0 := HS2.out.fro 2 rfl 0
    have y1 := HS2.out.cell 2 rfl 1 (.int .i64 0) rfl
    have yf1 := HS2.out.fro 2 rfl 1
    have y2 := HS2.out.cell 2 rfl 2 (.int .i64 0) rfl
    have yf2 := HS2.out.fro 2 rfl 2
    have y3 := HS2.out.cell 2 rfl 3 (.int .i64 0) rfl
    have yf3 := HS2.out.fro 2 rfl 3
    have y4 := HS2.out.cell 2 rfl 4 (.slice none 0 0) rfl
    have yf4 := HS2.out.fro 2 rfl 4
    go_wp2_with fail
    clear z0 zf0 z1 zf1 z2 zf2 z3 zf3 z4 zf4 z5 zf5 y0 yf0 y1 yf1 y2 yf2 y3 yf3 y4 yf4
    obtain ⟨V, hX9, HS3⟩ : ∃ X, X = (((((((((((w2.setCell ⟨w.heap.size + 1, 0, none⟩ (.int .i64 0)).setCell ⟨w.heap.size + 1, 1, none⟩ (.int .i64 0)).setCell ⟨w.heap.size + 1, 2, none⟩ (.slice none 0 0)).setCell ⟨w.heap.size + 1, 3, none⟩ (.slice none 0 0)).setCell ⟨w.heap.size + 1, 4, none⟩ (.slice none 0 0)).setCell ⟨w.heap.size + 1, 5, none⟩ (.slice none 0 0)).setCell ⟨w.heap.size + 1 + 1, 0, none⟩ (.int .i64 0)).setCell ⟨w.heap.size + 1 + 1, 1, none⟩ (.int .i64 0)).setCell ⟨w.heap.size + 1 + 1, 2, none⟩ (.int .i64 0)).setCell ⟨w.heap.size + 1 + 1, 3, none⟩ (.int .i64 0)).setCell ⟨w.heap.size + 1 + 1, 4, none⟩ (.slice none 0 0)) ∧ Hid (St w.heap.size w [⟨w.heap.size, 36, #[.int .i64 i, .int .i64 n, .slice a1 ws.length c1, .slice a2 cs.length c2, .slice a3 ss.length c3, .slice a4 ms.length c4]⟩, ⟨w.heap.size + 1, 36, #[.int .i64 0, .int .i64 0, .slice none 0 0, .slice none 0 0, .slice none 0 0, .slice none 0 0]⟩, ⟨w.heap.size + 1 + 1, 41, #[.int .i64 0, .int .i64 0, .int .i64 0, .int .i64 0, .slice none 0 0]⟩] [] X) := ⟨_, rfl, Hid.mk' (by
      have h := (St.put5 2 (St.put6 1 HS2.out rfl rfl (.int .i64 0) (.int .i64 0) (.slice none 0 0) (.slice none 0 0) (.slice none 0 0) (.slice none 0 0)) rfl rfl (.int .i64 0) (.int .i64 0) (.int .i64 0) (.int .i64 0) (.slice none 0 0))
      try simp only [World.size_alloc] at h
      try simp only [World.size_setCell] at h
      exact h)⟩
    rw [← hX9]
    clear hX9
    clear HS2
    have y0 := HS3.out.cell 1 rfl 0 (.int .i64 0) rfl
    have y1 := HS3.out.cell 1 rfl 1 (.int .i64 0) rfl
    have y2 := HS3.out.cell 1 rfl 2 (.slice none 0 0) rfl
    have y3 := HS3.out.cell 1 rfl 3 (.slice none 0 0) rfl
    have y4 := HS3.out.cell 1 rfl 4 (.slice none 0 0) rfl
    have y5 := HS3.out.cell 1 rfl 5 (.slice none 0 0) rfl
    have z0 := HS3.out.cell 2 rfl 0 (.int .i64 0) rfl
    have z1 := HS3.out.cell 2 rfl 1 (.int .i64 0) rfl
    have z2 := HS3.out.cell 2 rfl 2 (.int .i64 0) rfl
    have z3 := HS3.out.cell 2 rfl 3 (.int .i64 0) rfl
    have z4 := HS3.out.cell 2 rfl 4 (.slice none 0 0) rfl
    refine bodyPost_ret (v := .tuple #[.agg #[.int .i64 0, .int .i64 0, .slice none 0 0, .slice none 0 0, .slice none 0 0, .slice none 0 0], .agg #[.int .i64 0, .int .i64 0, .int .i64 0, .int .i64 0, .slice none 0 0], .bool false]) (by simp [results, Try.results14, go_sem, *]) rfl ?_
    rw [EA.out]
    exact ⟨none, 0, none, 0, none, 0, none, 0, none, 0, rfl, Own4.nil _ _, OwnS.nilB _ _, HS3.out.bel⟩
  have hb := clientB_num u1
  have hk := clientB_keys u1
  have p0 := HS2.out.cell 0 rfl 0 (.int .i64 i) rfl
  have p1 := HS2.out.cell 0 rfl 1 (.int .i64 n) rfl
  have p2 := HS2.out.cell 0 rfl 2 (.slice a1 ws.length c1) rfl
  have p3 := HS2.out.cell 0 rfl 3 (.slice a2 cs.length c2) rfl
  have p4 := HS2.out.cell 0 rfl 4 (.slice a3 ss.length c3) rfl
  have p5 := HS2.out.cell 0 rfl 5 (.slice a4 ms.length c4) rfl
  go_wp2_with fail
  clear p0 p1 p2 p3 p4 p5
  refine (copyClient_any i n _ _ _ _ _ _ _ _ ws cs ss ms _ (HH.out.later HS2.out.bel) hx1 hx2 hx3 hx4).mono ?_
  rintro r w3 ⟨b1, b2, b3, b4, e1, e2, e3, e4, rfl, o4, b9⟩
  have hB : w.heap.size ≤ w2.heap.size := HS2.out.bel.size
  have hB3 : w2.heap.size ≤ w3.heap.size := b9.size
  have HS3 : Hid (St w.heap.size w [⟨w.heap.size, 36, #[.int .i64 i, .int .i64 n, .slice a1 ws.length c1, .slice a2 cs.length c2, .slice a3 ss.length c3, .slice a4 ms.length c4]⟩, ⟨w.heap.size + 1, 36, #[.int .i64 0, .int .i64 0, .slice none 0 0, .slice none 0 0, .slice none 0 0, .slice none 0 0]⟩, ⟨w.heap.size + 1 + 1, 41, #[.int .i64 0, .int .i64 0, .int .i64 0, .int .i64 0, .slice none 0 0]⟩] [] w3) := Hid.mk' (by
    have h := St.grow b9 HS2.out
    try simp only [World.size_alloc] at h
    try simp only [World.size_setCell] at h
    exact h)
  clear HS2
  clear b9
  have HS4 : Hid (St w.heap.size w [⟨w.heap.size, 36, #[.int .i64 i, .int .i64 n, .slice a1 ws.length c1, .slice a2 cs.length c2, .slice a3 ss.length c3, .slice a4 ms.length c4]⟩, ⟨w.heap.size + 1, 36, #[.int .i64 0, .int .i64 0, .slice none 0 0, .slice none 0 0, .slice none 0 0, .slice none 0 0]⟩, ⟨w.heap.size + 1 + 1, 41, #[.int .i64 0, .int .i64 0, .int .i64 0, .int .i64 0, .slice none 0 0]⟩] [⟨sel4, fun W => Own4 W w2.heap.size (.slice b1 ws.length e1) (.slice b2 cs.length e2) (.slice b3 ss.length e3) (.slice b4 ms.length e4) ws cs ss ms⟩] w3) := Hid.mk' (by
    have h := St.add (sel4) (fun W => Own4 W w2.heap.size (.slice b1 ws.length e1) (.slice b2 cs.length e2) (.slice b3 ss.length e3) (.slice b4 ms.length e4) ws cs ss ms) (keep_own4 _ _ _ _ _ _ _ _ _) (o4) HS3.out
    try simp only [World.size_alloc] at h
    try simp only [World.size_setCell] at h
    exact h)
  clear HS3
  clear o4
  have p0 := HS4.out.cell 0 rfl 0 (.int .i64 i) rfl
  have p1 := HS4.out.cell 0 rfl 1 (.int .i64 n) rfl
  have p2 := HS4.out.cell 0 rfl 2 (.slice a1 ws.length c1) rfl
  have p3 := HS4.out.cell 0 rfl 3 (.slice a2 cs.length c2) rfl
  have p4 := HS4.out.cell 0 rfl 4 (.slice a3 ss.length c3) rfl
  have p5 := HS4.out.cell 0 rfl 5 (.slice a4 ms.length c4) rfl
  have lt0 := (HS4.out.lt 0 rfl).2
  have lt1 := (HS4.out.lt 1 rfl).2
  have lt2 := (HS4.out.lt 2 rfl).2
  go_wp2_with fail
  clear p0 p1 p2 p3 p4 p5 lt0 lt1 lt2
  refine (lastingCred_any i n _ _ _ a2 c2 cs 6 now _ (HH.out.later (St.bel (St.alloc #[.int .i64 i, .int .i64 n, .slice b1 ws.length e1, .slice b2 cs.length e2, .slice b3 ss.length e3, .slice b4 ms.length e4] 36 HS4.out))).w2 hk hx2 (litC_wf (by omega) (by omega)) ⟨_, _, _, rfl⟩ ⟨_, _, _, rfl⟩ ⟨_, _, _, rfl⟩).mono ?_
  rintro r w4 ⟨rfl, b9⟩
  have hB4 := b9.size
  simp only [World.size_alloc] at hB4
  have HS5 : Hid (St w.heap.size w [⟨w.heap.size, 36, #[.int .i64 i, .int .i64 n, .slice a1 ws.length c1, .slice a2 cs.length c2, .slice a3 ss.length c3, .slice a4 ms.length c4]⟩, ⟨w.heap.size + 1, 36, #[.int .i64 0, .int .i64 0, .slice none 0 0, .slice none 0 0, .slice none 0 0, .slice none 0 0]⟩, ⟨w.heap.size + 1 + 1, 41, #[.int .i64 0, .int .i64 0, .int .i64 0, .int .i64 0, .slice none 0 0]⟩, ⟨w3.heap.size, 36, #[.int .i64 i, .int .i64 n, .slice b1 ws.length e1, .slice b2 cs.length e2, .slice b3 ss.length e3, .slice b4 ms.length e4]⟩] [⟨sel4, fun W => Own4 W w2.heap.size (.slice b1 ws.length e1) (.slice b2 cs.length e2) (.slice b3 ss.length e3) (.slice b4 ms.length e4) ws cs ss ms⟩] w4) := Hid.mk' (by
    have h := St.grow b9 (St.alloc #[.int .i64 i, .int .i64 n, .slice b1 ws.length e1, .slice b2 cs.length e2, .slice b3 ss.length e3, .slice b4 ms.length e4] 36 HS4.out)
    try simp only [World.size_alloc] at h
    try simp only [World.size_setCell] at h
    exact h)
  clear HS4
  clear b9
  obtain ⟨x, hX⟩ : ∃ x, x = lastC 6 now cs := ⟨_, rfl⟩
  obtain ⟨lb, hL⟩ : ∃ lb, lb = lastB' 6 now cs := ⟨_, rfl⟩
  rw [← hX, ← hL]
  have HX : Hid (x = lastC 6 now cs ∧ lb = lastB' 6 now cs) := ⟨hX, hL⟩
  clear hX hL
  unfold Cd.v
  have hw1 : wrap64 (n + 2) = n + 2 := by unfold wrap64; omega
  have lt0 := (HS5.out.lt 0 rfl).2
  have lt1 := (HS5.out.lt 1 rfl).2
  have lt2 := (HS5.out.lt 2 rfl).2
  have lt3 := (HS5.out.lt 3 rfl).2
  have p0 := HS5.out.cell 0 rfl 0 (.int .i64 i) rfl
  have p1 := HS5.out.cell 0 rfl 1 (.int .i64 n) rfl
  have z0 := HS5.out.cell 1 rfl 0 (.int .i64 0) rfl
  have zf0 := HS5.out.fro 1 rfl 0
  have z1 := HS5.out.cell 1 rfl 1 (.int .i64 0) rfl
  have zf1 := HS5.out.fro 1 rfl 1
  have z2 := HS5.out.cell 1 rfl 2 (.slice none 0 0) rfl
  have zf2 := HS5.out.fro 1 rfl 2
  have z3 := HS5.out.cell 1 rfl 3 (.slice none 0 0) rfl
  have zf3 := HS5.out.fro 1 rfl 3
  have z4 := HS5.out.cell 1 rfl 4 (.slice none 0 0) rfl
  have zf4 := HS5.out.fro 1 rfl 4
  have z5 := HS5.out.cell 1 rfl 5 (.slice none 0 0) rfl
  have zf5 := HS5.out.fro 1 rfl 5
  have y0 := HS5.out.cell 2 rfl 0 (.int .i64 0) rfl
  have yf0 := HS5.out.fro 2 rfl 0
  have y1 := HS5.out.cell 2 rfl 1 (.int .i64 0) rfl
  have yf1 := HS5.out.fro 2 rfl 1
  have y2 := HS5.out.cell 2 rfl 2 (.int .i64 0) rfl
  have yf2 := HS5.out.fro 2 rfl 2
  have y3 := HS5.out.cell 2 rfl 3 (.int .i64 0) rfl
  have yf3 := HS5.out.fro 2 rfl 3
  have y4 := HS5.out.cell 2 rfl 4 (.slice none 0 0) rfl
  have yf4 := HS5.out.fro 2 rfl 4
  have q0 := HS5.out.cell 3 rfl 0 (.int .i64 i) rfl
  have qf0 := HS5.out.fro 3 rfl 0
  have q1 := HS5.out.cell 3 rfl 1 (.int .i64 n) rfl
  have qf1 := HS5.out.fro 3 rfl 1
  have q2 := HS5.out.cell 3 rfl 2 (.slice b1 ws.length e1) rfl
  have qf2 := HS5.out.fro 3 rfl 2
  have q3 := HS5.out.cell 3 rfl 3 (.slice b2 cs.length e2) rfl
  have qf3 := HS5.out.fro 3 rfl 3
  have q4 := HS5.out.cell 3 rfl 4 (.slice b3 ss.length e3) rfl
  have qf4 := HS5.out.fro 3 rfl 4
  have q5 := HS5.out.cell 3 rfl 5 (.slice b4 ms.length e4) rfl
  have qf5 := HS5.out.fro 3 rfl 5
  go_wp2_with fail
  refine (isServ_any _ _).mono ?_
  rintro r w9 ⟨rfl, rfl⟩
  cases u3 : inB serv 4 5
  · skip
    have EA : Hid (tgsA i n ws cs ss ms serv now = keepA i n ws cs ss ms) := Hid.mk' (by unfold tgsA; rw [if_pos ⟨u1, u2⟩, if_neg (by rw [u3]; simp)])
    go_wp2_with fail
    clear lt0 lt1 lt2 lt3 p0 p1 z0 zf0 z1 zf1 z2 zf2 z3 zf3 z4 zf4 z5 zf5 y0 yf0 y1 yf1 y2 yf2 y3 yf3 y4 yf4 q0 qf0 q1 qf1 q2 qf2 q3 qf3 q4 qf4 q5 qf5
    obtain ⟨V, hX9, HS6⟩ : ∃ X, X = ((((((((((((w4.setCell ⟨w.heap.size + 1, 0, none⟩ (.int .i64 i)).setCell ⟨w.heap.size + 1, 1, none⟩ (.int .i64 n)).setCell ⟨w.heap.size + 1, 2, none⟩ (.slice b1 ws.length e1)).setCell ⟨w.heap.size + 1, 3, none⟩ (.slice b2 cs.length e2)).setCell ⟨w.heap.size + 1, 4, none⟩ (.slice b3 ss.length e3)).setCell ⟨w.heap.size + 1, 5, none⟩ (.slice b4 ms.length e4)).setCell ⟨w.heap.size + 1 + 1, 0, none⟩ (.int .i64 0)).setCell ⟨w.heap.size + 1 + 1, 1, none⟩ (.int .i64 0)).setCell ⟨w.heap.size + 1 + 1, 2, none⟩ (.int .i64 0)).setCell ⟨w.heap.size + 1 + 1, 3, none⟩ (.int .i64 0)).setCell ⟨w.heap.size + 1 + 1, 4, none⟩ (.slice none 0 0)).alloc (.cells #[.int .i64 x.s, .int .i64 x.k, .int .i64 x.u, .int .i64 x.x.k, .int .i64 x.x.t, .int .i64 x.x.a, .int .i64 x.x.b, .int .i64 x.x.c, .int .i64 x.x.d, .int .i64 x.x.e] 58)) ∧ Hid (St w.heap.size w [⟨w.heap.size, 36, #[.int .i64 i, .int .i64 n, .slice a1 ws.length c1, .slice a2 cs.length c2, .slice a3 ss.length c3, .slice a4 ms.length c4]⟩, ⟨w.heap.size + 1, 36, #[.int .i64 i, .int .i64 n, .slice b1 ws.length e1, .slice b2 cs.length e2, .slice b3 ss.length e3, .slice b4 ms.length e4]⟩, ⟨w.heap.size + 1 + 1, 41, #[.int .i64 0, .int .i64 0, .int .i64 0, .int .i64 0, .slice none 0 0]⟩, ⟨w3.heap.size, 36, #[.int .i64 i, .int .i64 n, .slice b1 ws.length e1, .slice b2 cs.length e2, .slice b3 ss.length e3, .slice b4 ms.length e4]⟩] [⟨sel4, fun W => Own4 W w2.heap.size (.slice b1 ws.length e1) (.slice b2 cs.length e2) (.slice b3 ss.length e3) (.slice b4 ms.length e4) ws cs ss ms⟩] X) := ⟨_, rfl, Hid.mk' (by
      have h := (St.lay (.cells #[.int .i64 x.s, .int .i64 x.k, .int .i64 x.u, .int .i64 x.x.k, .int .i64 x.x.t, .int .i64 x.x.a, .int .i64 x.x.b, .int .i64 x.x.c, .int .i64 x.x.d, .int .i64 x.x.e] 58) (St.put5 2 (St.put6 1 HS5.out rfl rfl (.int .i64 i) (.int .i64 n) (.slice b1 ws.length e1) (.slice b2 cs.length e2) (.slice b3 ss.length e3) (.slice b4 ms.length e4)) rfl rfl (.int .i64 0) (.int .i64 0) (.int .i64 0) (.int .i64 0) (.slice none 0 0)))
      try simp only [World.size_alloc] at h
      try simp only [World.size_setCell] at h
      exact h)⟩
    rw [← hX9]
    clear hX9
    clear HS5
    have y0 := HS6.out.cell 1 rfl 0 (.int .i64 i) rfl
    have y1 := HS6.out.cell 1 rfl 1 (.int .i64 n) rfl
    have y2 := HS6.out.cell 1 rfl 2 (.slice b1 ws.length e1) rfl
    have y3 := HS6.out.cell 1 rfl 3 (.slice b2 cs.length e2) rfl
    have y4 := HS6.out.cell 1 rfl 4 (.slice b3 ss.length e3) rfl
    have y5 := HS6.out.cell 1 rfl 5 (.slice b4 ms.length e4) rfl
    have z0 := HS6.out.cell 2 rfl 0 (.int .i64 0) rfl
    have z1 := HS6.out.cell 2 rfl 1 (.int .i64 0) rfl
    have z2 := HS6.out.cell 2 rfl 2 (.int .i64 0) rfl
    have z3 := HS6.out.cell 2 rfl 3 (.int .i64 0) rfl
    have z4 := HS6.out.cell 2 rfl 4 (.slice none 0 0) rfl
    refine bodyPost_ret (v := .tuple #[.agg #[.int .i64 i, .int .i64 n, .slice b1 ws.length e1, .slice b2 cs.length e2, .slice b3 ss.length e3, .slice b4 ms.length e4], .agg #[.int .i64 0, .int .i64 0, .int .i64 0, .int .i64 0, .slice none 0 0], .bool false]) (by simp [results, Try.results14, go_sem, *]) rfl ?_
    rw [EA.out]
    exact ⟨b1, e1, b2, e2, b3, e3, b4, e4, none, 0, rfl, (HS6.out.of 0 rfl).lessB hB, OwnS.nilB _ _, HS6.out.bel⟩
  cases lb
  · skip
    have EA : Hid (tgsA i n ws cs ss ms serv now = keepA i n ws cs ss ms) := Hid.mk' (by unfold tgsA; rw [if_pos ⟨u1, u2⟩, if_neg (by rw [← HX.out.2]; simp)])
    go_wp2_with fail
    clear lt0 lt1 lt2 lt3 p0 p1 z0 zf0 z1 zf1 z2 zf2 z3 zf3 z4 zf4 z5 zf5 y0 yf0 y1 yf1 y2 yf2 y3 yf3 y4 yf4 q0 qf0 q1 qf1 q2 qf2 q3 qf3 q4 qf4 q5 qf5
    obtain ⟨V, hX9, HS6⟩ : ∃ X, X = ((((((((((((w4.setCell ⟨w.heap.size + 1, 0, none⟩ (.int .i64 i)).setCell ⟨w.heap.size + 1, 1, none⟩ (.int .i64 n)).setCell ⟨w.heap.size + 1, 2, none⟩ (.slice b1 ws.length e1)).setCell ⟨w.heap.size + 1, 3, none⟩ (.slice b2 cs.length e2)).setCell ⟨w.heap.size + 1, 4, none⟩ (.slice b3 ss.length e3)).setCell ⟨w.heap.size + 1, 5, none⟩ (.slice b4 ms.length e4)).setCell ⟨w.heap.size + 1 + 1, 0, none⟩ (.int .i64 0)).setCell ⟨w.heap.size + 1 + 1, 1, none⟩ (.int .i64 0)).setCell ⟨w.heap.size + 1 + 1, 2, none⟩ (.int .i64 0)).setCell ⟨w.heap.size + 1 + 1, 3, none⟩ (.int .i64 0)).setCell ⟨w.heap.size + 1 + 1, 4, none⟩ (.slice none 0 0)).alloc (.cells #[.int .i64 x.s, .int .i64 x.k, .int .i64 x.u, .int .i64 x.x.k, .int .i64 x.x.t, .int .i64 x.x.a, .int .i64 x.x.b, .int .i64 x.x.c, .int .i64 x.x.d, .int .i64 x.x.e] 58)) ∧ Hid (St w.heap.size w [⟨w.heap.size, 36, #[.int .i64 i, .int .i64 n, .slice a1 ws.length c1, .slice a2 cs.length c2, .slice a3 ss.length c3, .slice a4 ms.length c4]⟩, ⟨w.heap.size + 1, 36, #[.int .i64 i, .int .i64 n, .slice b1 ws.length e1, .slice b2 cs.length e2, .slice b3 ss.length e3, .slice b4 ms.length e4]⟩, ⟨w.heap.size + 1 + 1, 41, #[.int .i64 0, .int .i64 0, .int .i64 0, .int .i64 0, .slice none 0 0]⟩, ⟨w3.heap.size, 36, #[.int .i64 i, .int .i64 n, .slice b1 ws.length e1, .slice b2 cs.length e2, .slice b3 ss.length e3, .slice b4 ms.length e4]⟩] [⟨sel4, fun W => Own4 W w2.heap.size (.slice b1 ws.length e1) (.slice b2 cs.length e2) (.slice b3 ss.length e3) (.slice b4 ms.length e4) ws cs ss ms⟩] X) := ⟨_, rfl, Hid.mk' (by
      have h := (St.lay (.cells #[.int .i64 x.s, .int .i64 x.k, .int .i64 x.u, .int .i64 x.x.k, .int .i64 x.x.t, .int .i64 x.x.a, .int .i64 x.x.b, .int .i64 x.x.c, .int .i64 x.x.d, .int .i64 x.x.e] 58) (St.put5 2 (St.put6 1 HS5.out rfl rfl (.int .i64 i) (.int .i64 n) (.slice b1 ws.length e1) (.slice b2 cs.length e2) (.slice b3 ss.length e3) (.slice b4 ms.length e4)) rfl rfl (.int .i64 0) (.int .i64 0) (.int .i64 0) (.int .i64 0) (.slice none 0 0)))
      try simp only [World.size_alloc] at h
      try simp only [World.size_setCell] at h
      exact h)⟩
    rw [← hX9]
    clear hX9
    clear HS5
    have y0 := HS6.out.cell 1 rfl 0 (.int .i64 i) rfl
    have y1 := HS6.out.cell 1 rfl 1 (.int .i64 n) rfl
    have y2 := HS6.out.cell 1 rfl 2 (.slice b1 ws.length e1) rfl
    have y3 := HS6.out.cell 1 rfl 3 (.slice b2 cs.length e2) rfl
    have y4 := HS6.out.cell 1 rfl 4 (.slice b3 ss.length e3) rfl
    have y5 := HS6.out.cell 1 rfl 5 (.slice b4 ms.length e4) rfl
    have z0 := HS6.out.cell 2 rfl 0 (.int .i64 0) rfl
    have z1 := HS6.out.cell 2 rfl 1 (.int .i64 0) rfl
    have z2 := HS6.out.cell 2 rfl 2 (.int .i64 0) rfl
    have z3 := HS6.out.cell 2 rfl 3 (.int .i64 0) rfl
    have z4 := HS6.out.cell 2 rfl 4 (.slice none 0 0) rfl
    refine bodyPost_ret (v := .tuple #[.agg #[.int .i64 i, .int .i64 n, .slice b1 ws.length e1, .slice b2 cs.length e2, .slice b3 ss.length e3, .slice b4 ms.length e4], .agg #[.int .i64 0, .int .i64 0, .int .i64 0, .int .i64 0, .slice none 0 0], .bool false]) (by simp [results, Try.results14, go_sem, *]) rfl ?_
    rw [EA.out]
    exact ⟨b1, e1, b2, e2, b3, e3, b4, e4, none, 0, rfl, (HS6.out.of 0 rfl).lessB hB, OwnS.nilB _ _, HS6.out.bel⟩
  by_cases hm : n + 2 > 60
  · skip
    have EA : Hid (tgsA i n ws cs ss ms serv now = keepA i n ws cs ss ms) := Hid.mk' (by unfold tgsA; rw [if_pos ⟨u1, u2⟩, if_neg (by intro hq; exact hq.2.2 hm)])
    go_wp2_with fail
    clear lt0 lt1 lt2 lt3 p0 p1 z0 zf0 z1 zf1 z2 zf2 z3 zf3 z4 zf4 z5 zf5 y0 yf0 y1 yf1 y2 yf2 y3 yf3 y4 yf4 q0 qf0 q1 qf1 q2 qf2 q3 qf3 q4 qf4 q5 qf5
    obtain ⟨V, hX9, HS6⟩ : ∃ X, X = ((((((((((((w4.setCell ⟨w.heap.size + 1, 0, none⟩ (.int .i64 i)).setCell ⟨w.heap.size + 1, 1, none⟩ (.int .i64 n)).setCell ⟨w.heap.size + 1, 2, none⟩ (.slice b1 ws.length e1)).setCell ⟨w.heap.size + 1, 3, none⟩ (.slice b2 cs.length e2)).setCell ⟨w.heap.size + 1, 4, none⟩ (.slice b3 ss.length e3)).setCell ⟨w.heap.size + 1, 5, none⟩ (.slice b4 ms.length e4)).setCell ⟨w.heap.size + 1 + 1, 0, none⟩ (.int .i64 0)).setCell ⟨w.heap.size + 1 + 1, 1, none⟩ (.int .i64 0)).setCell ⟨w.heap.size + 1 + 1, 2, none⟩ (.int .i64 0)).setCell ⟨w.heap.size + 1 + 1, 3, none⟩ (.int .i64 0)).setCell ⟨w.heap.size + 1 + 1, 4, none⟩ (.slice none 0 0)).alloc (.cells #[.int .i64 x.s, .int .i64 x.k, .int .i64 x.u, .int .i64 x.x.k, .int .i64 x.x.t, .int .i64 x.x.a, .int .i64 x.x.b, .int .i64 x.x.c, .int .i64 x.x.d, .int .i64 x.x.e] 58)) ∧ Hid (St w.heap.size w [⟨w.heap.size, 36, #[.int .i64 i, .int .i64 n, .slice a1 ws.length c1, .slice a2 cs.length c2, .slice a3 ss.length c3, .slice a4 ms.length c4]⟩, ⟨w.heap.size + 1, 36, #[.int .i64 i, .int .i64 n, .slice b1 ws.length e1, .slice b2 cs.length e2, .slice b3 ss.length e3, .slice b4 ms.length e4]⟩, ⟨w.heap.size + 1 + 1, 41, #[.int .i64 0, .int .i64 0, .int .i64 0, .int .i64 0, .slice none 0 0]⟩, ⟨w3.heap.size, 36, #[.int .i64 i, .int .i64 n, .slice b1 ws.length e1, .slice b2 cs.length e2, .slice b3 ss.length e3, .slice b4 ms.length e4]⟩] [⟨sel4, fun W => Own4 W w2.heap.size (.slice b1 ws.length e1) (.slice b2 cs.length e2) (.slice b3 ss.length e3) (.slice b4 ms.length e4) ws cs ss ms⟩] X) := ⟨_, rfl, Hid.mk' (by
      have h := (St.lay (.cells #[.int .i64 x.s, .int .i64 x.k, .int .i64 x.u, .int .i64 x.x.k, .int .i64 x.x.t, .int .i64 x.x.a, .int .i64 x.x.b, .int .i64 x.x.c, .int .i64 x.x.d, .int .i64 x.x.e] 58) (St.put5 2 (St.put6 1 HS5.out rfl rfl (.int .i64 i) (.int .i64 n) (.slice b1 ws.length e1) (.slice b2 cs.length e2) (.slice b3 ss.length e3) (.slice b4 ms.length e4)) rfl rfl (.int .i64 0) (.int .i64 0) (.int .i64 0) (.int .i64 0) (.slice none 0 0)))
      try simp only [World.size_alloc] at h
      try simp only [World.size_setCell] at h
      exact h)⟩
    rw [← hX9]
    clear hX9
    clear HS5
    have y0 := HS6.out.cell 1 rfl 0 (.int .i64 i) rfl
    have y1 := HS6.out.cell 1 rfl 1 (.int .i64 n) rfl
    have y2 := HS6.out.cell 1 rfl 2 (.slice b1 ws.length e1) rfl
    have y3 := HS6.out.cell 1 rfl 3 (.slice b2 cs.length e2) rfl
    have y4 := HS6.out.cell 1 rfl 4 (.slice b3 ss.length e3) rfl
    have y5 := HS6.out.cell 1 rfl 5 (.slice b4 ms.length e4) rfl
    have z0 := HS6.out.cell 2 rfl 0 (.int .i64 0) rfl
    have z1 := HS6.out.cell 2 rfl 1 (.int .i64 0) rfl
    have z2 := HS6.out.cell 2 rfl 2 (.int .i64 0) rfl
    have z3 := HS6.out.cell 2 rfl 3 (.int .i64 0) rfl
    have z4 := HS6.out.cell 2 rfl 4 (.slice none 0 0) rfl
    refine bodyPost_ret (v := .tuple #[.agg #[.int .i64 i, .int .i64 n, .slice b1 ws.length e1, .slice b2 cs.length e2, .slice b3 ss.length e3, .slice b4 ms.length e4], .agg #[.int .i64 0, .int .i64 0, .int .i64 0, .int .i64 0, .slice none 0 0], .bool false]) (by simp [results, Try.results14, go_sem, *]) rfl ?_
    rw [EA.out]
    exact ⟨b1, e1, b2, e2, b3, e3, b4, e4, none, 0, rfl, (HS6.out.of 0 rfl).lessB hB, OwnS.nilB _ _, HS6.out.bel⟩
  have EA : Hid (tgsA i n ws cs ss ms serv now = ⟨i, n + 2, ws ++ [⟨serv, n + 2⟩], cs, ss, ms, 3, 0, serv, n + 2, [(lastC 6 now cs).x, authS (lastC 6 now cs).k i now (n + 1)], true⟩) := Hid.mk' (by unfold tgsA; rw [if_pos ⟨u1, u2⟩, if_pos ⟨u3, HX.out.2.symm, hm⟩])
  rw [← HX.out.1] at EA
  have HR : Hid (St w.heap.size w [⟨w.heap.size, 36, #[.int .i64 i, .int .i64 n, .slice a1 ws.length c1, .slice a2 cs.length c2, .slice a3 ss.length c3, .slice a4 ms.length c4]⟩, ⟨w.heap.size + 1, 36, #[.int .i64 0, .int .i64 0, .slice none 0 0, .slice none 0 0, .slice none 0 0, .slice none 0 0]⟩, ⟨w.heap.size + 1 + 1, 41, #[.int .i64 0, .int .i64 0, .int .i64 0, .int .i64 0, .slice none 0 0]⟩, ⟨w3.heap.size, 36, #[.int .i64 i, .int .i64 (n + 2), .slice b1 ws.length e1, .slice b2 cs.length e2, .slice b3 ss.length e3, .slice b4 ms.length e4]⟩, ⟨w4.heap.size, 58, #[.int .i64 x.s, .int .i64 x.k, .int .i64 x.u, .int .i64 x.x.k, .int .i64 x.x.t, .int .i64 x.x.a, .int .i64 x.x.b, .int .i64 x.x.c, .int .i64 x.x.d, .int .i64 x.x.e]⟩] [⟨sel4, fun W => Own4 W w2.heap.size (.slice b1 ws.length e1) (.slice b2 cs.length e2) (.slice b3 ss.length e3) (.slice b4 ms.length e4) ws cs ss ms⟩] (((w4.setCell ⟨w3.heap.size, 1, none⟩ (.int .i64 (n + 2))).alloc (.cells #[.int .i64 x.s, .int .i64 x.k, .int .i64 x.u, .int .i64 x.x.k, .int .i64 x.x.t, .int .i64 x.x.a, .int .i64 x.x.b, .int .i64 x.x.c, .int .i64 x.x.d, .int .i64 x.x.e] 58)).alloc (.cells #[.int .i64 serv, .int .i64 (n + 2)] 54))) := Hid.mk' (by
    have h := (St.lay (.cells #[.int .i64 serv, .int .i64 (n + 2)] 54) (St.alloc #[.int .i64 x.s, .int .i64 x.k, .int .i64 x.u, .int .i64 x.x.k, .int .i64 x.x.t, .int .i64 x.x.a, .int .i64 x.x.b, .int .i64 x.x.c, .int .i64 x.x.d, .int .i64 x.x.e] 58 (St.set 3 (q := 1) (v := .int .i64 (n + 2)) HS5.out rfl rfl)))
    try simp only [World.size_alloc] at h
    try simp only [World.size_setCell] at h
    exact h)
  have HN : Hid (NRow celW (((w4.setCell ⟨w3.heap.size, 1, none⟩ (.int .i64 (n + 2))).alloc (.cells #[.int .i64 x.s, .int .i64 x.k, .int .i64 x.u, .int .i64 x.x.k, .int .i64 x.x.t, .int .i64 x.x.a, .int .i64 x.x.b, .int .i64 x.x.c, .int .i64 x.x.d, .int .i64 x.x.e] 58)).alloc (.cells #[.int .i64 serv, .int .i64 (n + 2)] 54)) (some ⟨w4.heap.size + 1, 0, none⟩) [⟨serv, n + 2⟩]) := Hid.mk' (by
    have h := nrow_new celW ((w4.setCell ⟨w3.heap.size, 1, none⟩ (.int .i64 (n + 2))).alloc (.cells #[.int .i64 x.s, .int .i64 x.k, .int .i64 x.u, .int .i64 x.x.k, .int .i64 x.x.t, .int .i64 x.x.a, .int .i64 x.x.b, .int .i64 x.x.c, .int .i64 x.x.d, .int .i64 x.x.e] 58)) 54 ⟨serv, n + 2⟩
    simp only [World.size_alloc, World.size_setCell] at h
    exact h)
  go_wp2_with (at_builtin; apply stopHere)
  clear lt0 lt1 lt2 lt3 p0 p1 z0 zf0 z1 zf1 z2 zf2 z3 zf3 z4 zf4 z5 zf5 y0 yf0 y1 yf1 y2 yf2 y3 yf3 y4 yf4 q0 qf0 q1 qf1 q2 qf2 q3 qf3 q4 qf4 q5 qf5
  intro hst
  clear hst
  have hO := HR.out.of 0 rfl
  refine wpList_app_one celW _ 54 33 16 _ Try.underlying33 infoWant rfl (by omega) rfl (.tmp 51) (.tmp 56) rfl w2.heap.size (.slice b1 ws.length e1) ws rfl hO.o1 (some ⟨w4.heap.size + 1, 0, none⟩) ⟨serv, n + 2⟩ 1 rfl HN.out (by omega) (by simp; omega) ?_
  intro b5 c5 w5 o5 g5 k5
  generalize hWS : (ws ++ [(⟨serv, n + 2⟩ : Wn)]) = WS at o5 EA k5 ⊢
  clear hWS
  have HS6 : Hid (St w.heap.size w [⟨w.heap.size, 36, #[.int .i64 i, .int .i64 n, .slice a1 ws.length c1, .slice a2 cs.length c2, .slice a3 ss.length c3, .slice a4 ms.length c4]⟩, ⟨w.heap.size + 1, 36, #[.int .i64 0, .int .i64 0, .slice none 0 0, .slice none 0 0, .slice none 0 0, .slice none 0 0]⟩, ⟨w.heap.size + 1 + 1, 41, #[.int .i64 0, .int .i64 0, .int .i64 0, .int .i64 0, .slice none 0 0]⟩, ⟨w3.heap.size, 36, #[.int .i64 i, .int .i64 (n + 2), .slice b1 ws.length e1, .slice b2 cs.length e2, .slice b3 ss.length e3, .slice b4 ms.length e4]⟩, ⟨w4.heap.size, 58, #[.int .i64 x.s, .int .i64 x.k, .int .i64 x.u, .int .i64 x.x.k, .int .i64 x.x.t, .int .i64 x.x.a, .int .i64 x.x.b, .int .i64 x.x.c, .int .i64 x.x.d, .int .i64 x.x.e]⟩] [⟨sel4, fun W => Own4 W w2.heap.size (.slice b5 WS.length c5) (.slice b2 cs.length e2) (.slice b3 ss.length e3) (.slice b4 ms.length e4) WS cs ss ms⟩] w5) := Hid.mk' (by
    have h := St.appR HR.out 0 54 (fun b e => ⟨Nat.le_trans hB (hO.o1.lt b e).1, hO.o1.type e⟩) g5 rfl (fun _ => rfl) sel4 (fun W => Own4 W w2.heap.size (.slice b5 WS.length c5) (.slice b2 cs.length e2) (.slice b3 ss.length e3) (.slice b4 ms.length e4) WS cs ss ms) (keep_own4 _ _ _ _ _ _ _ _ _) (own4_app1 hO o5 g5)
    try simp only [World.size_alloc] at h
    try simp only [World.size_setCell] at h
    exact h)
  clear HS5
  clear hO o5 g5 k5 HR HN
  have lt0 := (HS6.out.lt 0 rfl).2
  have lt1 := (HS6.out.lt 1 rfl).2
  have lt2 := (HS6.out.lt 2 rfl).2
  have lt3 := (HS6.out.lt 3 rfl).2
  have lt4 := (HS6.out.lt 4 rfl).2
  have p0 := HS6.out.cell 0 rfl 0 (.int .i64 i) rfl
  have q0 := HS6.out.cell 3 rfl 0 (.int .i64 i) rfl
  have qf0 := HS6.out.fro 3 rfl 0
  have q1 := HS6.out.cell 3 rfl 1 (.int .i64 (n + 2)) rfl
  have qf1 := HS6.out.fro 3 rfl 1
  have q2 := HS6.out.cell 3 rfl 2 (.slice b1 ws.length e1) rfl
  have qf2 := HS6.out.fro 3 rfl 2
  have q3 := HS6.out.cell 3 rfl 3 (.slice b2 cs.length e2) rfl
  have qf3 := HS6.out.fro 3 rfl 3
  have q4 := HS6.out.cell 3 rfl 4 (.slice b3 ss.length e3) rfl
  have qf4 := HS6.out.fro 3 rfl 4
  have q5 := HS6.out.cell 3 rfl 5 (.slice b4 ms.length e4) rfl
  have qf5 := HS6.out.fro 3 rfl 5
  have x0 := HS6.out.cell 4 rfl 0 (.int .i64 x.s) rfl
  have x1 := HS6.out.cell 4 rfl 1 (.int .i64 x.k) rfl
  have x2 := HS6.out.cell 4 rfl 2 (.int .i64 x.u) rfl
  have x3 := HS6.out.cell 4 rfl 3 (.int .i64 x.x.k) rfl
  have x4 := HS6.out.cell 4 rfl 4 (.int .i64 x.x.t) rfl
  have x5 := HS6.out.cell 4 rfl 5 (.int .i64 x.x.a) rfl
  have x6 := HS6.out.cell 4 rfl 6 (.int .i64 x.x.b) rfl
  have x7 := HS6.out.cell 4 rfl 7 (.int .i64 x.x.c) rfl
  have x8 := HS6.out.cell 4 rfl 8 (.int .i64 x.x.d) rfl
  have x9 := HS6.out.cell 4 rfl 9 (.int .i64 x.x.e) rfl
  have hw2 : wrap64 (n + 2 - 1) = n + 1 := by unfold wrap64; omega
  go_wp2_with fail
  clear lt0 lt1 lt2 lt3 lt4 p0 q0 qf0 q1 qf1 q2 qf2 q3 qf3 q4 qf4 q5 qf5 x0 x1 x2 x3 x4 x5 x6 x7 x8 x9
  have hsz : w.heap.size ≤ (w5.setCell ⟨w3.heap.size, 2, none⟩ (.slice b5 WS.length c5)).heap.size := (St.bel (St.set 3 (q := 2) (v := .slice b5 WS.length c5) HS6.out rfl rfl)).size
  rw [show n + 2 - 1 = n + 1 by omega]
  refine (showCred_any x i now (n + 1) _).mono ?_
  rintro r w6 ⟨g6, rfl, o6, b9⟩
  have HS7 : Hid (St w.heap.size w [⟨w.heap.size, 36, #[.int .i64 i, .int .i64 n, .slice a1 ws.length c1, .slice a2 cs.length c2, .slice a3 ss.length c3, .slice a4 ms.length c4]⟩, ⟨w.heap.size + 1, 36, #[.int .i64 0, .int .i64 0, .slice none 0 0, .slice none 0 0, .slice none 0 0, .slice none 0 0]⟩, ⟨w.heap.size + 1 + 1, 41, #[.int .i64 0, .int .i64 0, .int .i64 0, .int .i64 0, .slice none 0 0]⟩, ⟨w3.heap.size, 36, #[.int .i64 i, .int .i64 (n + 2), .slice b5 WS.length c5, .slice b2 cs.length e2, .slice b3 ss.length e3, .slice b4 ms.length e4]⟩, ⟨w4.heap.size, 58, #[.int .i64 x.s, .int .i64 x.k, .int .i64 x.u, .int .i64 x.x.k, .int .i64 x.x.t, .int .i64 x.x.a, .int .i64 x.x.b, .int .i64 x.x.c, .int .i64 x.x.d, .int .i64 x.x.e]⟩] [⟨sel4, fun W => Own4 W w2.heap.size (.slice b5 WS.length c5) (.slice b2 cs.length e2) (.slice b3 ss.length e3) (.slice b4 ms.length e4) WS cs ss ms⟩] w6) := Hid.mk' (by
    have h := St.grow b9 (St.set 3 (q := 2) (v := .slice b5 WS.length c5) HS6.out rfl rfl)
    try simp only [World.size_alloc] at h
    try simp only [World.size_setCell] at h
    exact h)
  clear HS6
  clear b9
  have HS8 : Hid (St w.heap.size w [⟨w.heap.size, 36, #[.int .i64 i, .int .i64 n, .slice a1 ws.length c1, .slice a2 cs.length c2, .slice a3 ss.length c3, .slice a4 ms.length c4]⟩, ⟨w.heap.size + 1, 36, #[.int .i64 0, .int .i64 0, .slice none 0 0, .slice none 0 0, .slice none 0 0, .slice none 0 0]⟩, ⟨w.heap.size + 1 + 1, 41, #[.int .i64 0, .int .i64 0, .int .i64 0, .int .i64 0, .slice none 0 0]⟩, ⟨w3.heap.size, 36, #[.int .i64 i, .int .i64 (n + 2), .slice b5 WS.length c5, .slice b2 cs.length e2, .slice b3 ss.length e3, .slice b4 ms.length e4]⟩, ⟨w4.heap.size, 58, #[.int .i64 x.s, .int .i64 x.k, .int .i64 x.u, .int .i64 x.x.k, .int .i64 x.x.t, .int .i64 x.x.a, .int .i64 x.x.b, .int .i64 x.x.c, .int .i64 x.x.d, .int .i64 x.x.e]⟩] [⟨sel4, fun W => Own4 W w2.heap.size (.slice b5 WS.length c5) (.slice b2 cs.length e2) (.slice b3 ss.length e3) (.slice b4 ms.length e4) WS cs ss ms⟩, ⟨selT 56, fun W => OwnS W w.heap.size (.slice (some ⟨g6, 0, none⟩) 2 2) [x.x, authS x.k i now (n + 1)]⟩] w6) := Hid.mk' (by
    have h := St.add (selT 56) (fun W => OwnS W w.heap.size (.slice (some ⟨g6, 0, none⟩) 2 2) [x.x, authS x.k i now (n + 1)]) (keep_owns _ _ _) (OwnS.lessB o6 hsz) HS7.out
    try simp only [World.size_alloc] at h
    try simp only [World.size_setCell] at h
    exact h)
  clear HS7
  clear o6 hsz
  have lt0 := (HS8.out.lt 0 rfl).2
  have lt1 := (HS8.out.lt 1 rfl).2
  have lt2 := (HS8.out.lt 2 rfl).2
  have lt3 := (HS8.out.lt 3 rfl).2
  have lt4 := (HS8.out.lt 4 rfl).2
  go_wp2_with fail
  clear lt0 lt1 lt2 lt3 lt4
  refine wp_region_walk [8, 67, 68, 69, 70, 71, 72] (fun d s W => St w.heap.size w [⟨w.heap.size, 36, #[.int .i64 i, .int .i64 n, .slice a1 ws.length c1, .slice a2 cs.length c2, .slice a3 ss.length c3, .slice a4 ms.length c4]⟩, ⟨w.heap.size + 1, 36, bif d 6 then #[.int .i64 i, .int .i64 (n + 2), .slice b5 WS.length c5, .slice b2 cs.length e2, .slice b3 ss.length e3, .slice b4 ms.length e4] else #[.int .i64 0, .int .i64 0, .slice none 0 0, .slice none 0 0, .slice none 0 0, .slice none 0 0]⟩, ⟨w.heap.size + 1 + 1, 41, bif d 7 then #[.int .i64 3, .int .i64 0, .int .i64 serv, .int .i64 (n + 2), .slice (some ⟨g6, 0, none⟩) 2 2] else #[.int .i64 0, .int .i64 0, .int .i64 0, .int .i64 0, .slice none 0 0]⟩, ⟨w3.heap.size, 36, #[.int .i64 i, .int .i64 (n + 2), .slice b5 WS.length c5, .slice b2 cs.length e2, .slice b3 ss.length e3, .slice b4 ms.length e4]⟩, ⟨w4.heap.size, 58, #[.int .i64 x.s, .int .i64 x.k, .int .i64 x.u, .int .i64 x.x.k, .int .i64 x.x.t, .int .i64 x.x.a, .int .i64 x.x.b, .int .i64 x.x.c, .int .i64 x.x.d, .int .i64 x.x.e]⟩] [⟨sel4, fun W => Own4 W w2.heap.size (.slice b5 WS.length c5) (.slice b2 cs.length e2) (.slice b3 ss.length e3) (.slice b4 ms.length e4) WS cs ss ms⟩, ⟨selT 56, fun W => OwnS W w.heap.size (.slice (some ⟨g6, 0, none⟩) 2 2) [x.x, authS x.k i now (n + 1)]⟩] W ∧ Looks [(0, 67, Value.agg #[.int .i64 i, .int .i64 (n + 2), .slice b5 WS.length c5, .slice b2 cs.length e2, .slice b3 ss.length e3, .slice b4 ms.length e4]), (1, 68, Value.int .i64 serv), (2, 69, Value.pointer (some ⟨w3.heap.size, 1, none⟩)), (3, 70, Value.int .i64 (n + 2)), (4, 71, Value.slice (some ⟨g6, 0, none⟩) 2 2), (5, 72, Value.agg #[.int .i64 3, .int .i64 0, .int .i64 serv, .int .i64 (n + 2), .slice (some ⟨g6, 0, none⟩) 2 2]), (8, 8, Value.bool true)] d s) [0, 1, 2, 3, 4, 5, 6, 7, 8] (by kernel_rfl) (by kernel_rfl) (by kernel_rfl) ?_ ?_ ?_
  · intro s
    exact ⟨HS8.out.drew, Looks.none _ _⟩
  · refine StepsR.cons (k := 0) [] (by kernel_rfl) ?_ (StepsR.cons (k := 1) [] (by kernel_rfl) ?_ (StepsR.cons (k := 2) [] (by kernel_rfl) ?_ (StepsR.cons (k := 3) [2] (by kernel_rfl) ?_ (StepsR.cons (k := 4) [] (by kernel_rfl) ?_ (StepsR.cons (k := 5) [1, 3, 4] (by kernel_rfl) ?_ (StepsR.cons (k := 6) [0] (by kernel_rfl) ?_ (StepsR.cons (k := 7) [5] (by kernel_rfl) ?_ (StepsR.cons (k := 8) [] (by kernel_rfl) ?_ (StepsR.nil)))))))))
    · intro d s w9 hd hA hC hF K hK
      have hB9 := hF.1.bel
      simp only [putL, putT, List.setIfInBounds_toArray, List.set_cons_zero, List.set_cons_succ]
      clear hB9
      as_aux_lemma =>
        have p0 := hF.1.cell 3 rfl 0 (.int .i64 i) rfl
        have p1 := hF.1.cell 3 rfl 1 (.int .i64 (n + 2)) rfl
        have p2 := hF.1.cell 3 rfl 2 (.slice b5 WS.length c5) rfl
        have p3 := hF.1.cell 3 rfl 3 (.slice b2 cs.length e2) rfl
        have p4 := hF.1.cell 3 rfl 4 (.slice b3 ss.length e3) rfl
        have p5 := hF.1.cell 3 rfl 5 (.slice b4 ms.length e4) rfl
        go_simp
        clear p0 p1 p2 p3 p4 p5
        refine hK.out (updS s 67 (Value.agg #[.int .i64 i, .int .i64 (n + 2), .slice b5 WS.length c5, .slice b2 cs.length e2, .slice b3 ss.length e3, .slice b4 ms.length e4])) _ _ ?_ ⟨hF.1, hF.2.put 0 67 (Value.agg #[.int .i64 i, .int .i64 (n + 2), .slice b5 WS.length c5, .slice b2 cs.length e2, .slice b3 ss.length e3, .slice b4 ms.length e4]) rfl (by simp)⟩
        (simp only [putL, putT, List.setIfInBounds_toArray, List.set_cons_zero, List.set_cons_succ]); rfl
    · intro d s w9 hd hA hC hF K hK
      have hB9 := hF.1.bel
      simp only [putL, putT, List.setIfInBounds_toArray, List.set_cons_zero, List.set_cons_succ]
      clear hB9
      as_aux_lemma =>
        go_simp
        refine hK.out (updS s 68 (Value.int .i64 serv)) _ _ ?_ ⟨hF.1, hF.2.put 1 68 (Value.int .i64 serv) rfl (by simp)⟩
        (simp only [putL, putT, List.setIfInBounds_toArray, List.set_cons_zero, List.set_cons_succ]); rfl
    · intro d s w9 hd hA hC hF K hK
      have hB9 := hF.1.bel
      simp only [putL, putT, List.setIfInBounds_toArray, List.set_cons_zero, List.set_cons_succ]
      clear hB9
      as_aux_lemma =>
        go_simp
        refine hK.out (updS s 69 (Value.pointer (some ⟨w3.heap.size, 1, none⟩))) _ _ ?_ ⟨hF.1, hF.2.put 2 69 (Value.pointer (some ⟨w3.heap.size, 1, none⟩)) rfl (by simp)⟩
        (simp only [putL, putT, List.setIfInBounds_toArray, List.set_cons_zero, List.set_cons_succ]); rfl
    · intro d s w9 hd hA hC hF K hK
      have hB9 := hF.1.bel
      simp only [putL, putT, List.setIfInBounds_toArray, List.set_cons_zero, List.set_cons_succ]
      clear hB9
      as_aux_lemma =>
        have e2 : s 69 = Value.pointer (some ⟨w3.heap.size, 1, none⟩) := hF.2 (2, 69, Value.pointer (some ⟨w3.heap.size, 1, none⟩)) (by simp) (hA.1)
        rw [e2]
        have p1 := hF.1.cell 3 rfl 1 (.int .i64 (n + 2)) rfl
        go_simp
        clear p1
        refine hK.out (updS s 70 (Value.int .i64 (n + 2))) _ _ ?_ ⟨hF.1, hF.2.put 3 70 (Value.int .i64 (n + 2)) rfl (by simp)⟩
        (simp only [putL, putT, List.setIfInBounds_toArray, List.set_cons_zero, List.set_cons_succ]); rw [← e2]; (try rfl)
    · intro d s w9 hd hA hC hF K hK
      have hB9 := hF.1.bel
      simp only [putL, putT, List.setIfInBounds_toArray, List.set_cons_zero, List.set_cons_succ]
      clear hB9
      as_aux_lemma =>
        go_simp
        refine hK.out (updS s 71 (Value.slice (some ⟨g6, 0, none⟩) 2 2)) _ _ ?_ ⟨hF.1, hF.2.put 4 71 (Value.slice (some ⟨g6, 0, none⟩) 2 2) rfl (by simp)⟩
        (simp only [putL, putT, List.setIfInBounds_toArray, List.set_cons_zero, List.set_cons_succ]); rfl
    · intro d s w9 hd hA hC hF K hK
      have hB9 := hF.1.bel
      simp only [putL, putT, List.setIfInBounds_toArray, List.set_cons_zero, List.set_cons_succ]
      clear hB9
      as_aux_lemma =>
        have e1 : s 68 = Value.int .i64 serv := hF.2 (1, 68, Value.int .i64 serv) (by simp) (hA.1)
        have e3 : s 70 = Value.int .i64 (n + 2) := hF.2 (3, 70, Value.int .i64 (n + 2)) (by simp) (hA.2.1)
        have e4 : s 71 = Value.slice (some ⟨g6, 0, none⟩) 2 2 := hF.2 (4, 71, Value.slice (some ⟨g6, 0, none⟩) 2 2) (by simp) (hA.2.2.1)
        rw [e1, e3, e4]
        simp only [Region.wanted, if_true]
        refine wp_built 41 _ _ _ rfl (by simp only [List.map_toArray, List.map_cons, List.map_nil]; rfl) (bldMsgT w9 serv (n + 2) g6) ?_
        refine hK.out (updS s 72 (Value.agg #[.int .i64 3, .int .i64 0, .int .i64 serv, .int .i64 (n + 2), .slice (some ⟨g6, 0, none⟩) 2 2])) _ _ ?_ ⟨hF.1, hF.2.put 5 72 (Value.agg #[.int .i64 3, .int .i64 0, .int .i64 serv, .int .i64 (n + 2), .slice (some ⟨g6, 0, none⟩) 2 2]) rfl (by simp)⟩
        (simp only [putL, putT, List.setIfInBounds_toArray, List.set_cons_zero, List.set_cons_succ]); rw [← e1, ← e3, ← e4]; (try rfl)
    · intro d s w9 hd hA hC hF K hK
      have hB9 := hF.1.bel
      simp only [putL, putT, List.setIfInBounds_toArray, List.set_cons_zero, List.set_cons_succ]
      clear hB9
      as_aux_lemma =>
        have e0 : s 67 = Value.agg #[.int .i64 i, .int .i64 (n + 2), .slice b5 WS.length c5, .slice b2 cs.length e2, .slice b3 ss.length e3, .slice b4 ms.length e4] := hF.2 (0, 67, Value.agg #[.int .i64 i, .int .i64 (n + 2), .slice b5 WS.length c5, .slice b2 cs.length e2, .slice b3 ss.length e3, .slice b4 ms.length e4]) (by simp) (hA.1)
        rw [e0]
        have hS := hF.1
        rw [hd] at hS
        simp only [cond_false] at hS
        have p0 := hS.cell 1 rfl 0 (.int .i64 0) rfl
        have pf0 := hS.fro 1 rfl 0
        have p1 := hS.cell 1 rfl 1 (.int .i64 0) rfl
        have pf1 := hS.fro 1 rfl 1
        have p2 := hS.cell 1 rfl 2 (.slice none 0 0) rfl
        have pf2 := hS.fro 1 rfl 2
        have p3 := hS.cell 1 rfl 3 (.slice none 0 0) rfl
        have pf3 := hS.fro 1 rfl 3
        have p4 := hS.cell 1 rfl 4 (.slice none 0 0) rfl
        have pf4 := hS.fro 1 rfl 4
        have p5 := hS.cell 1 rfl 5 (.slice none 0 0) rfl
        have pf5 := hS.fro 1 rfl 5
        go_simp
        clear p0 pf0 p1 pf1 p2 pf2 p3 pf3 p4 pf4 p5 pf5
        refine hK.out s _ _ ?_ ⟨St.put6 1 hS rfl rfl (.int .i64 i) (.int .i64 (n + 2)) (.slice b5 WS.length c5) (.slice b2 cs.length e2) (.slice b3 ss.length e3) (.slice b4 ms.length e4), hF.2.skip 6 rfl⟩
        (simp only [putL, putT, List.setIfInBounds_toArray, List.set_cons_zero, List.set_cons_succ]); rw [← e0]; (try rfl)
    · intro d s w9 hd hA hC hF K hK
      have hB9 := hF.1.bel
      simp only [putL, putT, List.setIfInBounds_toArray, List.set_cons_zero, List.set_cons_succ]
      clear hB9
      as_aux_lemma =>
        have e5 : s 72 = Value.agg #[.int .i64 3, .int .i64 0, .int .i64 serv, .int .i64 (n + 2), .slice (some ⟨g6, 0, none⟩) 2 2] := hF.2 (5, 72, Value.agg #[.int .i64 3, .int .i64 0, .int .i64 serv, .int .i64 (n + 2), .slice (some ⟨g6, 0, none⟩) 2 2]) (by simp) (hA.1)
        rw [e5]
        have hS := hF.1
        rw [hd] at hS
        simp only [cond_false] at hS
        have p0 := hS.cell 2 rfl 0 (.int .i64 0) rfl
        have pf0 := hS.fro 2 rfl 0
        have p1 := hS.cell 2 rfl 1 (.int .i64 0) rfl
        have pf1 := hS.fro 2 rfl 1
        have p2 := hS.cell 2 rfl 2 (.int .i64 0) rfl
        have pf2 := hS.fro 2 rfl 2
        have p3 := hS.cell 2 rfl 3 (.int .i64 0) rfl
        have pf3 := hS.fro 2 rfl 3
        have p4 := hS.cell 2 rfl 4 (.slice none 0 0) rfl
        have pf4 := hS.fro 2 rfl 4
        go_simp
        clear p0 pf0 p1 pf1 p2 pf2 p3 pf3 p4 pf4
        refine hK.out s _ _ ?_ ⟨St.put5 2 hS rfl rfl (.int .i64 3) (.int .i64 0) (.int .i64 serv) (.int .i64 (n + 2)) (.slice (some ⟨g6, 0, none⟩) 2 2), hF.2.skip 7 rfl⟩
        (simp only [putL, putT, List.setIfInBounds_toArray, List.set_cons_zero, List.set_cons_succ]); rw [← e5]; (try rfl)
    · intro d s w9 hd hA hC hF K hK
      have hB9 := hF.1.bel
      simp only [putL, putT, List.setIfInBounds_toArray, List.set_cons_zero, List.set_cons_succ]
      clear hB9
      as_aux_lemma =>
        go_simp
        refine hK.out (updS s 8 (Value.bool true)) _ _ ?_ ⟨hF.1, hF.2.put 8 8 (Value.bool true) rfl (by simp)⟩
        (simp only [putL, putT, List.setIfInBounds_toArray, List.set_cons_zero, List.set_cons_succ]); rfl
  · intro d s w7 hA hF
    have hS := hF.1
    rw [hA.2.2.2.2.2.2.1, hA.2.2.2.2.2.2.2.1] at hS
    simp only [cond_true] at hS
    have e8 : s 8 = Value.bool true := hF.2 (8, 8, Value.bool true) (by simp) (hA.2.2.2.2.2.2.2.2.1)
    have HS9 : Hid (St w.heap.size w [⟨w.heap.size, 36, #[.int .i64 i, .int .i64 n, .slice a1 ws.length c1, .slice a2 cs.length c2, .slice a3 ss.length c3, .slice a4 ms.length c4]⟩, ⟨w.heap.size + 1, 36, #[.int .i64 i, .int .i64 (n + 2), .slice b5 WS.length c5, .slice b2 cs.length e2, .slice b3 ss.length e3, .slice b4 ms.length e4]⟩, ⟨w.heap.size + 1 + 1, 41, #[.int .i64 3, .int .i64 0, .int .i64 serv, .int .i64 (n + 2), .slice (some ⟨g6, 0, none⟩) 2 2]⟩, ⟨w3.heap.size, 36, #[.int .i64 i, .int .i64 (n + 2), .slice b5 WS.length c5, .slice b2 cs.length e2, .slice b3 ss.length e3, .slice b4 ms.length e4]⟩, ⟨w4.heap.size, 58, #[.int .i64 x.s, .int .i64 x.k, .int .i64 x.u, .int .i64 x.x.k, .int .i64 x.x.t, .int .i64 x.x.a, .int .i64 x.x.b, .int .i64 x.x.c, .int .i64 x.x.d, .int .i64 x.x.e]⟩] [⟨sel4, fun W => Own4 W w2.heap.size (.slice b5 WS.length c5) (.slice b2 cs.length e2) (.slice b3 ss.length e3) (.slice b4 ms.length e4) WS cs ss ms⟩, ⟨selT 56, fun W => OwnS W w.heap.size (.slice (some ⟨g6, 0, none⟩) 2 2) [x.x, authS x.k i now (n + 1)]⟩] w7) := hS
    clear hS hF hA HS8
    simp only [putL, putT, List.setIfInBounds_toArray, List.set_cons_zero, List.set_cons_succ]
    rw [e8]
    clear e8
    go_wp2_with fail
    have y0 := HS9.out.cell 1 rfl 0 (.int .i64 i) rfl
    have y1 := HS9.out.cell 1 rfl 1 (.int .i64 (n + 2)) rfl
    have y2 := HS9.out.cell 1 rfl 2 (.slice b5 WS.length c5) rfl
    have y3 := HS9.out.cell 1 rfl 3 (.slice b2 cs.length e2) rfl
    have y4 := HS9.out.cell 1 rfl 4 (.slice b3 ss.length e3) rfl
    have y5 := HS9.out.cell 1 rfl 5 (.slice b4 ms.length e4) rfl
    have z0 := HS9.out.cell 2 rfl 0 (.int .i64 3) rfl
    have z1 := HS9.out.cell 2 rfl 1 (.int .i64 0) rfl
    have z2 := HS9.out.cell 2 rfl 2 (.int .i64 serv) rfl
    have z3 := HS9.out.cell 2 rfl 3 (.int .i64 (n + 2)) rfl
    have z4 := HS9.out.cell 2 rfl 4 (.slice (some ⟨g6, 0, none⟩) 2 2) rfl
    refine bodyPost_ret (v := .tuple #[.agg #[.int .i64 i, .int .i64 (n + 2), .slice b5 WS.length c5, .slice b2 cs.length e2, .slice b3 ss.length e3, .slice b4 ms.length e4], .agg #[.int .i64 3, .int .i64 0, .int .i64 serv, .int .i64 (n + 2), .slice (some ⟨g6, 0, none⟩) 2 2], .bool true]) (by simp [results, Try.results14, go_sem, *]) rfl ?_
    rw [EA.out]
    exact ⟨b5, c5, b2, e2, b3, e3, b4, e4, _, 2, rfl, (HS9.out.of 0 rfl).lessB hB, HS9.out.of 1 rfl, HS9.out.bel⟩

end Go.Proofs.Ytaokgbdddgoonaa
