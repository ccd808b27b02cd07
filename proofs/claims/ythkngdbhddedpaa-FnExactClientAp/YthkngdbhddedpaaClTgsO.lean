/-
  Who asks for a ticket, and who calls: what the specification answers at a user.
-/
import Derived.Test.YthkngdbhddedpaaClTgsS
import Derived.Test.YthkngdbhddedpaaClApS
namespace Go.Proofs.Ythkngdbhddedpaa
open Go.RowKit
attribute [local go_sem ↓] Go.wp_at_zero Go.wp_at_succ

theorem dupB_not : ∀ {xs : List Cd} {o : List Int}, dupB o xs = true → ∀ x ∈ xs, ¬ x.s ∈ o
  | [], _, _, x, hx => by cases hx
  | y :: xs, o, h, x, hx => by
    simp only [dupB, Bool.and_eq_true, Bool.not_eq_true', decide_eq_false_iff_not] at h
    rcases List.mem_cons.1 hx with rfl | hx
    · exact h.1
    · exact fun hm => dupB_not h.2 x hx (List.mem_append.2 (Or.inl hm))
theorem dupB_apart : ∀ {xs : List Cd} {o : List Int}, dupB o xs = true → ∀ {j : Nat} {x y : Cd}, xs[j]? = some x → y ∈ xs.take j → y.s ≠ x.s
  | [], _, _, _, _, _, h, _ => by simp at h
  | z :: xs, o, h, 0, x, y, _, hy => by simp at hy
  | z :: xs, o, h, j + 1, x, y, hx, hy => by
    simp only [dupB, Bool.and_eq_true] at h
    simp only [List.getElem?_cons_succ] at hx
    rw [List.take_succ_cons] at hy
    rcases List.mem_cons.1 hy with rfl | hy
    · exact fun e => dupB_not h.2 x (List.mem_of_getElem? hx) (by rw [← e]; simp)
    · exact dupB_apart h.2 hx hy
theorem lastFor_is {k : Int} : ∀ {xs : List Cd} {x : Cd}, lastFor k xs = some x → x ∈ xs ∧ x.s = k
  | [], _, h => by cases h
  | y :: xs, x, h => by
    unfold lastFor at h
    cases h1 : lastFor k xs with
    | some z =>
      rw [h1] at h
      cases h
      obtain ⟨q1, q2⟩ := lastFor_is h1
      exact ⟨List.mem_cons_of_mem _ q1, q2⟩
    | none =>
      rw [h1] at h
      by_cases e : y.s = k
      · simp [e] at h
        subst h
        exact ⟨by simp, e⟩
      · simp [e] at h
theorem clientB_dup {i n : Int} {ws : List Wn} {cs : List Cd} {ss ms : List Ca} (h : clientB i n ws cs ss ms = true) : dupB [] cs = true := by
  unfold clientB at h
  simp only [Bool.and_eq_true] at h
  simp_all
/-- Of a user who is ok what one has for somebody first is what one has last. -/
theorem hasC_of {cs : List Cd} (hd : dupB [] cs = true) (k now : Int) : HasC k now cs (lastC k now cs) (lastB' k now cs) := by
  unfold lastC lastB'
  cases h : lastFor k cs with
  | none =>
    refine ⟨fun e => (by cases e), fun _ => Or.inl ?_⟩
    have hn : firstC k cs = none := firstC_none.2 (fun x hx e => by
      obtain ⟨z, hz⟩ := lastFor_mem.2 ⟨x, hx, e⟩
      rw [h] at hz
      cases hz)
    unfold credAt
    rw [hn]
  | some x =>
    obtain ⟨hx, he⟩ := lastFor_is h
    obtain ⟨j, hj⟩ := List.mem_iff_getElem?.1 hx
    have hf : firstC k cs = some j := firstC_some hj he (fun y hy e => dupB_apart hd hj hy (e.trans he.symm))
    have hc : credAt k cs = (j : Int) := by unfold credAt; rw [hf]
    by_cases hu : x.u < now
    · simp only [hu, if_true]
      exact ⟨fun e => (by cases e), fun _ => Or.inr ⟨j, x, hc, hj, hu⟩⟩
    · simp only [hu, if_false]
      exact ⟨fun _ => ⟨j, hc, hj, hu⟩, fun e => (by cases e)⟩
/-- Blocks that lie below what is turned stay. -/
theorem St.growB {B B' : Nat} {w0 : World} {F : List BF} {w w' : World} (hb : Below B' w w') (hF : ∀ x ∈ F, x.b < B') (hB : B ≤ B') (h : St B w0 F [] w) : St B w0 F [] w' :=
  ⟨h.bs, h.bel.trans (hb.mono hB), fun x hx => (hb.block _ (hF x hx)).trans (h.blk x hx), h.ge, h.nd, (fun _ hp => by cases hp), (fun _ hp => by cases hp)⟩

set_option maxHeartbeats 8000000 in
set_option maxRecDepth 100000 in
theorem specClientTgs_any (i n : Int) (a1 a2 a3 a4 : Option Addr) (c1 c2 c3 c4 : Nat) (ws : List Wn) (cs : List Cd) (ss ms : List Ca) (serv now : Int) (w : World) (h : CRows w a1 a2 a3 a4 ws cs ss ms) (hc4 : ms.length ≤ c4) (hx1 : ws.length ≤ 1048576) (hx2 : cs.length ≤ 1048576) (hx3 : ss.length ≤ 1048576) (hx4 : ms.length ≤ 1048576) :
    Calls Try.prog 6 #[.agg #[.int .i64 i, .int .i64 n, .slice a1 ws.length c1, .slice a2 cs.length c2, .slice a3 ss.length c3, .slice a4 ms.length c4], .int .i64 serv, .int .i64 now] w fun r w' => ClRet w.heap.size w w' (tgsA i n ws cs ss ms serv now) r := by
  have HH : Hid (CRows w a1 a2 a3 a4 ws cs ss ms) := h
  clear h
  go_enter Try.func6, Try.ntmps6
  go_wp2_with fail
  obtain ⟨w1, hX9, HS1⟩ : ∃ X, X = (((w.alloc (.cells #[.int .i64 i, .int .i64 n, .slice a1 ws.length c1, .slice a2 cs.length c2, .slice a3 ss.length c3, .slice a4 ms.length c4] 32)).alloc (.cells #[.int .i64 0, .int .i64 0, .slice none 0 0, .slice none 0 0, .slice none 0 0, .slice none 0 0] 32)).alloc (.cells #[.int .i64 0, .int .i64 0, .int .i64 0, .int .i64 0, .slice none 0 0] 35)) ∧ Hid (St w.heap.size w [⟨w.heap.size, 32, #[.int .i64 i, .int .i64 n, .slice a1 ws.length c1, .slice a2 cs.length c2, .slice a3 ss.length c3, .slice a4 ms.length c4]⟩, ⟨w.heap.size + 1, 32, #[.int .i64 0, .int .i64 0, .slice none 0 0, .slice none 0 0, .slice none 0 0, .slice none 0 0]⟩, ⟨w.heap.size + 1 + 1, 35, #[.int .i64 0, .int .i64 0, .int .i64 0, .int .i64 0, .slice none 0 0]⟩] [] X) := ⟨_, rfl, Hid.mk' (by
    have h := (St.alloc #[.int .i64 0, .int .i64 0, .int .i64 0, .int .i64 0, .slice none 0 0] 35 (St.alloc #[.int .i64 0, .int .i64 0, .slice none 0 0, .slice none 0 0, .slice none 0 0, .slice none 0 0] 32 (St.alloc #[.int .i64 i, .int .i64 n, .slice a1 ws.length c1, .slice a2 cs.length c2, .slice a3 ss.length c3, .slice a4 ms.length c4] 32 (St.new w))))
    try simp only [World.size_alloc] at h
    try simp only [World.size_setCell] at h
    exact h)⟩
  rw [← hX9]
  clear hX9
  refine (specClientOk_any i n _ _ _ _ _ _ _ _ ws cs ss ms _ (HH.out.later HS1.out.bel) hc4 hx1 hx2 hx3 hx4).mono ?_
  rintro r w2 ⟨rfl, b9⟩
  have HS2 : Hid (St w.heap.size w [⟨w.heap.size, 32, #[.int .i64 i, .int .i64 n, .slice a1 ws.length c1, .slice a2 cs.length c2, .slice a3 ss.length c3, .slice a4 ms.length c4]⟩, ⟨w.heap.size + 1, 32, #[.int .i64 0, .int .i64 0, .slice none 0 0, .slice none 0 0, .slice none 0 0, .slice none 0 0]⟩, ⟨w.heap.size + 1 + 1, 35, #[.int .i64 0, .int .i64 0, .int .i64 0, .int .i64 0, .slice none 0 0]⟩] [] w2) := Hid.mk' (by
    have h := St.grow b9 HS1.out
    try simp only [World.size_alloc] at h
    try simp only [World.size_setCell] at h
    exact h)
  clear HS1
  clear b9
  cases u1 : clientB i n ws cs ss ms
  · skip
    have EA : Hid (tgsA i n ws cs ss ms serv now = noA) := Hid.mk' (by unfold tgsA; rw [if_neg (by rw [u1]; simp)])
    have z0 := HS2.out.cell 1 rfl 0 (.int .i64 0) rfl
    have zf0 := HS2.out.fro 1 rfl 0
    have z1 := HS2.out.cell 1 rfl 1 (.int .i64 0) rfl
    have zf1 := HS2.out.fro 1 rfl 1
    have z2 := HS2.out.cell 1 rfl 2 (.slice none 0 0) rfl
    have zf2 := HS2.out.fro 1 rfl 2
    have z3 := HS2.out.cell 1 rfl 3 (.slice none 0 0) rfl
    have zf3 := HS2.out.fro 1 rfl 3
    have z4 := HS2.out.cell 1 rfl 4 (.slice none 0 0) rfl
    have zf4 := HS2.out.fro 1 rfl 4
    have z5 := HS2.out.cell 1 rfl 5 (.slice none 0 0) rfl
    have zf5 := HS2.out.fro 1 rfl 5
    have y0 := HS2.out.cell 2 rfl 0 (.int .i64 0) rfl
    have yf0 := HS2.out.fro 2 rfl 0
    have y1 := HS2.out.cell 2 rfl 1 (.int .i64 0) rfl
    have yf1 := HS2.out.fro 2 rfl 1
    have y2 := HS2.out.cell 2 rfl 2 (.int .i64 0) rfl
    have yf2 := HS2.out.fro 2 rfl 2
    have y3 := HS2.out.cell 2 rfl 3 (.int .i64 0) rfl
    have yf3 := HS2.out.fro 2 rfl 3
    have y4 := HS2.out.cell 2 rfl 4 (.slice none 0 0) rfl
    have yf4 := HS2.out.fro 2 rfl 4
    go_wp2_with fail
    clear z0 zf0 z1 zf1 z2 zf2 z3 zf3 z4 zf4 z5 zf5 y0 yf0 y1 yf1 y2 yf2 y3 yf3 y4 yf4
    obtain ⟨V, hX9, HS3⟩ : ∃ X, X = (((((((((((w2.setCell ⟨w.heap.size + 1, 0, none⟩ (.int .i64 0)).setCell ⟨w.heap.size + 1, 1, none⟩ (.int .i64 0)).setCell ⟨w.heap.size + 1, 2, none⟩ (.slice none 0 0)).setCell ⟨w.heap.size + 1, 3, none⟩ (.slice none 0 0)).setCell ⟨w.heap.size + 1, 4, none⟩ (.slice none 0 0)).setCell ⟨w.heap.size + 1, 5, none⟩ (.slice none 0 0)).setCell ⟨w.heap.size + 1 + 1, 0, none⟩ (.int .i64 0)).setCell ⟨w.heap.size + 1 + 1, 1, none⟩ (.int .i64 0)).setCell ⟨w.heap.size + 1 + 1, 2, none⟩ (.int .i64 0)).setCell ⟨w.heap.size + 1 + 1, 3, none⟩ (.int .i64 0)).setCell ⟨w.heap.size + 1 + 1, 4, none⟩ (.slice none 0 0)) ∧ Hid (St w.heap.size w [⟨w.heap.size, 32, #[.int .i64 i, .int .i64 n, .slice a1 ws.length c1, .slice a2 cs.length c2, .slice a3 ss.length c3, .slice a4 ms.length c4]⟩, ⟨w.heap.size + 1, 32, #[.int .i64 0, .int .i64 0, .slice none 0 0, .slice none 0 0, .slice none 0 0, .slice none 0 0]⟩, ⟨w.heap.size + 1 + 1, 35, #[.int .i64 0, .int .i64 0, .int .i64 0, .int .i64 0, .slice none 0 0]⟩] [] X) := ⟨_, rfl, Hid.mk' (by
      have h := (St.put5 2 (St.put6 1 HS2.out rfl rfl (.int .i64 0) (.int .i64 0) (.slice none 0 0) (.slice none 0 0) (.slice none 0 0) (.slice none 0 0)) rfl rfl (.int .i64 0) (.int .i64 0) (.int .i64 0) (.int .i64 0) (.slice none 0 0))
      try simp only [World.size_alloc] at h
      try simp only [World.size_setCell] at h
      exact h)⟩
    rw [← hX9]
    clear hX9
    clear HS2
    have y0 := HS3.out.cell 1 rfl 0 (.int .i64 0) rfl
    have y1 := HS3.out.cell 1 rfl 1 (.int .i64 0) rfl
    have y2 := HS3.out.cell 1 rfl 2 (.slice none 0 0) rfl
    have y3 := HS3.out.cell 1 rfl 3 (.slice none 0 0) rfl
    have y4 := HS3.out.cell 1 rfl 4 (.slice none 0 0) rfl
    have y5 := HS3.out.cell 1 rfl 5 (.slice none 0 0) rfl
    have z0 := HS3.out.cell 2 rfl 0 (.int .i64 0) rfl
    have z1 := HS3.out.cell 2 rfl 1 (.int .i64 0) rfl
    have z2 := HS3.out.cell 2 rfl 2 (.int .i64 0) rfl
    have z3 := HS3.out.cell 2 rfl 3 (.int .i64 0) rfl
    have z4 := HS3.out.cell 2 rfl 4 (.slice none 0 0) rfl
    refine bodyPost_ret (v := .tuple #[.agg #[.int .i64 0, .int .i64 0, .slice none 0 0, .slice none 0 0, .slice none 0 0, .slice none 0 0], .agg #[.int .i64 0, .int .i64 0, .int .i64 0, .int .i64 0, .slice none 0 0], .bool false]) (by simp [results, Try.results6, go_sem, *]) rfl ?_
    rw [EA.out]
    exact ⟨none, 0, none, 0, none, 0, none, 0, none, 0, rfl, Own4.nil _ _, OwnS.nilB _ _, HS3.out.bel⟩
  go_wp2_with fail
  refine (l1Time_any _ _).mono ?_
  rintro r w9 ⟨rfl, he9⟩
  obtain rfl : w2 = w9 := he9.symm
  cases u2 : inB now 0 100
  · skip
    have EA : Hid (tgsA i n ws cs ss ms serv now = noA) := Hid.mk' (by unfold tgsA; rw [if_neg (by rw [u1, u2]; simp)])
    have z0 := HS2.out.cell 1 rfl 0 (.int .i64 0) rfl
    have zf0 := HS2.out.fro 1 rfl 0
    have z1 := HS2.out.cell 1 rfl 1 (.int .i64 0) rfl
    have zf1 := HS2.out.fro 1 rfl 1
    have z2 := HS2.out.cell 1 rfl 2 (.slice none 0 0) rfl
    have zf2 := HS2.out.fro 1 rfl 2
    have z3 := HS2.out.cell 1 rfl 3 (.slice none 0 0) rfl
    have zf3 := HS2.out.fro 1 rfl 3
    have z4 := HS2.out.cell 1 rfl 4 (.slice none 0 0) rfl
    have zf4 := HS2.out.fro 1 rfl 4
    have z5 := HS2.out.cell 1 rfl 5 (.slice none 0 0) rfl
    have zf5 := HS2.out.fro 1 rfl 5
    have y0 := HS2.out.cell 2 rfl 0 (.int .i64 0) rfl
    have yf0 := HS2.out.fro 2 rfl 0
    have y1 := HS2.out.cell 2 rfl 1 (.int .i64 0) rfl
    have yf1 := HS2.out.fro 2 rfl 1
    have y2 := HS2.out.cell 2 rfl 2 (.int .i64 0) rfl
    have yf2 := HS2.out.fro 2 rfl 2
    have y3 := HS2.out.cell 2 rfl 3 (.int .i64 0) rfl
    have yf3 := HS2.out.fro 2 rfl 3
    have y4 := HS2.out.cell 2 rfl 4 (.slice none 0 0) rfl
    have yf4 := HS2.out.fro 2 rfl 4
    go_wp2_with fail
    clear z0 zf0 z1 zf1 z2 zf2 z3 zf3 z4 zf4 z5 zf5 y0 yf0 y1 yf1 y2 yf2 y3 yf3 y4 yf4
    obtain ⟨V, hX9, HS3⟩ : ∃ X, X = (((((((((((w2.setCell ⟨w.heap.size + 1, 0, none⟩ (.int .i64 0)).setCell ⟨w.heap.size + 1, 1, none⟩ (.int .i64 0)).setCell ⟨w.heap.size + 1, 2, none⟩ (.slice none 0 0)).setCell ⟨w.heap.size + 1, 3, none⟩ (.slice none 0 0)).setCell ⟨w.heap.size + 1, 4, none⟩ (.slice none 0 0)).setCell ⟨w.heap.size + 1, 5, none⟩ (.slice none 0 0)).setCell ⟨w.heap.size + 1 + 1, 0, none⟩ (.int .i64 0)).setCell ⟨w.heap.size + 1 + 1, 1, none⟩ (.int .i64 0)).setCell ⟨w.heap.size + 1 + 1, 2, none⟩ (.int .i64 0)).setCell ⟨w.heap.size + 1 + 1, 3, none⟩ (.int .i64 0)).setCell ⟨w.heap.size + 1 + 1, 4, none⟩ (.slice none 0 0)) ∧ Hid (St w.heap.size w [⟨w.heap.size, 32, #[.int .i64 i, .int .i64 n, .slice a1 ws.length c1, .slice a2 cs.length c2, .slice a3 ss.length c3, .slice a4 ms.length c4]⟩, ⟨w.heap.size + 1, 32, #[.int .i64 0, .int .i64 0, .slice none 0 0, .slice none 0 0, .slice none 0 0, .slice none 0 0]⟩, ⟨w.heap.size + 1 + 1, 35, #[.int .i64 0, .int .i64 0, .int .i64 0, .int .i64 0, .slice none 0 0]⟩] [] X) := ⟨_, rfl, Hid.mk' (by
      have h := (St.put5 2 (St.put6 1 HS2.out rfl rfl (.int .i64 0) (.int .i64 0) (.slice none 0 0) (.slice none 0 0) (.slice none 0 0) (.slice none 0 0)) rfl rfl (.int .i64 0) (.int .i64 0) (.int .i64 0) (.int .i64 0) (.slice none 0 0))
      try simp only [World.size_alloc] at h
      try simp only [World.size_setCell] at h
      exact h)⟩
    rw [← hX9]
    clear hX9
    clear HS2
    have y0 := HS3.out.cell 1 rfl 0 (.int .i64 0) rfl
    have y1 := HS3.out.cell 1 rfl 1 (.int .i64 0) rfl
    have y2 := HS3.out.cell 1 rfl 2 (.slice none 0 0) rfl
    have y3 := HS3.out.cell 1 rfl 3 (.slice none 0 0) rfl
    have y4 := HS3.out.cell 1 rfl 4 (.slice none 0 0) rfl
    have y5 := HS3.out.cell 1 rfl 5 (.slice none 0 0) rfl
    have z0 := HS3.out.cell 2 rfl 0 (.int .i64 0) rfl
    have z1 := HS3.out.cell 2 rfl 1 (.int .i64 0) rfl
    have z2 := HS3.out.cell 2 rfl 2 (.int .i64 0) rfl
    have z3 := HS3.out.cell 2 rfl 3 (.int .i64 0) rfl
    have z4 := HS3.out.cell 2 rfl 4 (.slice none 0 0) rfl
    refine bodyPost_ret (v := .tuple #[.agg #[.int .i64 0, .int .i64 0, .slice none 0 0, .slice none 0 0, .slice none 0 0, .slice none 0 0], .agg #[.int .i64 0, .int .i64 0, .int .i64 0, .int .i64 0, .slice none 0 0], .bool false]) (by simp [results, Try.results6, go_sem, *]) rfl ?_
    rw [EA.out]
    exact ⟨none, 0, none, 0, none, 0, none, 0, none, 0, rfl, Own4.nil _ _, OwnS.nilB _ _, HS3.out.bel⟩
  have hb := clientB_num u1
  have hC := hasC_of (clientB_dup u1) 6 now
  have EA : Hid (tgsA i n ws cs ss ms serv now = askT i n ws cs ss ms serv now (lastC 6 now cs) (lastB' 6 now cs)) := Hid.mk' (by unfold tgsA; rw [if_pos ⟨u1, u2⟩]; rfl)
  have HC : Hid (HasC 6 now cs (lastC 6 now cs) (lastB' 6 now cs)) := hC
  clear hC
  have HF : Hid (∀ x ∈ ([⟨w.heap.size, 32, #[.int .i64 i, .int .i64 n, .slice a1 ws.length c1, .slice a2 cs.length c2, .slice a3 ss.length c3, .slice a4 ms.length c4]⟩, ⟨w.heap.size + 1, 32, #[.int .i64 0, .int .i64 0, .slice none 0 0, .slice none 0 0, .slice none 0 0, .slice none 0 0]⟩, ⟨w.heap.size + 1 + 1, 35, #[.int .i64 0, .int .i64 0, .int .i64 0, .int .i64 0, .slice none 0 0]⟩] : List BF), x.b < w2.heap.size) := fun x hx => (HS2.out.blk x hx).lt
  have p0 := HS2.out.cell 0 rfl 0 (.int .i64 i) rfl
  have p1 := HS2.out.cell 0 rfl 1 (.int .i64 n) rfl
  have p2 := HS2.out.cell 0 rfl 2 (.slice a1 ws.length c1) rfl
  have p3 := HS2.out.cell 0 rfl 3 (.slice a2 cs.length c2) rfl
  have p4 := HS2.out.cell 0 rfl 4 (.slice a3 ss.length c3) rfl
  have p5 := HS2.out.cell 0 rfl 5 (.slice a4 ms.length c4) rfl
  go_wp2_with fail
  clear p0 p1 p2 p3 p4 p5
  refine (l12Copy_any i n _ _ _ _ _ _ _ _ ws cs ss ms _ (HH.out.later HS2.out.bel) hx1 hx2 hx3 hx4).mono ?_
  rintro r w3 ⟨b1, b2, b3, b4, e1, e2, e3, e4, rfl, o4, b9⟩
  have hB : w.heap.size ≤ w2.heap.size := HS2.out.sz
  have hB3 : w2.heap.size ≤ w3.heap.size := b9.size
  have HO : Hid (Own4 w3 w2.heap.size (.slice b1 ws.length e1) (.slice b2 cs.length e2) (.slice b3 ss.length e3) (.slice b4 ms.length e4) ws cs ss ms) := o4
  clear o4
  have HS3 : Hid (St w.heap.size w [⟨w.heap.size, 32, #[.int .i64 i, .int .i64 n, .slice a1 ws.length c1, .slice a2 cs.length c2, .slice a3 ss.length c3, .slice a4 ms.length c4]⟩, ⟨w.heap.size + 1, 32, #[.int .i64 0, .int .i64 0, .slice none 0 0, .slice none 0 0, .slice none 0 0, .slice none 0 0]⟩, ⟨w.heap.size + 1 + 1, 35, #[.int .i64 0, .int .i64 0, .int .i64 0, .int .i64 0, .slice none 0 0]⟩] [] w3) := Hid.mk' (by
    have h := St.grow b9 HS2.out
    try simp only [World.size_alloc] at h
    try simp only [World.size_setCell] at h
    exact h)
  clear HS2
  clear b9
  go_wp2_with fail
  refine (l12Tgs_any i n _ _ _ _ _ _ _ _ ws cs ss ms serv now _ _ _ w2.heap.size hB3 HO.out (by omega) hx1 hx2 hx3 HC.out).mono ?_
  generalize askT i n ws cs ss ms serv now (lastC 6 now cs) (lastB' 6 now cs) = Y9 at EA
  rintro r w4 ⟨b5, f5, b6, f6, b7, f7, b8, f8, b10, f10, rfl, o4, oS, b9⟩
  have HX : Hid (Own4 w4 w2.heap.size (.slice b5 Y9.W.length f5) (.slice b6 Y9.C.length f6) (.slice b7 Y9.S.length f7) (.slice b8 Y9.M.length f8) Y9.W Y9.C Y9.S Y9.M ∧ OwnS w4 w2.heap.size (.slice b10 Y9.Y.length f10) Y9.Y) := ⟨o4, oS⟩
  clear o4 oS HO
  have HS4 : Hid (St w.heap.size w [⟨w.heap.size, 32, #[.int .i64 i, .int .i64 n, .slice a1 ws.length c1, .slice a2 cs.length c2, .slice a3 ss.length c3, .slice a4 ms.length c4]⟩, ⟨w.heap.size + 1, 32, #[.int .i64 0, .int .i64 0, .slice none 0 0, .slice none 0 0, .slice none 0 0, .slice none 0 0]⟩, ⟨w.heap.size + 1 + 1, 35, #[.int .i64 0, .int .i64 0, .int .i64 0, .int .i64 0, .slice none 0 0]⟩] [] w4) := Hid.mk' (by
    have h := St.growB b9 HF.out hB HS3.out
    try simp only [World.size_alloc] at h
    try simp only [World.size_setCell] at h
    exact h)
  clear HS3
  clear b9 HF
  have lt0 := (HS4.out.lt 0 rfl).2
  have lt1 := (HS4.out.lt 1 rfl).2
  have lt2 := (HS4.out.lt 2 rfl).2
  have z0 := HS4.out.cell 1 rfl 0 (.int .i64 0) rfl
  have zf0 := HS4.out.fro 1 rfl 0
  have z1 := HS4.out.cell 1 rfl 1 (.int .i64 0) rfl
  have zf1 := HS4.out.fro 1 rfl 1
  have z2 := HS4.out.cell 1 rfl 2 (.slice none 0 0) rfl
  have zf2 := HS4.out.fro 1 rfl 2
  have z3 := HS4.out.cell 1 rfl 3 (.slice none 0 0) rfl
  have zf3 := HS4.out.fro 1 rfl 3
  have z4 := HS4.out.cell 1 rfl 4 (.slice none 0 0) rfl
  have zf4 := HS4.out.fro 1 rfl 4
  have z5 := HS4.out.cell 1 rfl 5 (.slice none 0 0) rfl
  have zf5 := HS4.out.fro 1 rfl 5
  have y0 := HS4.out.cell 2 rfl 0 (.int .i64 0) rfl
  have yf0 := HS4.out.fro 2 rfl 0
  have y1 := HS4.out.cell 2 rfl 1 (.int .i64 0) rfl
  have yf1 := HS4.out.fro 2 rfl 1
  have y2 := HS4.out.cell 2 rfl 2 (.int .i64 0) rfl
  have yf2 := HS4.out.fro 2 rfl 2
  have y3 := HS4.out.cell 2 rfl 3 (.int .i64 0) rfl
  have yf3 := HS4.out.fro 2 rfl 3
  have y4 := HS4.out.cell 2 rfl 4 (.slice none 0 0) rfl
  have yf4 := HS4.out.fro 2 rfl 4
  go_wp2_with fail
  clear lt0 lt1 lt2 z0 zf0 z1 zf1 z2 zf2 z3 zf3 z4 zf4 z5 zf5 y0 yf0 y1 yf1 y2 yf2 y3 yf3 y4 yf4
  obtain ⟨V, hX9, HS5⟩ : ∃ X, X = (((((((((((w4.setCell ⟨w.heap.size + 1, 0, none⟩ (.int .i64 Y9.i)).setCell ⟨w.heap.size + 1, 1, none⟩ (.int .i64 Y9.n)).setCell ⟨w.heap.size + 1, 2, none⟩ (.slice b5 Y9.W.length f5)).setCell ⟨w.heap.size + 1, 3, none⟩ (.slice b6 Y9.C.length f6)).setCell ⟨w.heap.size + 1, 4, none⟩ (.slice b7 Y9.S.length f7)).setCell ⟨w.heap.size + 1, 5, none⟩ (.slice b8 Y9.M.length f8)).setCell ⟨w.heap.size + 1 + 1, 0, none⟩ (.int .i64 Y9.k)).setCell ⟨w.heap.size + 1 + 1, 1, none⟩ (.int .i64 Y9.c)).setCell ⟨w.heap.size + 1 + 1, 2, none⟩ (.int .i64 Y9.s)).setCell ⟨w.heap.size + 1 + 1, 3, none⟩ (.int .i64 Y9.f)).setCell ⟨w.heap.size + 1 + 1, 4, none⟩ (.slice b10 Y9.Y.length f10)) ∧ Hid (St w.heap.size w [⟨w.heap.size, 32, #[.int .i64 i, .int .i64 n, .slice a1 ws.length c1, .slice a2 cs.length c2, .slice a3 ss.length c3, .slice a4 ms.length c4]⟩, ⟨w.heap.size + 1, 32, #[.int .i64 Y9.i, .int .i64 Y9.n, .slice b5 Y9.W.length f5, .slice b6 Y9.C.length f6, .slice b7 Y9.S.length f7, .slice b8 Y9.M.length f8]⟩, ⟨w.heap.size + 1 + 1, 35, #[.int .i64 Y9.k, .int .i64 Y9.c, .int .i64 Y9.s, .int .i64 Y9.f, .slice b10 Y9.Y.length f10]⟩] [⟨sel4, fun W => Own4 W w2.heap.size (.slice b5 Y9.W.length f5) (.slice b6 Y9.C.length f6) (.slice b7 Y9.S.length f7) (.slice b8 Y9.M.length f8) Y9.W Y9.C Y9.S Y9.M⟩, ⟨selT 54, fun W => OwnS W w2.heap.size (.slice b10 Y9.Y.length f10) Y9.Y⟩] X) := ⟨_, rfl, Hid.mk' (by
    have h := (St.put5 2 (St.put6 1 (St.add (selT 54) _ (keep_owns _ _ _) HX.out.2 (St.add sel4 _ (keep_own4 _ _ _ _ _ _ _ _ _) HX.out.1 HS4.out)) rfl rfl (.int .i64 Y9.i) (.int .i64 Y9.n) (.slice b5 Y9.W.length f5) (.slice b6 Y9.C.length f6) (.slice b7 Y9.S.length f7) (.slice b8 Y9.M.length f8)) rfl rfl (.int .i64 Y9.k) (.int .i64 Y9.c) (.int .i64 Y9.s) (.int .i64 Y9.f) (.slice b10 Y9.Y.length f10))
    try simp only [World.size_alloc] at h
    try simp only [World.size_setCell] at h
    exact h)⟩
  rw [← hX9]
  clear hX9
  clear HS4
  have y0 := HS5.out.cell 1 rfl 0 (.int .i64 Y9.i) rfl
  have y1 := HS5.out.cell 1 rfl 1 (.int .i64 Y9.n) rfl
  have y2 := HS5.out.cell 1 rfl 2 (.slice b5 Y9.W.length f5) rfl
  have y3 := HS5.out.cell 1 rfl 3 (.slice b6 Y9.C.length f6) rfl
  have y4 := HS5.out.cell 1 rfl 4 (.slice b7 Y9.S.length f7) rfl
  have y5 := HS5.out.cell 1 rfl 5 (.slice b8 Y9.M.length f8) rfl
  have z0 := HS5.out.cell 2 rfl 0 (.int .i64 Y9.k) rfl
  have z1 := HS5.out.cell 2 rfl 1 (.int .i64 Y9.c) rfl
  have z2 := HS5.out.cell 2 rfl 2 (.int .i64 Y9.s) rfl
  have z3 := HS5.out.cell 2 rfl 3 (.int .i64 Y9.f) rfl
  have z4 := HS5.out.cell 2 rfl 4 (.slice b10 Y9.Y.length f10) rfl
  refine bodyPost_ret (v := .tuple #[.agg #[.int .i64 Y9.i, .int .i64 Y9.n, .slice b5 Y9.W.length f5, .slice b6 Y9.C.length f6, .slice b7 Y9.S.length f7, .slice b8 Y9.M.length f8], .agg #[.int .i64 Y9.k, .int .i64 Y9.c, .int .i64 Y9.s, .int .i64 Y9.f, .slice b10 Y9.Y.length f10], .bool Y9.T]) (by simp [results, Try.results6, go_sem, *]) rfl ?_
  rw [EA.out]
  exact ⟨b5, f5, b6, f6, b7, f7, b8, f8, b10, f10, rfl, (HS5.out.of 0 rfl).lessB hB, (HS5.out.of 1 rfl).lessB hB, HS5.out.bel⟩

set_option maxHeartbeats 8000000 in
set_option maxRecDepth 100000 in
theorem specClientAp_any (i n : Int) (a1 a2 a3 a4 : Option Addr) (c1 c2 c3 c4 : Nat) (ws : List Wn) (cs : List Cd) (ss ms : List Ca) (serv now : Int) (w : World) (h : CRows w a1 a2 a3 a4 ws cs ss ms) (hc4 : ms.length ≤ c4) (hx1 : ws.length ≤ 1048576) (hx2 : cs.length ≤ 1048576) (hx3 : ss.length ≤ 1048576) (hx4 : ms.length ≤ 1048576) :
    Calls Try.prog 15 #[.agg #[.int .i64 i, .int .i64 n, .slice a1 ws.length c1, .slice a2 cs.length c2, .slice a3 ss.length c3, .slice a4 ms.length c4], .int .i64 serv, .int .i64 now] w fun r w' => ClRet w.heap.size w w' (apA i n ws cs ss ms serv now) r := by
  have HH : Hid (CRows w a1 a2 a3 a4 ws cs ss ms) := h
  clear h
  go_enter Try.func15, Try.ntmps15
  go_wp2_with fail
  obtain ⟨w1, hX9, HS1⟩ : ∃ X, X = (((w.alloc (.cells #[.int .i64 i, .int .i64 n, .slice a1 ws.length c1, .slice a2 cs.length c2, .slice a3 ss.length c3, .slice a4 ms.length c4] 32)).alloc (.cells #[.int .i64 0, .int .i64 0, .slice none 0 0, .slice none 0 0, .slice none 0 0, .slice none 0 0] 32)).alloc (.cells #[.int .i64 0, .int .i64 0, .int .i64 0, .int .i64 0, .slice none 0 0] 35)) ∧ Hid (St w.heap.size w [⟨w.heap.size, 32, #[.int .i64 i, .int .i64 n, .slice a1 ws.length c1, .slice a2 cs.length c2, .slice a3 ss.length c3, .slice a4 ms.length c4]⟩, ⟨w.heap.size + 1, 32, #[.int .i64 0, .int .i64 0, .slice none 0 0, .slice none 0 0, .slice none 0 0, .slice none 0 0]⟩, ⟨w.heap.size + 1 + 1, 35, #[.int .i64 0, .int .i64 0, .int .i64 0, .int .i64 0, .slice none 0 0]⟩] [] X) := ⟨_, rfl, Hid.mk' (by
    have h := (St.alloc #[.int .i64 0, .int .i64 0, .int .i64 0, .int .i64 0, .slice none 0 0] 35 (St.alloc #[.int .i64 0, .int .i64 0, .slice none 0 0, .slice none 0 0, .slice none 0 0, .slice none 0 0] 32 (St.alloc #[.int .i64 i, .int .i64 n, .slice a1 ws.length c1, .slice a2 cs.length c2, .slice a3 ss.length c3, .slice a4 ms.length c4] 32 (St.new w))))
    try simp only [World.size_alloc] at h
    try simp only [World.size_setCell] at h
    exact h)⟩
  rw [← hX9]
  clear hX9
  refine (specClientOk_any i n _ _ _ _ _ _ _ _ ws cs ss ms _ (HH.out.later HS1.out.bel) hc4 hx1 hx2 hx3 hx4).mono ?_
  rintro r w2 ⟨rfl, b9⟩
  have HS2 : Hid (St w.heap.size w [⟨w.heap.size, 32, #[.int .i64 i, .int .i64 n, .slice a1 ws.length c1, .slice a2 cs.length c2, .slice a3 ss.length c3, .slice a4 ms.length c4]⟩, ⟨w.heap.size + 1, 32, #[.int .i64 0, .int .i64 0, .slice none 0 0, .slice none 0 0, .slice none 0 0, .slice none 0 0]⟩, ⟨w.heap.size + 1 + 1, 35, #[.int .i64 0, .int .i64 0, .int .i64 0, .int .i64 0, .slice none 0 0]⟩] [] w2) := Hid.mk' (by
    have h := St.grow b9 HS1.out
    try simp only [World.size_alloc] at h
    try simp only [World.size_setCell] at h
    exact h)
  clear HS1
  clear b9
  cases u1 : clientB i n ws cs ss ms
  · skip
    have EA : Hid (apA i n ws cs ss ms serv now = noA) := Hid.mk' (by unfold apA; rw [if_neg (by rw [u1]; simp)])
    have z0 := HS2.out.cell 1 rfl 0 (.int .i64 0) rfl
    have zf0 := HS2.out.fro 1 rfl 0
    have z1 := HS2.out.cell 1 rfl 1 (.int .i64 0) rfl
    have zf1 := HS2.out.fro 1 rfl 1
    have z2 := HS2.out.cell 1 rfl 2 (.slice none 0 0) rfl
    have zf2 := HS2.out.fro 1 rfl 2
    have z3 := HS2.out.cell 1 rfl 3 (.slice none 0 0) rfl
    have zf3 := HS2.out.fro 1 rfl 3
    have z4 := HS2.out.cell 1 rfl 4 (.slice none 0 0) rfl
    have zf4 := HS2.out.fro 1 rfl 4
    have z5 := HS2.out.cell 1 rfl 5 (.slice none 0 0) rfl
    have zf5 := HS2.out.fro 1 rfl 5
    have y0 := HS2.out.cell 2 rfl 0 (.int .i64 0) rfl
    have yf0 := HS2.out.fro 2 rfl 0
    have y1 := HS2.out.cell 2 rfl 1 (.int .i64 0) rfl
    have yf1 := HS2.out.fro 2 rfl 1
    have y2 := HS2.out.cell 2 rfl 2 (.int .i64 0) rfl
    have yf2 := HS2.out.fro 2 rfl 2
    have y3 := HS2.out.cell 2 rfl 3 (.int .i64 0) rfl
    have yf3 := HS2.out.fro 2 rfl 3
    have y4 := HS2.out.cell 2 rfl 4 (.slice none 0 0) rfl
    have yf4 := HS2.out.fro 2 rfl 4
    go_wp2_with fail
    clear z0 zf0 z1 zf1 z2 zf2 z3 zf3 z4 zf4 z5 zf5 y0 yf0 y1 yf1 y2 yf2 y3 yf3 y4 yf4
    obtain ⟨V, hX9, HS3⟩ : ∃ X, X = (((((((((((w2.setCell ⟨w.heap.size + 1, 0, none⟩ (.int .i64 0)).setCell ⟨w.heap.size + 1, 1, none⟩ (.int .i64 0)).setCell ⟨w.heap.size + 1, 2, none⟩ (.slice none 0 0)).setCell ⟨w.heap.size + 1, 3, none⟩ (.slice none 0 0)).setCell ⟨w.heap.size + 1, 4, none⟩ (.slice none 0 0)).setCell ⟨w.heap.size + 1, 5, none⟩ (.slice none 0 0)).setCell ⟨w.heap.size + 1 + 1, 0, none⟩ (.int .i64 0)).setCell ⟨w.heap.size + 1 + 1, 1, none⟩ (.int .i64 0)).setCell ⟨w.heap.size + 1 + 1, 2, none⟩ (.int .i64 0)).setCell ⟨w.heap.size + 1 + 1, 3, none⟩ (.int .i64 0)).setCell ⟨w.heap.size + 1 + 1, 4, none⟩ (.slice none 0 0)) ∧ Hid (St w.heap.size w [⟨w.heap.size, 32, #[.int .i64 i, .int .i64 n, .slice a1 ws.length c1, .slice a2 cs.length c2, .slice a3 ss.length c3, .slice a4 ms.length c4]⟩, ⟨w.heap.size + 1, 32, #[.int .i64 0, .int .i64 0, .slice none 0 0, .slice none 0 0, .slice none 0 0, .slice none 0 0]⟩, ⟨w.heap.size + 1 + 1, 35, #[.int .i64 0, .int .i64 0, .int .i64 0, .int .i64 0, .slice none 0 0]⟩] [] X) := ⟨_, rfl, Hid.mk' (by
      have h := (St.put5 2 (St.put6 1 HS2.out rfl rfl (.int .i64 0) (.int .i64 0) (.slice none 0 0) (.slice none 0 0) (.slice none 0 0) (.slice none 0 0)) rfl rfl (.int .i64 0) (.int .i64 0) (.int .i64 0) (.int .i64 0) (.slice none 0 0))
      try simp only [World.size_alloc] at h
      try simp only [World.size_setCell] at h
      exact h)⟩
    rw [← hX9]
    clear hX9
    clear HS2
    have y0 := HS3.out.cell 1 rfl 0 (.int .i64 0) rfl
    have y1 := HS3.out.cell 1 rfl 1 (.int .i64 0) rfl
    have y2 := HS3.out.cell 1 rfl 2 (.slice none 0 0) rfl
    have y3 := HS3.out.cell 1 rfl 3 (.slice none 0 0) rfl
    have y4 := HS3.out.cell 1 rfl 4 (.slice none 0 0) rfl
    have y5 := HS3.out.cell 1 rfl 5 (.slice none 0 0) rfl
    have z0 := HS3.out.cell 2 rfl 0 (.int .i64 0) rfl
    have z1 := HS3.out.cell 2 rfl 1 (.int .i64 0) rfl
    have z2 := HS3.out.cell 2 rfl 2 (.int .i64 0) rfl
    have z3 := HS3.out.cell 2 rfl 3 (.int .i64 0) rfl
    have z4 := HS3.out.cell 2 rfl 4 (.slice none 0 0) rfl
    refine bodyPost_ret (v := .tuple #[.agg #[.int .i64 0, .int .i64 0, .slice none 0 0, .slice none 0 0, .slice none 0 0, .slice none 0 0], .agg #[.int .i64 0, .int .i64 0, .int .i64 0, .int .i64 0, .slice none 0 0], .bool false]) (by simp [results, Try.results15, go_sem, *]) rfl ?_
    rw [EA.out]
    exact ⟨none, 0, none, 0, none, 0, none, 0, none, 0, rfl, Own4.nil _ _, OwnS.nilB _ _, HS3.out.bel⟩
  go_wp2_with fail
  refine (l1Time_any _ _).mono ?_
  rintro r w9 ⟨rfl, he9⟩
  obtain rfl : w2 = w9 := he9.symm
  cases u2 : inB now 0 100
  · skip
    have EA : Hid (apA i n ws cs ss ms serv now = noA) := Hid.mk' (by unfold apA; rw [if_neg (by rw [u1, u2]; simp)])
    have z0 := HS2.out.cell 1 rfl 0 (.int .i64 0) rfl
    have zf0 := HS2.out.fro 1 rfl 0
    have z1 := HS2.out.cell 1 rfl 1 (.int .i64 0) rfl
    have zf1 := HS2.out.fro 1 rfl 1
    have z2 := HS2.out.cell 1 rfl 2 (.slice none 0 0) rfl
    have zf2 := HS2.out.fro 1 rfl 2
    have z3 := HS2.out.cell 1 rfl 3 (.slice none 0 0) rfl
    have zf3 := HS2.out.fro 1 rfl 3
    have z4 := HS2.out.cell 1 rfl 4 (.slice none 0 0) rfl
    have zf4 := HS2.out.fro 1 rfl 4
    have z5 := HS2.out.cell 1 rfl 5 (.slice none 0 0) rfl
    have zf5 := HS2.out.fro 1 rfl 5
    have y0 := HS2.out.cell 2 rfl 0 (.int .i64 0) rfl
    have yf0 := HS2.out.fro 2 rfl 0
    have y1 := HS2.out.cell 2 rfl 1 (.int .i64 0) rfl
    have yf1 := HS2.out.fro 2 rfl 1
    have y2 := HS2.out.cell 2 rfl 2 (.int .i64 0) rfl
    have yf2 := HS2.out.fro 2 rfl 2
    have y3 := HS2.out.cell 2 rfl 3 (.int .i64 0) rfl
    have yf3 := HS2.out.fro 2 rfl 3
    have y4 := HS2.out.cell 2 rfl 4 (.slice none 0 0) rfl
    have yf4 := HS2.out.fro 2 rfl 4
    go_wp2_with fail
    clear z0 zf0 z1 zf1 z2 zf2 z3 zf3 z4 zf4 z5 zf5 y0 yf0 y1 yf1 y2 yf2 y3 yf3 y4 yf4
    obtain ⟨V, hX9, HS3⟩ : ∃ X, X = (((((((((((w2.setCell ⟨w.heap.size + 1, 0, none⟩ (.int .i64 0)).setCell ⟨w.heap.size + 1, 1, none⟩ (.int .i64 0)).setCell ⟨w.heap.size + 1, 2, none⟩ (.slice none 0 0)).setCell ⟨w.heap.size + 1, 3, none⟩ (.slice none 0 0)).setCell ⟨w.heap.size + 1, 4, none⟩ (.slice none 0 0)).setCell ⟨w.heap.size + 1, 5, none⟩ (.slice none 0 0)).setCell ⟨w.heap.size + 1 + 1, 0, none⟩ (.int .i64 0)).setCell ⟨w.heap.size + 1 + 1, 1, none⟩ (.int .i64 0)).setCell ⟨w.heap.size + 1 + 1, 2, none⟩ (.int .i64 0)).setCell ⟨w.heap.size + 1 + 1, 3, none⟩ (.int .i64 0)).setCell ⟨w.heap.size + 1 + 1, 4, none⟩ (.slice none 0 0)) ∧ Hid (St w.heap.size w [⟨w.heap.size, 32, #[.int .i64 i, .int .i64 n, .slice a1 ws.length c1, .slice a2 cs.length c2, .slice a3 ss.length c3, .slice a4 ms.length c4]⟩, ⟨w.heap.size + 1, 32, #[.int .i64 0, .int .i64 0, .slice none 0 0, .slice none 0 0, .slice none 0 0, .slice none 0 0]⟩, ⟨w.heap.size + 1 + 1, 35, #[.int .i64 0, .int .i64 0, .int .i64 0, .int .i64 0, .slice none 0 0]⟩] [] X) := ⟨_, rfl, Hid.mk' (by
      have h := (St.put5 2 (St.put6 1 HS2.out rfl rfl (.int .i64 0) (.int .i64 0) (.slice none 0 0) (.slice none 0 0) (.slice none 0 0) (.slice none 0 0)) rfl rfl (.int .i64 0) (.int .i64 0) (.int .i64 0) (.int .i64 0) (.slice none 0 0))
      try simp only [World.size_alloc] at h
      try simp only [World.size_setCell] at h
      exact h)⟩
    rw [← hX9]
    clear hX9
    clear HS2
    have y0 := HS3.out.cell 1 rfl 0 (.int .i64 0) rfl
    have y1 := HS3.out.cell 1 rfl 1 (.int .i64 0) rfl
    have y2 := HS3.out.cell 1 rfl 2 (.slice none 0 0) rfl
    have y3 := HS3.out.cell 1 rfl 3 (.slice none 0 0) rfl
    have y4 := HS3.out.cell 1 rfl 4 (.slice none 0 0) rfl
    have y5 := HS3.out.cell 1 rfl 5 (.slice none 0 0) rfl
    have z0 := HS3.out.cell 2 rfl 0 (.int .i64 0) rfl
    have z1 := HS3.out.cell 2 rfl 1 (.int .i64 0) rfl
    have z2 := HS3.out.cell 2 rfl 2 (.int .i64 0) rfl
    have z3 := HS3.out.cell 2 rfl 3 (.int .i64 0) rfl
    have z4 := HS3.out.cell 2 rfl 4 (.slice none 0 0) rfl
    refine bodyPost_ret (v := .tuple #[.agg #[.int .i64 0, .int .i64 0, .slice none 0 0, .slice none 0 0, .slice none 0 0, .slice none 0 0], .agg #[.int .i64 0, .int .i64 0, .int .i64 0, .int .i64 0, .slice none 0 0], .bool false]) (by simp [results, Try.results15, go_sem, *]) rfl ?_
    rw [EA.out]
    exact ⟨none, 0, none, 0, none, 0, none, 0, none, 0, rfl, Own4.nil _ _, OwnS.nilB _ _, HS3.out.bel⟩
  have hb := clientB_num u1
  have hC := hasC_of (clientB_dup u1) serv now
  have EA : Hid (apA i n ws cs ss ms serv now = askP i n ws cs ss ms serv now (lastC serv now cs) (lastB' serv now cs)) := Hid.mk' (by unfold apA; rw [if_pos ⟨u1, u2⟩]; rfl)
  have HC : Hid (HasC serv now cs (lastC serv now cs) (lastB' serv now cs)) := hC
  clear hC
  have HF : Hid (∀ x ∈ ([⟨w.heap.size, 32, #[.int .i64 i, .int .i64 n, .slice a1 ws.length c1, .slice a2 cs.length c2, .slice a3 ss.length c3, .slice a4 ms.length c4]⟩, ⟨w.heap.size + 1, 32, #[.int .i64 0, .int .i64 0, .slice none 0 0, .slice none 0 0, .slice none 0 0, .slice none 0 0]⟩, ⟨w.heap.size + 1 + 1, 35, #[.int .i64 0, .int .i64 0, .int .i64 0, .int .i64 0, .slice none 0 0]⟩] : List BF), x.b < w2.heap.size) := fun x hx => (HS2.out.blk x hx).lt
  have p0 := HS2.out.cell 0 rfl 0 (.int .i64 i) rfl
  have p1 := HS2.out.cell 0 rfl 1 (.int .i64 n) rfl
  have p2 := HS2.out.cell 0 rfl 2 (.slice a1 ws.length c1) rfl
  have p3 := HS2.out.cell 0 rfl 3 (.slice a2 cs.length c2) rfl
  have p4 := HS2.out.cell 0 rfl 4 (.slice a3 ss.length c3) rfl
  have p5 := HS2.out.cell 0 rfl 5 (.slice a4 ms.length c4) rfl
  go_wp2_with fail
  clear p0 p1 p2 p3 p4 p5
  refine (l12Copy_any i n _ _ _ _ _ _ _ _ ws cs ss ms _ (HH.out.later HS2.out.bel) hx1 hx2 hx3 hx4).mono ?_
  rintro r w3 ⟨b1, b2, b3, b4, e1, e2, e3, e4, rfl, o4, b9⟩
  have hB : w.heap.size ≤ w2.heap.size := HS2.out.sz
  have hB3 : w2.heap.size ≤ w3.heap.size := b9.size
  have HO : Hid (Own4 w3 w2.heap.size (.slice b1 ws.length e1) (.slice b2 cs.length e2) (.slice b3 ss.length e3) (.slice b4 ms.length e4) ws cs ss ms) := o4
  clear o4
  have HS3 : Hid (St w.heap.size w [⟨w.heap.size, 32, #[.int .i64 i, .int .i64 n, .slice a1 ws.length c1, .slice a2 cs.length c2, .slice a3 ss.length c3, .slice a4 ms.length c4]⟩, ⟨w.heap.size + 1, 32, #[.int .i64 0, .int .i64 0, .slice none 0 0, .slice none 0 0, .slice none 0 0, .slice none 0 0]⟩, ⟨w.heap.size + 1 + 1, 35, #[.int .i64 0, .int .i64 0, .int .i64 0, .int .i64 0, .slice none 0 0]⟩] [] w3) := Hid.mk' (by
    have h := St.grow b9 HS2.out
    try simp only [World.size_alloc] at h
    try simp only [World.size_setCell] at h
    exact h)
  clear HS2
  clear b9
  go_wp2_with fail
  refine (l12Ap_any i n _ _ _ _ _ _ _ _ ws cs ss ms serv now _ _ _ w2.heap.size hB3 HO.out (by omega) hx1 hx2 hx3 HC.out).mono ?_
  generalize askP i n ws cs ss ms serv now (lastC serv now cs) (lastB' serv now cs) = Y9 at EA
  rintro r w4 ⟨b5, f5, b6, f6, b7, f7, b8, f8, b10, f10, rfl, o4, oS, b9⟩
  have HX : Hid (Own4 w4 w2.heap.size (.slice b5 Y9.W.length f5) (.slice b6 Y9.C.length f6) (.slice b7 Y9.S.length f7) (.slice b8 Y9.M.length f8) Y9.W Y9.C Y9.S Y9.M ∧ OwnS w4 w2.heap.size (.slice b10 Y9.Y.length f10) Y9.Y) := ⟨o4, oS⟩
  clear o4 oS HO
  have HS4 : Hid (St w.heap.size w [⟨w.heap.size, 32, #[.int .i64 i, .int .i64 n, .slice a1 ws.length c1, .slice a2 cs.length c2, .slice a3 ss.length c3, .slice a4 ms.length c4]⟩, ⟨w.heap.size + 1, 32, #[.int .i64 0, .int .i64 0, .slice none 0 0, .slice none 0 0, .slice none 0 0, .slice none 0 0]⟩, ⟨w.heap.size + 1 + 1, 35, #[.int .i64 0, .int .i64 0, .int .i64 0, .int .i64 0, .slice none 0 0]⟩] [] w4) := Hid.mk' (by
    have h := St.growB b9 HF.out hB HS3.out
    try simp only [World.size_alloc] at h
    try simp only [World.size_setCell] at h
    exact h)
  clear HS3
  clear b9 HF
  have lt0 := (HS4.out.lt 0 rfl).2
  have lt1 := (HS4.out.lt 1 rfl).2
  have lt2 := (HS4.out.lt 2 rfl).2
  have z0 := HS4.out.cell 1 rfl 0 (.int .i64 0) rfl
  have zf0 := HS4.out.fro 1 rfl 0
  have z1 := HS4.out.cell 1 rfl 1 (.int .i64 0) rfl
  have zf1 := HS4.out.fro 1 rfl 1
  have z2 := HS4.out.cell 1 rfl 2 (.slice none 0 0) rfl
  have zf2 := HS4.out.fro 1 rfl 2
  have z3 := HS4.out.cell 1 rfl 3 (.slice none 0 0) rfl
  have zf3 := HS4.out.fro 1 rfl 3
  have z4 := HS4.out.cell 1 rfl 4 (.slice none 0 0) rfl
  have zf4 := HS4.out.fro 1 rfl 4
  have z5 := HS4.out.cell 1 rfl 5 (.slice none 0 0) rfl
  have zf5 := HS4.out.fro 1 rfl 5
  have y0 := HS4.out.cell 2 rfl 0 (.int .i64 0) rfl
  have yf0 := HS4.out.fro 2 rfl 0
  have y1 := HS4.out.cell 2 rfl 1 (.int .i64 0) rfl
  have yf1 := HS4.out.fro 2 rfl 1
  have y2 := HS4.out.cell 2 rfl 2 (.int .i64 0) rfl
  have yf2 := HS4.out.fro 2 rfl 2
  have y3 := HS4.out.cell 2 rfl 3 (.int .i64 0) rfl
  have yf3 := HS4.out.fro 2 rfl 3
  have y4 := HS4.out.cell 2 rfl 4 (.slice none 0 0) rfl
  have yf4 := HS4.out.fro 2 rfl 4
  go_wp2_with fail
  clear lt0 lt1 lt2 z0 zf0 z1 zf1 z2 zf2 z3 zf3 z4 zf4 z5 zf5 y0 yf0 y1 yf1 y2 yf2 y3 yf3 y4 yf4
  obtain ⟨V, hX9, HS5⟩ : ∃ X, X = (((((((((((w4.setCell ⟨w.heap.size + 1, 0, none⟩ (.int .i64 Y9.i)).setCell ⟨w.heap.size + 1, 1, none⟩ (.int .i64 Y9.n)).setCell ⟨w.heap.size + 1, 2, none⟩ (.slice b5 Y9.W.length f5)).setCell ⟨w.heap.size + 1, 3, none⟩ (.slice b6 Y9.C.length f6)).setCell ⟨w.heap.size + 1, 4, none⟩ (.slice b7 Y9.S.length f7)).setCell ⟨w.heap.size + 1, 5, none⟩ (.slice b8 Y9.M.length f8)).setCell ⟨w.heap.size + 1 + 1, 0, none⟩ (.int .i64 Y9.k)).setCell ⟨w.heap.size + 1 + 1, 1, none⟩ (.int .i64 Y9.c)).setCell ⟨w.heap.size + 1 + 1, 2, none⟩ (.int .i64 Y9.s)).setCell ⟨w.heap.size + 1 + 1, 3, none⟩ (.int .i64 Y9.f)).setCell ⟨w.heap.size + 1 + 1, 4, none⟩ (.slice b10 Y9.Y.length f10)) ∧ Hid (St w.heap.size w [⟨w.heap.size, 32, #[.int .i64 i, .int .i64 n, .slice a1 ws.length c1, .slice a2 cs.length c2, .slice a3 ss.length c3, .slice a4 ms.length c4]⟩, ⟨w.heap.size + 1, 32, #[.int .i64 Y9.i, .int .i64 Y9.n, .slice b5 Y9.W.length f5, .slice b6 Y9.C.length f6, .slice b7 Y9.S.length f7, .slice b8 Y9.M.length f8]⟩, ⟨w.heap.size + 1 + 1, 35, #[.int .i64 Y9.k, .int .i64 Y9.c, .int .i64 Y9.s, .int .i64 Y9.f, .slice b10 Y9.Y.length f10]⟩] [⟨sel4, fun W => Own4 W w2.heap.size (.slice b5 Y9.W.length f5) (.slice b6 Y9.C.length f6) (.slice b7 Y9.S.length f7) (.slice b8 Y9.M.length f8) Y9.W Y9.C Y9.S Y9.M⟩, ⟨selT 54, fun W => OwnS W w2.heap.size (.slice b10 Y9.Y.length f10) Y9.Y⟩] X) := ⟨_, rfl, Hid.mk' (by
    have h := (St.put5 2 (St.put6 1 (St.add (selT 54) _ (keep_owns _ _ _) HX.out.2 (St.add sel4 _ (keep_own4 _ _ _ _ _ _ _ _ _) HX.out.1 HS4.out)) rfl rfl (.int .i64 Y9.i) (.int .i64 Y9.n) (.slice b5 Y9.W.length f5) (.slice b6 Y9.C.length f6) (.slice b7 Y9.S.length f7) (.slice b8 Y9.M.length f8)) rfl rfl (.int .i64 Y9.k) (.int .i64 Y9.c) (.int .i64 Y9.s) (.int .i64 Y9.f) (.slice b10 Y9.Y.length f10))
    try simp only [World.size_alloc] at h
    try simp only [World.size_setCell] at h
    exact h)⟩
  rw [← hX9]
  clear hX9
  clear HS4
  have y0 := HS5.out.cell 1 rfl 0 (.int .i64 Y9.i) rfl
  have y1 := HS5.out.cell 1 rfl 1 (.int .i64 Y9.n) rfl
  have y2 := HS5.out.cell 1 rfl 2 (.slice b5 Y9.W.length f5) rfl
  have y3 := HS5.out.cell 1 rfl 3 (.slice b6 Y9.C.length f6) rfl
  have y4 := HS5.out.cell 1 rfl 4 (.slice b7 Y9.S.length f7) rfl
  have y5 := HS5.out.cell 1 rfl 5 (.slice b8 Y9.M.length f8) rfl
  have z0 := HS5.out.cell 2 rfl 0 (.int .i64 Y9.k) rfl
  have z1 := HS5.out.cell 2 rfl 1 (.int .i64 Y9.c) rfl
  have z2 := HS5.out.cell 2 rfl 2 (.int .i64 Y9.s) rfl
  have z3 := HS5.out.cell 2 rfl 3 (.int .i64 Y9.f) rfl
  have z4 := HS5.out.cell 2 rfl 4 (.slice b10 Y9.Y.length f10) rfl
  refine bodyPost_ret (v := .tuple #[.agg #[.int .i64 Y9.i, .int .i64 Y9.n, .slice b5 Y9.W.length f5, .slice b6 Y9.C.length f6, .slice b7 Y9.S.length f7, .slice b8 Y9.M.length f8], .agg #[.int .i64 Y9.k, .int .i64 Y9.c, .int .i64 Y9.s, .int .i64 Y9.f, .slice b10 Y9.Y.length f10], .bool Y9.T]) (by simp [results, Try.results15, go_sem, *]) rfl ?_
  rw [EA.out]
  exact ⟨b5, f5, b6, f6, b7, f7, b8, f8, b10, f10, rfl, (HS5.out.of 0 rfl).lessB hB, (HS5.out.of 1 rfl).lessB hB, HS5.out.bel⟩

end Go.Proofs.Ythkngdbhddedpaa
