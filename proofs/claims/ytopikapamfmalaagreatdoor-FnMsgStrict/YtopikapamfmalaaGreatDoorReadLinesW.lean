/-
  The program's readLines, walked.
-/
import Derived.Test.YtopikapamfmalaaGreatDoorReadLines
namespace Go.Proofs.YtopikapamfmalaaGreatDoor
open Go.RowKit Go.Shelf
attribute [local go_sem] Oper.semAt_some

theorem keep_alloc {W : World} {k : Nat} {o : Obj} (o' : Obj) (h : W.heap[k]? = some o) : (W.alloc o').heap[k]? = some o := (Below.heap_alloc W o' k (Array.getElem?_eq_some_iff.1 h).1).trans h
theorem put5 {W : World} {B T : Nat} {a0 a1 a2 a3 a4 v0 v1 v2 v3 v4 : Value} (h : W.heap[B]? = some (.cells #[a0, a1, a2, a3, a4] T (0, 0))) : (((((W.setCell ⟨B, 0, none⟩ v0).setCell ⟨B, 1, none⟩ v1).setCell ⟨B, 2, none⟩ v2).setCell ⟨B, 3, none⟩ v3).setCell ⟨B, 4, none⟩ v4).heap[B]? = some (.cells #[v0, v1, v2, v3, v4] T (0, 0)) := by
  have := heap_put (o := 4) (u := v4) (heap_put (o := 3) (u := v3) (heap_put (o := 2) (u := v2) (heap_put (o := 1) (u := v1) (heap_put (o := 0) (u := v0) h))))
  simpa using this
theorem put5_else {W : World} {B b : Nat} {v0 v1 v2 v3 v4 : Value} (h : b ≠ B) : (((((W.setCell ⟨B, 0, none⟩ v0).setCell ⟨B, 1, none⟩ v1).setCell ⟨B, 2, none⟩ v2).setCell ⟨B, 3, none⟩ v3).setCell ⟨B, 4, none⟩ v4).heap[b]? = W.heap[b]? := by
  rw [heap_put_else h, heap_put_else h, heap_put_else h, heap_put_else h, heap_put_else h]
theorem put5_keeps (W : World) (B : Nat) (v0 v1 v2 v3 v4 : Value) : KeepsOthers W (((((W.setCell ⟨B, 0, none⟩ v0).setCell ⟨B, 1, none⟩ v1).setCell ⟨B, 2, none⟩ v2).setCell ⟨B, 3, none⟩ v3).setCell ⟨B, 4, none⟩ v4) :=
  ((((KeepsOthers.setCell _ _ _).trans (KeepsOthers.setCell _ _ _)).trans (KeepsOthers.setCell _ _ _)).trans (KeepsOthers.setCell _ _ _)).trans (KeepsOthers.setCell _ _ _)
theorem put5_below {w W : World} {n B : Nat} (h : Below n w W) (hB : n ≤ B) (v0 v1 v2 v3 v4 : Value) : Below n w (((((W.setCell ⟨B, 0, none⟩ v0).setCell ⟨B, 1, none⟩ v1).setCell ⟨B, 2, none⟩ v2).setCell ⟨B, 3, none⟩ v3).setCell ⟨B, 4, none⟩ v4) :=
  ((((h.setCell (p := ⟨B, 0, none⟩) hB _).setCell (p := ⟨B, 1, none⟩) hB _).setCell (p := ⟨B, 2, none⟩) hB _).setCell (p := ⟨B, 3, none⟩) hB _).setCell (p := ⟨B, 4, none⟩) hB _
theorem fail_post {w W W3 : World} {pre : List Ln} {c : Int} {te : TypeId} {ve : Value} (hk : KeepsOthers W W3) (hb : Below w.heap.size w W3) (h0 : W3.heap[w.heap.size]? = some (.cells zM 24 (0, 0))) (h1 : W3.heap[w.heap.size + 1]? = some (.cells #[.nilIface] 43 (0, 0))) (hbad : ∀ m n k f xs, ¬ Wrd pre m n k f xs) :
    KeepsOthers W ((((((W3.setCell ⟨w.heap.size, 0, none⟩ (.int .i64 0)).setCell ⟨w.heap.size, 1, none⟩ (.int .i64 0)).setCell ⟨w.heap.size, 2, none⟩ (.int .i64 0)).setCell ⟨w.heap.size, 3, none⟩ (.int .i64 0)).setCell ⟨w.heap.size, 4, none⟩ (.slice none 0 0)).setCell ⟨w.heap.size + 1, 0, none⟩ (.iface 47 (.agg #[.int .i64 c, .iface te ve]))).drew ∧ Code.ret = Code.ret ∧ RX w w.heap.size pre ((((((W3.setCell ⟨w.heap.size, 0, none⟩ (.int .i64 0)).setCell ⟨w.heap.size, 1, none⟩ (.int .i64 0)).setCell ⟨w.heap.size, 2, none⟩ (.int .i64 0)).setCell ⟨w.heap.size, 3, none⟩ (.int .i64 0)).setCell ⟨w.heap.size, 4, none⟩ (.slice none 0 0)).setCell ⟨w.heap.size + 1, 0, none⟩ (.iface 47 (.agg #[.int .i64 c, .iface te ve]))).drew := by
  obtain ⟨W4, hW4⟩ : ∃ W4, W4 = ((((W3.setCell ⟨w.heap.size, 0, none⟩ (.int .i64 0)).setCell ⟨w.heap.size, 1, none⟩ (.int .i64 0)).setCell ⟨w.heap.size, 2, none⟩ (.int .i64 0)).setCell ⟨w.heap.size, 3, none⟩ (.int .i64 0)).setCell ⟨w.heap.size, 4, none⟩ (.slice none 0 0) := ⟨_, rfl⟩
  rw [← hW4]
  have a1 : KeepsOthers W W4 := by rw [hW4]; exact hk.trans (put5_keeps _ _ _ _ _ _ _)
  have a2 : Below w.heap.size w W4 := by rw [hW4]; exact put5_below hb (Nat.le_refl _) _ _ _ _ _
  have a3 : W4.heap[w.heap.size]? = some (.cells zM 24 (0, 0)) := by rw [hW4]; exact put5 h0
  have a4 : W4.heap[w.heap.size + 1]? = some (.cells #[.nilIface] 43 (0, 0)) := by rw [hW4]; exact (put5_else (Nat.succ_ne_self _)).trans h1
  clear hW4
  obtain ⟨x, hx⟩ : ∃ x : Value, x = .iface 47 (.agg #[.int .i64 c, .iface te ve]) := ⟨_, rfl⟩
  rw [← hx]
  have a5 : (W4.setCell ⟨w.heap.size + 1, 0, none⟩ x).heap[w.heap.size + 1]? = some (.cells #[x] 43 (0, 0)) := by simpa using heap_put (o := 0) (u := x) a4
  have a6 : (W4.setCell ⟨w.heap.size + 1, 0, none⟩ x).heap[w.heap.size]? = some (.cells zM 24 (0, 0)) := (heap_put_else (Nat.ne_of_lt (Nat.lt_succ_self _))).trans a3
  have a7 : Below w.heap.size w (W4.setCell ⟨w.heap.size + 1, 0, none⟩ x) := a2.setCell (p := ⟨w.heap.size + 1, 0, none⟩) (Nat.le_succ _) _
  have a8 := a1.trans (KeepsOthers.setCell W4 ⟨w.heap.size + 1, 0, none⟩ x)
  refine ⟨a8.trans (KeepsOthers.drew _), rfl, a7.drew, a6, ⟨c, _, ?_, te, ve, rfl⟩, hbad⟩
  rw [← hx]
  exact a5
theorem put5_own {W : World} {base e size n B T : Nat} {v : Value} {xs : List Value} {cs : Array Value} {v0 v1 v2 v3 v4 : Value} (h : W.ownsRow base e size v n xs) (hB : W.heap[B]? = some (.cells cs T (0, 0))) (hne : T ≠ e) : (((((W.setCell ⟨B, 0, none⟩ v0).setCell ⟨B, 1, none⟩ v1).setCell ⟨B, 2, none⟩ v2).setCell ⟨B, 3, none⟩ v3).setCell ⟨B, 4, none⟩ v4).ownsRow base e size v n xs := by
  refine own_blocks' h fun g cur _ hh => put5_else ?_
  rintro rfl
  rw [hB] at hh
  injection hh with hh
  injection hh with _ h2
  exact hne h2
theorem own_cells {W : World} {base e size n j : Nat} {v : Value} {xs : List Value} {o : Obj} (h : W.ownsRow base e size v n xs) (hj : v.ownBlock = some j) (ho : W.heap[j]? = some o) : o.isCells = true := by
  obtain ⟨_, ⟨rfl, _⟩ | ⟨g, cap, cur, rfl, _, hh, _⟩⟩ := h
  · cases hj
  · have : g = j := by simpa [Value.ownBlock] using hj
    subst this
    rw [hh] at ho
    injection ho with ho
    subst ho
    rfl
theorem own_low {W : World} {base e size n b : Nat} {v : Value} {xs : List Value} (h : W.ownsRow base e size v n xs) (hb : b < base) : some b ≠ v.ownBlock := by
  obtain ⟨_, ⟨rfl, _⟩ | ⟨g, cap, cur, rfl, hg, hh, _⟩⟩ := h
  · simp [Value.ownBlock]
  · intro e1
    have : b = g := by simpa [Value.ownBlock] using e1
    omega
theorem grown_below {W W' : World} {base e size n : Nat} {v : Value} {xs : List Value} (h : W.ownsRow base e size v n xs) (hb : base ≤ W.heap.size) (g : W.grownBy W' v.ownBlock) : Below base W W' :=
  { os := g.os, tape := g.tape, output := g.output, size := g.size, block := fun k hk => g.block k (Nat.lt_of_lt_of_le hk hb) (own_low h hk) }
theorem keep_put {W : World} {D k : Nat} {o : Obj} (o' : Obj) (h : W.heap[k]? = some o) (hn : k < D) : (W.putObj D o').heap[k]? = some o := (World.putObj_heap_other (by omega)).trans h
theorem own_put {W : World} {D base e size n : Nat} {v : Value} {xs : List Value} {o : Obj} (o' : Obj) (h : W.ownsRow base e size v n xs) (ho : W.heap[D]? = some o) (hc : o.isCells = false) : (W.putObj D o').ownsRow base e size v n xs := by
  refine own_blocks' h fun g cur _ hh => ?_
  refine World.putObj_heap_other ?_
  rintro rfl
  rw [hh] at ho
  injection ho with ho
  subst ho
  cases hc
theorem new_alloc {W : World} {k : Nat} {o : Obj} (h : W.heap.size = k) : (W.alloc o).heap[k]? = some o := by subst h; exact heap_alloc_new _ _

set_option maxHeartbeats 4000000 in
set_option maxRecDepth 100000 in
theorem readLines_in (n : Nat) (hn : 5 ≤ n) (s : ByteArray) (hs : s.size ≤ 200) (p1 p2 p3 : Option Addr) (w : World) (hl : Lb w) (he : Er p1 p2 p3 w) :
    CallsIn Fence.wide n Tryz.prog 19 #[.string s] w fun r w' => ((∃ m n k f a cap xs, Wrd (lns 201 s hs) m n k f xs ∧ r = .returned (.tuple #[.agg #[.int .i64 m, .int .i64 n, .int .i64 k, .int .i64 f, .slice a xs.length cap], .nilIface]) ∧ w'.ownsRow w.heap.size 39 7 (.slice a xs.length cap) xs.length (cellsL xs))
      ∨ ((∀ m n k f xs, ¬ Wrd (lns 201 s hs) m n k f xs) ∧ ∃ c te ve, r = .returned (.tuple #[.agg zM, .iface 47 (.agg #[.int .i64 c, .iface te ve])]))) ∧ Below w.heap.size w w' := by
  have h1 : 1 ≤ n := by omega
  have HE : Hid (Er p1 p2 p3 w ∧ Lb w) := ⟨he, hl⟩
  obtain ⟨mx, hmx⟩ := hl.mx
  have g1 : 6 < w.heap.size := block_lt_of_cell hmx
  have g2 : 2 < w.heap.size := block_lt_of_cell he.opn
  have HW : Hid (Wn p1 mx w.heap.size w) := ⟨hmx, he.opn, g1, g2⟩
  clear hl he hmx g1 g2
  refine callsIn_of_wp_marks Tryz.func19 rfl trivial ?_ rfl
  simp only [Tryz.ntmps19, List.size_toArray, List.length_cons, List.length_nil, Nat.reduceAdd, Nat.reduceSub, Array.replicate_succ, Array.replicate_zero, List.push_toArray, List.append_toArray, List.nil_append, List.cons_append]
  gi_wp2_with fail
  first | refine ⟨trivial, ?_⟩ | refine ⟨fun _ => by omega, ?_⟩
  refine (callsIn_wide.2 (textLines_any s _)).mono ?_
  rintro e w' ⟨rfl, rfl⟩
  gi_wp2_with fail
  obtain ⟨W0, hW0⟩ : ∃ W0, W0 = ((((w.alloc (.cells zM 24)).alloc (.cells #[.nilIface] 43)).alloc (.cells zM 24)).alloc (.cells #[.int .i64 0] 3)).alloc (.cells #[.string s] 9) := ⟨_, rfl⟩
  rw [← hW0]
  have hz : W0.heap.size = w.heap.size + 5 := by subst hW0; simp
  have B0 : Below w.heap.size w W0 := hW0 ▸ (((((Below.refl _ _).alloc (Nat.le_refl _) _).alloc (by simp) _).alloc (by simp; omega) _).alloc (by simp; omega) _).alloc (by simp; omega) _
  have k0 : W0.heap[w.heap.size]? = some (.cells zM 24 (0, 0)) := by subst hW0; exact keep_alloc _ (keep_alloc _ (keep_alloc _ (keep_alloc _ (heap_alloc_new _ _))))
  have k1 : W0.heap[w.heap.size + 1]? = some (.cells #[.nilIface] 43 (0, 0)) := by subst hW0; exact keep_alloc _ (keep_alloc _ (keep_alloc _ (new_alloc (by simp))))
  have k2 : W0.heap[w.heap.size + 2]? = some (.cells zM 24 (0, 0)) := by subst hW0; exact keep_alloc _ (keep_alloc _ (new_alloc (by simp)))
  have k3 : W0.heap[w.heap.size + 3]? = some (.cells #[.int .i64 0] 3 (0, 0)) := by subst hW0; exact keep_alloc _ (new_alloc (by simp))
  have k4 : W0.heap[w.heap.size + 4]? = some (.cells #[.string s] 9 (0, 0)) := by subst hW0; exact new_alloc (by simp)
  have hBt : W0.cell? ⟨w.heap.size + 4, 0, none⟩ = some (.string s) := by simp [World.cell?, k4]
  have hWn := HW.out.keep B0
  clear hW0
  have hst := lines_stops (n - 1) (by omega) (w.heap.size + 4) w.heap.size p1 mx s hs W0 hBt (by omega) hWn (by omega)
  refine wpIn_rangeFunc_ownF rfl h1 (gf := 66) (lb := #[.pointer (some ⟨w.heap.size + 4, 0, none⟩)]) (by go_simp) trivial (enters_of Tryz.func66 (by kernel_rfl) rfl)
    hst belowK_t (belowK_b (by omega)) (Below.refl _ _) (fun _ => rfl)
    (RI w w.heap.size) (fun c pre W => c = .ret ∧ RX w w.heap.size pre W)
    (own_RI w w.heap.size _ (by omega)) (fun c s A B row hh hg hr => ⟨hh.1, own_RX w w.heap.size _ (by omega) s A B row hh.2 hg hr⟩)
    ⟨B0, k0, k1, k3, 0, 0, 0, 0, none, 0, [], .inl ⟨rfl, rfl, rfl, rfl, rfl, rfl⟩, k2, rfl, .inl ⟨rfl, rfl⟩⟩
    (fun x => { tmps := #[.string s, undef, .pointer (some ⟨w.heap.size, 0, none⟩), .pointer (some ⟨w.heap.size + 1, 0, none⟩), .pointer (some ⟨w.heap.size + 1 + 1, 0, none⟩), .pointer (some ⟨w.heap.size + 1 + 1 + 1, 0, none⟩), .string x.1.1, (if x.2 then .iface 179 (.pointer p1) else .nilIface), .string s, .func (.func 66) #[] #[.pointer (some ⟨w.heap.size + 1 + 1 + 1 + 1, 0, none⟩)], .string x.1.1, (if x.2 then .iface 179 (.pointer p1) else .nilIface), undef, undef, undef, undef, undef, undef, undef, undef, undef, undef, undef, undef, undef, undef, undef, undef, undef, undef, undef, undef, undef, undef, undef, undef, undef, undef, undef, undef, undef], defers := [] }) ?assign ?body ?done ?stop
  case assign =>
    rintro l ⟨y, o⟩ W K hK
    cases o
    · simp only [Bool.false_eq_true, if_false] at hK
      gi_wp2
      exact hK
    · simp only [if_true] at hK
      gi_wp2
      exact hK
  case body =>
    rintro l pre ⟨⟨y, hy⟩, o⟩ W hI hlen
    obtain ⟨hB, hres, herr, hcnt, m, nn, k, f, a, cap, xs, hR, hm, hown⟩ := hI
    have hzs := hB.size
    have D : Hid (Below w.heap.size w W ∧ W.heap[w.heap.size]? = some (.cells zM 24 (0, 0)) ∧ W.heap[w.heap.size + 1]? = some (.cells #[.nilIface] 43 (0, 0)) ∧ W.heap[w.heap.size + 1 + 1]? = some (.cells #[.int .i64 m, .int .i64 nn, .int .i64 k, .int .i64 f, .slice a xs.length cap] 24 (0, 0)) ∧ W.heap[w.heap.size + 1 + 1 + 1]? = some (.cells #[.int .i64 pre.length] 3 (0, 0)) ∧ W.ownsRow w.heap.size 39 7 (.slice a xs.length cap) xs.length (cellsL xs) ∧ Wrd pre m nn k f xs) := ⟨hB, hres, herr, hm, hcnt, hown, hR⟩
    clear hB hres herr hcnt hm hown hR
    have c0 : W.cell? ⟨w.heap.size + 1 + 1 + 1, 0, none⟩ = some (.int .i64 pre.length) := by have := D.out.2.2.2.2.1; simp only [World.cell?, this]; rfl
    have f0 : W.frozen? ⟨w.heap.size + 1 + 1 + 1, 0, none⟩ = false := by have := D.out.2.2.2.2.1; simp only [World.frozen?, this]; rfl
    obtain ⟨z0, z1, z2, z3, z4, zf, zl⟩ := cells5 D.out.2.2.2.1
    obtain ⟨y0, y1, y2, y3, y4, yf, yl⟩ := cells5 D.out.2.1
    have hmix : Tryz.prog.follows .mixedOrders = true := by kernel_rfl
    cases o
    · cases pre with
      | nil =>
        simp only [Bool.false_eq_true, if_false]
        gi_wp2_with fail
        refine ⟨trivial, fun _ => by omega, ?_⟩
        obtain ⟨W1, hW1⟩ : ∃ W1, W1 = W.setCell ⟨w.heap.size + 1 + 1 + 1, 0, none⟩ (.int .i64 1) := ⟨_, rfl⟩
        rw [← hW1]
        have D1 : Hid (KeepsOthers W W1 ∧ Below w.heap.size W W1 ∧ W1.heap[w.heap.size]? = some (.cells zM 24 (0, 0)) ∧ W1.heap[w.heap.size + 1]? = some (.cells #[.nilIface] 43 (0, 0)) ∧ W1.heap[w.heap.size + 1 + 1]? = some (.cells #[.int .i64 m, .int .i64 nn, .int .i64 k, .int .i64 f, .slice a xs.length cap] 24 (0, 0)) ∧ W1.heap[w.heap.size + 1 + 1 + 1]? = some (.cells #[.int .i64 1] 3 (0, 0))) :=
          ⟨hW1 ▸ KeepsOthers.setCell _ _ _, hW1 ▸ (Below.refl _ _).setCell (p := ⟨w.heap.size + 1 + 1 + 1, 0, none⟩) (by simp; omega) _, hW1 ▸ (heap_put_else (by omega)).trans D.out.2.1, hW1 ▸ (heap_put_else (by omega)).trans D.out.2.2.1, hW1 ▸ (heap_put_else (by omega)).trans D.out.2.2.2.1, hW1 ▸ (by simpa using heap_put (o := 0) (u := .int .i64 1) D.out.2.2.2.2.1)⟩
        clear hW1 c0 f0 z0 z1 z2 z3 z4 zf zl y0 y1 y2 y3 y4 yf yl
        have hz1 : w.heap.size ≤ W1.heap.size := (D.out.1.trans D1.out.2.1).size
        have hb1 := D.out.1.trans D1.out.2.1
        refine (CallsIn.inRound l (callsIn_wide.2 (readNums_any y (by omega) p1 p2 p3 W1 (HE.out.2.below hb1) (HE.out.1.below hb1)))).mono ?_
        clear hb1
        rintro r w2 ⟨⟨m', n', k', f', hN, rfl⟩ | ⟨hN, rfl⟩, b2⟩
        · have HN : Hid (Nums y m' n' k' f') := hN
          have zz2 := b2.size
          have D2 : Hid (KeepsOthers W w2 ∧ Below w.heap.size W w2 ∧ w2.heap[w.heap.size]? = some (.cells zM 24 (0, 0)) ∧ w2.heap[w.heap.size + 1]? = some (.cells #[.nilIface] 43 (0, 0)) ∧ w2.heap[w.heap.size + 1 + 1]? = some (.cells #[.int .i64 m, .int .i64 nn, .int .i64 k, .int .i64 f, .slice a xs.length cap] 24 (0, 0)) ∧ w2.heap[w.heap.size + 1 + 1 + 1]? = some (.cells #[.int .i64 1] 3 (0, 0))) := by
            obtain ⟨d1, d2, d3, d4, d5, d6⟩ := D1.out
            exact ⟨d1.trans (KeepsOthers.of_grownBy (grown_of_below none b2) (fun _ _ e => by cases e)), d2.trans (b2.mono hz1), (b2.block _ (Array.getElem?_eq_some_iff.1 d3).1).trans d3, (b2.block _ (Array.getElem?_eq_some_iff.1 d4).1).trans d4, (b2.block _ (Array.getElem?_eq_some_iff.1 d5).1).trans d5, (b2.block _ (Array.getElem?_eq_some_iff.1 d6).1).trans d6⟩
          clear D1 b2 hN
          obtain ⟨z0, z1, z2, z3, z4, zf, zl⟩ := cells5 D2.out.2.2.2.2.1
          gi_wp2_with fail
          obtain ⟨d1, d2, d3, d4, d5, d6⟩ := D2.out
          exact ⟨d1.trans (put5_keeps _ _ _ _ _ _ _), put5_below d2 (by omega) _ _ _ _ _, put5_below (D.out.1.trans d2) (by omega) _ _ _ _ _, (put5_else (by omega)).trans d3, (put5_else (by omega)).trans d4, (put5_else (by omega)).trans d6, m', n', k', f', none, 0, [], .inr ⟨_, [], rfl, rfl, HN.out, trivial⟩, put5 d5, rfl, .inl ⟨rfl, rfl⟩⟩
        · have HN : Hid (∀ m n k f, ¬ Nums y m n k f) := hN
          have zz2 := b2.size
          have D2 : Hid (KeepsOthers W w2 ∧ Below w.heap.size W w2 ∧ w2.heap[w.heap.size]? = some (.cells zM 24 (0, 0)) ∧ w2.heap[w.heap.size + 1]? = some (.cells #[.nilIface] 43 (0, 0)) ∧ w2.heap[w.heap.size + 1 + 1]? = some (.cells #[.int .i64 m, .int .i64 nn, .int .i64 k, .int .i64 f, .slice a xs.length cap] 24 (0, 0)) ∧ w2.heap[w.heap.size + 1 + 1 + 1]? = some (.cells #[.int .i64 1] 3 (0, 0))) := by
            obtain ⟨d1, d2, d3, d4, d5, d6⟩ := D1.out
            exact ⟨d1.trans (KeepsOthers.of_grownBy (grown_of_below none b2) (fun _ _ e => by cases e)), d2.trans (b2.mono hz1), (b2.block _ (Array.getElem?_eq_some_iff.1 d3).1).trans d3, (b2.block _ (Array.getElem?_eq_some_iff.1 d4).1).trans d4, (b2.block _ (Array.getElem?_eq_some_iff.1 d5).1).trans d5, (b2.block _ (Array.getElem?_eq_some_iff.1 d6).1).trans d6⟩
          clear D1 b2 hN
          obtain ⟨z0, z1, z2, z3, z4, zf, zl⟩ := cells5 D2.out.2.2.2.2.1
          gi_wp2_with fail
          obtain ⟨W3, hW3⟩ : ∃ W3, W3 = ((((w2.setCell ⟨w.heap.size + 1 + 1, 0, none⟩ (.int .i64 0)).setCell ⟨w.heap.size + 1 + 1, 1, none⟩ (.int .i64 0)).setCell ⟨w.heap.size + 1 + 1, 2, none⟩ (.int .i64 0)).setCell ⟨w.heap.size + 1 + 1, 3, none⟩ (.int .i64 0)).setCell ⟨w.heap.size + 1 + 1, 4, none⟩ (.slice none 0 0) := ⟨_, rfl⟩
          rw [← hW3]
          have D3 : Hid (KeepsOthers W W3 ∧ Below w.heap.size W W3 ∧ W3.heap[w.heap.size]? = some (.cells zM 24 (0, 0)) ∧ W3.heap[w.heap.size + 1]? = some (.cells #[.nilIface] 43 (0, 0)) ∧ W3.heap[w.heap.size + 1 + 1 + 1]? = some (.cells #[.int .i64 1] 3 (0, 0))) := by
            obtain ⟨d1, d2, d3, d4, d5, d6⟩ := D2.out
            exact hW3 ▸ ⟨d1.trans (put5_keeps _ _ _ _ _ _ _), put5_below d2 (by omega) _ _ _ _ _, (put5_else (by omega)).trans d3, (put5_else (by omega)).trans d4, (put5_else (by omega)).trans d6⟩
          clear hW3 z0 z1 z2 z3 z4 zf zl D2
          obtain ⟨y0, y1, y2, y3, y4, yf, yl⟩ := cells5 D3.out.2.2.1
          have c0 : W3.cell? ⟨w.heap.size + 1 + 1 + 1, 0, none⟩ = some (.int .i64 1) := by simp only [World.cell?, D3.out.2.2.2.2]; rfl
          have e0 : W3.cell? ⟨w.heap.size + 1, 0, none⟩ = some .nilIface := by simp only [World.cell?, D3.out.2.2.2.1]; rfl
          have e1 : W3.frozen? ⟨w.heap.size + 1, 0, none⟩ = false := by simp only [World.frozen?, D3.out.2.2.2.1]; rfl
          have HB : Hid (∀ m n k f xs, ¬ Wrd ([] ++ [((⟨y, hy⟩, false) : Ln)]) m n k f xs) := by
            rintro m n k f xs (⟨h, _⟩ | ⟨x, t, h, _, hh, _⟩)
            · cases h
            · injection h with h _; subst h; exact HN.out _ _ _ _ hh
          gi_region_with_o fail
          all_goals (gi_wp2; exact fail_post D3.out.1 (D.out.1.trans D3.out.2.1) D3.out.2.2.1 D3.out.2.2.2.1 HB.out)
      | cons x0 t =>
        have hcn : ((x0 :: t).length : Int) = (t.length : Int) + 1 := by simp
        have hc1 : ¬ ((t.length : Int) + 1 + 1 = 1) := by omega
        rw [hcn] at c0
        simp only [Bool.false_eq_true, if_false]
        gi_wp2_with fail
        refine ⟨trivial, fun _ => by omega, ?_⟩
        obtain ⟨W1, hW1⟩ : ∃ W1, W1 = W.setCell ⟨w.heap.size + 1 + 1 + 1, 0, none⟩ (.int .i64 ((t.length : Int) + 1 + 1)) := ⟨_, rfl⟩
        rw [← hW1]
        have D1 : Hid (KeepsOthers W W1 ∧ Below w.heap.size W W1 ∧ W1.heap[w.heap.size]? = some (.cells zM 24 (0, 0)) ∧ W1.heap[w.heap.size + 1]? = some (.cells #[.nilIface] 43 (0, 0)) ∧ W1.heap[w.heap.size + 1 + 1]? = some (.cells #[.int .i64 m, .int .i64 nn, .int .i64 k, .int .i64 f, .slice a xs.length cap] 24 (0, 0)) ∧ W1.heap[w.heap.size + 1 + 1 + 1]? = some (.cells #[.int .i64 ((t.length : Int) + 1 + 1)] 3 (0, 0))) :=
          ⟨hW1 ▸ KeepsOthers.setCell _ _ _, hW1 ▸ (Below.refl _ _).setCell (p := ⟨w.heap.size + 1 + 1 + 1, 0, none⟩) (by simp; omega) _, hW1 ▸ (heap_put_else (by omega)).trans D.out.2.1, hW1 ▸ (heap_put_else (by omega)).trans D.out.2.2.1, hW1 ▸ (heap_put_else (by omega)).trans D.out.2.2.2.1, hW1 ▸ (by simpa using heap_put (o := 0) (u := .int .i64 ((t.length : Int) + 1 + 1)) D.out.2.2.2.2.1)⟩
        have O1 : Hid (W1.ownsRow w.heap.size 39 7 (.slice a xs.length cap) xs.length (cellsL xs)) := hW1 ▸ own_set D.out.2.2.2.2.2.1 D.out.2.2.2.2.1 (by decide)
        clear hW1 c0 f0 z0 z1 z2 z3 z4 zf zl y0 y1 y2 y3 y4 yf yl
        have hz1 : w.heap.size ≤ W1.heap.size := (D.out.1.trans D1.out.2.1).size
        have hb1 := D.out.1.trans D1.out.2.1
        have hxl : xs.length ≤ 900 := by have := D.out.2.2.2.2.2.2.len; simp only [List.length_cons] at this hlen; omega
        have hcall := withSeal_any y (by omega) m nn k f a cap w.heap.size xs hxl p1 p2 p3 W1 (HE.out.2.below hb1) (HE.out.1.below hb1) O1.out hz1
        refine (CallsIn.inRound l (callsIn_wide.2 hcall)).mono ?_
        clear hb1 hcall
        rintro r w2 ⟨hr, g2⟩
        have D2 : Hid (KeepsOthers W w2 ∧ Below w.heap.size W w2 ∧ w2.heap[w.heap.size]? = some (.cells zM 24 (0, 0)) ∧ w2.heap[w.heap.size + 1]? = some (.cells #[.nilIface] 43 (0, 0)) ∧ w2.heap[w.heap.size + 1 + 1]? = some (.cells #[.int .i64 m, .int .i64 nn, .int .i64 k, .int .i64 f, .slice a xs.length cap] 24 (0, 0)) ∧ w2.heap[w.heap.size + 1 + 1 + 1]? = some (.cells #[.int .i64 ((t.length : Int) + 1 + 1)] 3 (0, 0))) := by
          obtain ⟨d1, d2, d3, d4, d5, d6⟩ := D1.out
          have ho := O1.out
          exact ⟨d1.trans (KeepsOthers.of_grownBy g2 (fun j o e ho' => own_cells ho e ho')), d2.trans (grown_below ho hz1 g2), (g2.block _ (Array.getElem?_eq_some_iff.1 d3).1 (own_neD ho d3 (by decide)).symm).trans d3, (g2.block _ (Array.getElem?_eq_some_iff.1 d4).1 (own_neD ho d4 (by decide)).symm).trans d4, (g2.block _ (Array.getElem?_eq_some_iff.1 d5).1 (own_neD ho d5 (by decide)).symm).trans d5, (g2.block _ (Array.getElem?_eq_some_iff.1 d6).1 (own_neD ho d6 (by decide)).symm).trans d6⟩
        have zz2 := g2.size
        clear g2 D1 O1
        obtain ⟨z0, z1, z2, z3, z4, zf, zl⟩ := cells5 D2.out.2.2.2.2.1
        rcases hr with ⟨u, g, cap', hP, rfl, hown2⟩ | ⟨hN, rfl⟩
        · have HP : Hid (Par y u.k u.t u.a u.b u.c u.d u.e ∧ w2.ownsRow w.heap.size 39 7 (.slice (some ⟨g, 0, none⟩) (xs.length + 1) cap') (xs.length + 1) (cellsL (xs ++ [u]))) := ⟨hP, hown2⟩
          clear hP hown2
          gi_wp2_with fail
          obtain ⟨d1, d2, d3, d4, d5, d6⟩ := D2.out
          have hxl2 : (xs ++ [u]).length = xs.length + 1 := by simp
          have hcl : ((((x0 :: t) ++ [((⟨y, hy⟩, false) : Ln)]).length : Nat) : Int) = ((t.length : Int) + 1 + 1) := by simp
          have hRR : Wrd ((x0 :: t) ++ [((⟨y, hy⟩, false) : Ln)]) m nn k f (xs ++ [u]) := by
            rcases D.out.2.2.2.2.2.2 with ⟨h, _⟩ | ⟨x, t', h, h1, h2, h3⟩
            · cases h
            · injection h with ea eb
              subst ea eb
              exact .inr ⟨x0, t ++ [_], rfl, h1, h2, SLn.snoc rfl HP.out.1 h3⟩
          refine ⟨d1.trans (put5_keeps _ _ _ _ _ _ _), put5_below d2 (by omega) _ _ _ _ _, put5_below (D.out.1.trans d2) (by omega) _ _ _ _ _, (put5_else (by omega)).trans d3, (put5_else (by omega)).trans d4, ?_, m, nn, k, f, some ⟨g, 0, none⟩, cap', xs ++ [u], hRR, ?_, ?_⟩
          · rw [hcl]; exact (put5_else (by omega)).trans d6
          · rw [hxl2]; exact put5 d5
          · rw [hxl2]; exact put5_own HP.out.2 d5 (by decide)
        · have HN : Hid (∀ k t a b c d e, ¬ Par y k t a b c d e) := hN
          clear hN
          gi_wp2_with fail
          obtain ⟨W3, hW3⟩ : ∃ W3, W3 = ((((w2.setCell ⟨w.heap.size + 1 + 1, 0, none⟩ (.int .i64 0)).setCell ⟨w.heap.size + 1 + 1, 1, none⟩ (.int .i64 0)).setCell ⟨w.heap.size + 1 + 1, 2, none⟩ (.int .i64 0)).setCell ⟨w.heap.size + 1 + 1, 3, none⟩ (.int .i64 0)).setCell ⟨w.heap.size + 1 + 1, 4, none⟩ (.slice none 0 0) := ⟨_, rfl⟩
          rw [← hW3]
          have D3 : Hid (KeepsOthers W W3 ∧ Below w.heap.size W W3 ∧ W3.heap[w.heap.size]? = some (.cells zM 24 (0, 0)) ∧ W3.heap[w.heap.size + 1]? = some (.cells #[.nilIface] 43 (0, 0)) ∧ W3.heap[w.heap.size + 1 + 1 + 1]? = some (.cells #[.int .i64 ((t.length : Int) + 1 + 1)] 3 (0, 0))) := by
            obtain ⟨d1, d2, d3, d4, d5, d6⟩ := D2.out
            exact hW3 ▸ ⟨d1.trans (put5_keeps _ _ _ _ _ _ _), put5_below d2 (by omega) _ _ _ _ _, (put5_else (by omega)).trans d3, (put5_else (by omega)).trans d4, (put5_else (by omega)).trans d6⟩
          clear hW3 z0 z1 z2 z3 z4 zf zl D2
          obtain ⟨y0, y1, y2, y3, y4, yf, yl⟩ := cells5 D3.out.2.2.1
          have c0 : W3.cell? ⟨w.heap.size + 1 + 1 + 1, 0, none⟩ = some (.int .i64 ((t.length : Int) + 1 + 1)) := by simp only [World.cell?, D3.out.2.2.2.2]; rfl
          have e0 : W3.cell? ⟨w.heap.size + 1, 0, none⟩ = some .nilIface := by simp only [World.cell?, D3.out.2.2.2.1]; rfl
          have e1 : W3.frozen? ⟨w.heap.size + 1, 0, none⟩ = false := by simp only [World.frozen?, D3.out.2.2.2.1]; rfl
          have HB : Hid (∀ m n k f xs, ¬ Wrd ((x0 :: t) ++ [((⟨y, hy⟩, false) : Ln)]) m n k f xs) := by
            rintro m n k f xs (⟨h, _⟩ | ⟨x, t', h, _, _, hh⟩)
            · cases h
            · injection h with _ h
              subst h
              obtain ⟨u, _, hu⟩ := SLn.unsnoc hh
              exact HN.out _ _ _ _ _ _ _ hu
          gi_region_with_o fail
          all_goals (gi_wp2; exact fail_post D3.out.1 (D.out.1.trans D3.out.2.1) D3.out.2.2.1 D3.out.2.2.2.1 HB.out)
    · simp only [if_true]
      gi_wp2_with fail
      obtain ⟨W3, hW3⟩ : ∃ W3, W3 = W.setCell ⟨w.heap.size + 1 + 1 + 1, 0, none⟩ (.int .i64 ((pre.length : Int) + 1)) := ⟨_, rfl⟩
      rw [← hW3]
      have D3 : Hid (KeepsOthers W W3 ∧ Below w.heap.size W W3 ∧ W3.heap[w.heap.size]? = some (.cells zM 24 (0, 0)) ∧ W3.heap[w.heap.size + 1]? = some (.cells #[.nilIface] 43 (0, 0)) ∧ W3.heap[w.heap.size + 1 + 1 + 1]? = some (.cells #[.int .i64 ((pre.length : Int) + 1)] 3 (0, 0))) :=
        ⟨hW3 ▸ KeepsOthers.setCell _ _ _, hW3 ▸ (Below.refl _ _).setCell (p := ⟨w.heap.size + 1 + 1 + 1, 0, none⟩) (by simp; omega) _, hW3 ▸ (heap_put_else (by omega)).trans D.out.2.1, hW3 ▸ (heap_put_else (by omega)).trans D.out.2.2.1, hW3 ▸ (by simpa using heap_put (o := 0) (u := .int .i64 ((pre.length : Int) + 1)) D.out.2.2.2.2.1)⟩
      clear hW3 c0 f0 z0 z1 z2 z3 z4 zf zl y0 y1 y2 y3 y4 yf yl
      obtain ⟨y0, y1, y2, y3, y4, yf, yl⟩ := cells5 D3.out.2.2.1
      have c0 : W3.cell? ⟨w.heap.size + 1 + 1 + 1, 0, none⟩ = some (.int .i64 ((pre.length : Int) + 1)) := by simp only [World.cell?, D3.out.2.2.2.2]; rfl
      have e0 : W3.cell? ⟨w.heap.size + 1, 0, none⟩ = some .nilIface := by simp only [World.cell?, D3.out.2.2.2.1]; rfl
      have e1 : W3.frozen? ⟨w.heap.size + 1, 0, none⟩ = false := by simp only [World.frozen?, D3.out.2.2.2.1]; rfl
      have HB : Hid (∀ m n k f xs, ¬ Wrd (pre ++ [((⟨y, hy⟩, true) : Ln)]) m n k f xs) := by
        rintro m n k f xs (⟨h, _⟩ | ⟨x, t', h, hx2, _, hh⟩)
        · simp at h
        · cases pre with
          | nil => injection h with h _; subst h; cases hx2
          | cons x0 t =>
            injection h with _ h
            subst h
            obtain ⟨u, hu, _⟩ := SLn.unsnoc hh
            cases hu
      gi_region_with_o fail
      all_goals (gi_wp2; exact fail_post D3.out.1 (D.out.1.trans D3.out.2.1) D3.out.2.2.1 D3.out.2.2.2.1 HB.out)
  case done =>
    rintro Dd ys W hD rfl hI hK
    obtain ⟨hB, hres, herr, hcnt, m, nn, k, f, a, cap, xs, hR, hm, hown⟩ := hI
    have HR : Hid (Wrd (lns 201 s hs) m nn k f xs ∧ Below w.heap.size w W ∧ W.heap[w.heap.size]? = some (.cells zM 24 (0, 0)) ∧ W.heap[w.heap.size + 1]? = some (.cells #[.nilIface] 43 (0, 0)) ∧ W.ownsRow w.heap.size 39 7 (.slice a xs.length cap) xs.length (cellsL xs)) := ⟨hR, hB, hres, herr, hown⟩
    have hzs := hB.size
    obtain ⟨z0, z1, z2, z3, z4, zf, zl⟩ := cells5 hm
    obtain ⟨y0, y1, y2, y3, y4, yf, yl⟩ := cells5 hres
    have e0 : W.cell? ⟨w.heap.size + 1, 0, none⟩ = some .nilIface := by simp only [World.cell?, herr]; rfl
    have e1 : W.frozen? ⟨w.heap.size + 1, 0, none⟩ = false := by simp only [World.frozen?, herr]; rfl
    clear hR hB hres herr hcnt hm hown
    gi_wp2
    obtain ⟨W4, hW4⟩ : ∃ W4, W4 = ((((W.setCell ⟨w.heap.size, 0, none⟩ (.int .i64 m)).setCell ⟨w.heap.size, 1, none⟩ (.int .i64 nn)).setCell ⟨w.heap.size, 2, none⟩ (.int .i64 k)).setCell ⟨w.heap.size, 3, none⟩ (.int .i64 f)).setCell ⟨w.heap.size, 4, none⟩ (.slice a xs.length cap) := ⟨_, rfl⟩
    rw [← hW4]
    obtain ⟨r1, r2, r3, r4, r5⟩ := HR.out
    have a1 : KeepsOthers W W4 := by rw [hW4]; exact put5_keeps _ _ _ _ _ _ _
    have a2 : Below w.heap.size w W4 := by rw [hW4]; exact put5_below r2 (Nat.le_refl _) _ _ _ _ _
    have a3 : W4.heap[w.heap.size]? = some (.cells #[.int .i64 m, .int .i64 nn, .int .i64 k, .int .i64 f, .slice a xs.length cap] 24 (0, 0)) := by rw [hW4]; exact put5 r3
    have a4 : W4.heap[w.heap.size + 1]? = some (.cells #[.nilIface] 43 (0, 0)) := by rw [hW4]; exact (put5_else (Nat.succ_ne_self _)).trans r4
    have a5 : W4.ownsRow w.heap.size 39 7 (.slice a xs.length cap) xs.length (cellsL xs) := by rw [hW4]; exact put5_own r5 r3 (by decide)
    clear hW4
    obtain ⟨W5, hW5⟩ : ∃ W5, W5 = W4.setCell ⟨w.heap.size + 1, 0, none⟩ .nilIface := ⟨_, rfl⟩
    rw [← hW5]
    have b1 : KeepsOthers W W5 := by rw [hW5]; exact a1.trans (KeepsOthers.setCell _ _ _)
    have b2 : Below w.heap.size w W5 := by rw [hW5]; exact a2.setCell (p := ⟨w.heap.size + 1, 0, none⟩) (Nat.le_succ _) _
    have b3 := (congrArg (fun W : World => W.heap[w.heap.size]?) hW5).trans ((heap_put_else (Nat.ne_of_lt (Nat.lt_succ_self _))).trans a3)
    have b4 : W5.heap[w.heap.size + 1]? = some (.cells #[.nilIface] 43 (0, 0)) := by rw [hW5]; simpa using heap_put (o := 0) (u := .nilIface) a4
    have b5 : W5.ownsRow w.heap.size 39 7 (.slice a xs.length cap) xs.length (cellsL xs) := by rw [hW5]; exact own_set a5 a4 (by decide)
    clear hW5 a1 a2 a3 a4 a5
    have hK' := b1.same Dd _ hK rfl
    refine ⟨by simp, .inl ⟨_, _, rfl, run_takeDeferred hK', ?_⟩⟩
    have q0 := keep_put (D := Dd) (.deferred none) b3 (by omega)
    have q1 := keep_put (D := Dd) (.deferred none) b4 (by omega)
    clear z0 z1 z2 z3 z4 zf zl y0 y1 y2 y3 y4 yf yl e0 e1
    obtain ⟨y0, y1, y2, y3, y4, yf, yl⟩ := cells5 q0
    have e0 : (W5.putObj Dd (.deferred none)).cell? ⟨w.heap.size + 1, 0, none⟩ = some .nilIface := by simp only [World.cell?, q1]; rfl
    refine ⟨.tuple #[.agg #[.int .i64 m, .int .i64 nn, .int .i64 k, .int .i64 f, .slice a xs.length cap], .nilIface], ?_, .inl ⟨m, nn, k, f, a, cap, xs, r1, rfl, own_put _ b5 hK' rfl⟩, b2.trans (belowK_b (w := w) (Nat.le_refl _) W5 Dd _ _ (by omega) hK' rfl rfl)⟩
    simp [results, Tryz.f19, go_sem, y0, y1, y2, y3, y4, e0]
  case stop =>
    rintro Dd c pre W hD hpre ⟨rfl, hX⟩ hK
    obtain ⟨hB, hres, ⟨c, v, herr, te, ve, rfl⟩, hbad⟩ := hX
    gi_wp2
    refine ⟨by simp, .inl ⟨_, _, rfl, run_takeDeferred hK, ?_⟩⟩
    have q0 := keep_put (D := Dd) (.deferred none) hres (by omega)
    have q1 := keep_put (D := Dd) (.deferred none) herr (by omega)
    obtain ⟨y0, y1, y2, y3, y4, yf, yl⟩ := cells5 q0
    have e0 : (W.putObj Dd (.deferred none)).cell? ⟨w.heap.size + 1, 0, none⟩ = some (.iface 47 (.agg #[.int .i64 c, .iface te ve])) := by simp only [World.cell?, q1]; rfl
    refine ⟨.tuple #[.agg zM, .iface 47 (.agg #[.int .i64 c, .iface te ve])], ?_, .inr ⟨?_, c, te, ve, rfl⟩, hB.trans (belowK_b (w := w) (Nat.le_refl _) W Dd _ _ (by omega) hK rfl rfl)⟩
    · simp [results, Tryz.f19, go_sem, y0, y1, y2, y3, y4, e0]
    · intro m n k f xs h
      obtain ⟨r, hr⟩ := hpre
      rw [← hr] at h
      obtain ⟨_, _, _, _, _, h'⟩ := h.pre
      exact hbad _ _ _ _ _ h'

theorem readLines_any (s : ByteArray) (hs : s.size ≤ 200) (p1 p2 p3 : Option Addr) (w : World) (hl : Lb w) (he : Er p1 p2 p3 w) :
    Calls Tryz.prog 19 #[.string s] w fun r w' => ((∃ m n k f a cap xs, Wrd (lns 201 s hs) m n k f xs ∧ r = .returned (.tuple #[.agg #[.int .i64 m, .int .i64 n, .int .i64 k, .int .i64 f, .slice a xs.length cap], .nilIface]) ∧ w'.ownsRow w.heap.size 39 7 (.slice a xs.length cap) xs.length (cellsL xs))
      ∨ ((∀ m n k f xs, ¬ Wrd (lns 201 s hs) m n k f xs) ∧ ∃ c te ve, r = .returned (.tuple #[.agg zM, .iface 47 (.agg #[.int .i64 c, .iface te ve])]))) ∧ Below w.heap.size w w' :=
  callsIn_wide.1 (readLines_in 5 (Nat.le_refl _) s hs p1 p2 p3 w hl he)

end Go.Proofs.YtopikapamfmalaaGreatDoor
