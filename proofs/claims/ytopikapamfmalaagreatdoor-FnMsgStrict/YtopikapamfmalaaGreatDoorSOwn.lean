/-
  A row of seals of the call's own; a whole row of seals behind it, the source nil or not.
-/
import Derived.Test.YtopikapamfmalaaGreatDoorKCells
namespace Go.Proofs.YtopikapamfmalaaGreatDoor
open Go.RowKit

theorem append_nothing {P : Program} (w : World) (base : Nat) (t ty e : TypeId) (i : TypeInfo) (size : Nat) (ht : P.underlying t = some (.slice e)) (hi : P.info? e = some i) (v : Value) (n : Nat) (xs : List Value) (hown : w.ownsRow base e size v n xs) (c : Nat) :
    (Builtin.append_ #[t, t] ty #[v, .slice none 0 c]).run P w = .ok v w := by
  rcases hown.2 with ⟨rfl, rfl⟩ | ⟨g, cap, cur, rfl, _, _, hn, _⟩
  · simp [Builtin.append_, run_underlying ht, sizeOf, typeInfo, hi, Builtin.lenOf, Builtin.firstCells]
  · simp [Builtin.append_, run_underlying ht, sizeOf, typeInfo, hi, Builtin.lenOf, Builtin.firstCells, storeCells, hn]

theorem append_row {P : Program} (w : World) (base : Nat) (t ty e : TypeId) (i : TypeInfo) (z : Value) (size bytes : Nat) (ht : P.underlying t = some (.slice e)) (hi : P.info? e = some i) (hz : i.zero = some z)
    (hsize : i.size = size) (hby : i.bytes = bytes) (hzs : z.cells.size = size) (hsz : 0 < size) (v : Value) (n : Nat) (xs : List Value) (hown : w.ownsRow base e size v n xs)
    (a : Option Addr) (m c : Nat) (news : List Value) (hl : news.length = m * size) (hsrc : m = 0 ∨ ∃ ad, a = some ad ∧ ∀ j u, news[j]? = some u → w.cell? (ad.add j) = some u) (h1 : ∀ u ∈ news, u.oneCell' = true)
    (h63 : n + m ≤ maxLen) (hbytes : (n + m) * bytes ≤ 140737488355328) (hbase : base ≤ w.heap.size) :
    ∃ v' w', (Builtin.append_ #[t, t] ty #[v, .slice a m c]).run P w = .ok v' w' ∧ w'.ownsRow base e size v' (n + m) (xs ++ news) ∧ w.grownBy w' v.ownBlock := by
  cases a with
  | none =>
    have hm : m = 0 := by
      rcases hsrc with h | ⟨ad, h, _⟩
      · exact h
      · cases h
    subst hm
    have hn : news = [] := List.length_eq_zero_iff.1 (by simpa using hl)
    subst hn
    exact ⟨v, w, append_nothing w base t ty e i size ht hi v n xs hown c, by simpa using hown, ⟨rfl, rfl, rfl, Nat.le_refl _, fun _ _ _ => rfl⟩⟩
  | some ad =>
    have hnews : ∀ j u, news[j]? = some u → w.cell? (ad.add j) = some u := by
      rcases hsrc with h | ⟨ad', h, h'⟩
      · subst h
        have hn : news = [] := List.length_eq_zero_iff.1 (by simpa using hl)
        subst hn
        intro j u hj
        simp at hj
      · cases h
        exact h'
    obtain ⟨v', w', hr, h2, h3, _⟩ := run_append_own_at (P := P) w base t ty e i z size bytes ht hi hz hsize hby hzs hsz v n xs hown ad m c news hl hnews h1 h63 hbytes hbase
    exact ⟨v', w', hr, h2, h3⟩

theorem cellsL_app (xs ys : List Sl) : cellsL (xs ++ ys) = cellsL xs ++ cellsL ys := by simp [cellsL]
theorem cellsL_one (xs : List Sl) : ∀ u ∈ cellsL xs, u.oneCell' = true := by
  intro u hu
  obtain ⟨s, _, hs⟩ := List.mem_flatMap.1 hu
  exact cs_one s u hs
/-- A row of seals of the call's own. -/
def OwnS (w : World) (base : Nat) (v : Value) (xs : List Sl) : Prop := w.ownsRow base 39 7 v xs.length (cellsL xs)
theorem SRow.src {w : World} {g off : Nat} {xs : List Sl} (h : ∀ (i : Nat) s, xs[i]? = some s → SealAt w g (off + i * 7) s) : ∀ j u, (cellsL xs)[j]? = some u → w.cell? ((⟨g, off, none⟩ : Addr).add j) = some u := by
  intro j u hu
  have hj : j < xs.length * 7 := by have := (List.getElem?_eq_some_iff.1 hu).1; rwa [cellsL_length] at this
  have hadd : (⟨g, off, none⟩ : Addr).add j = ⟨g, off + j, none⟩ := by unfold Addr.add; split <;> simp_all
  rw [hadd]
  obtain ⟨i, q, hq, rfl⟩ : ∃ i q, q < 7 ∧ j = i * 7 + q := ⟨j / 7, j % 7, Nat.mod_lt _ (by decide), by omega⟩
  obtain ⟨s, hs⟩ : ∃ s, xs[i]? = some s := ⟨xs[i], List.getElem?_eq_getElem (by omega)⟩
  rw [cellsL_at hs q hq] at hu
  obtain ⟨c0, c1, c2, c3, c4, c5, c6⟩ := h i s hs
  rw [← Nat.add_assoc]
  obtain rfl | rfl | rfl | rfl | rfl | rfl | rfl : q = 0 ∨ q = 1 ∨ q = 2 ∨ q = 3 ∨ q = 4 ∨ q = 5 ∨ q = 6 := by omega
  all_goals (simp [Sl.cs] at hu; subst hu; assumption)

/-- Seals behind seals, for the walk. -/
theorem wpList_app_seals (w : World) {ops : Array Oper} {rest : List Oper} {o : Oper} {a : Act} {Q : Exit → Act → World → Prop} (hgd : o.guard = none) (s x : Operand)
    (ho : o.op = .call { callee := .builtin .append, args := #[s, x], argTypes := #[22, 22] }) (base : Nat) (v : Value) (zs : List Sl) (hs : a.eval s = v) (h : OwnS w base v zs) (b : Option Addr) (xs : List Sl) (c : Nat) (hx : a.eval x = .slice b xs.length c) (hr : SRow w b xs)
    (hq : zs.length + xs.length ≤ 2000000) (hB : base ≤ w.heap.size)
    (hK : ∀ b' c' w', OwnS w' base (.slice b' (zs ++ xs).length c') (zs ++ xs) → w.grownBy w' v.ownBlock → wpList Tryz.prog ops Q rest (a.put o.dst (.slice b' (zs ++ xs).length c')) w') : wpList Tryz.prog ops Q (o :: rest) a w := by
  refine wpList_plain hgd fun K hK' => ?_
  obtain ⟨i0, hi, hz0, hz1, hz2⟩ := info_parts infoSealM
  obtain ⟨v', w', hrun, h1, h2⟩ := append_row w base 22 o.type 39 i0 (.agg #[.int .i64 0, .int .i64 0, .int .i64 0, .int .i64 0, .int .i64 0, .int .i64 0, .int .i64 0]) 7 56 Tryz.underlying22 hi hz0 hz1 hz2 rfl (by decide) v zs.length (cellsL zs) h b xs.length c (cellsL xs) (cellsL_length xs)
    (by
      rcases hr with hr | ⟨g, off, rfl, _, hr⟩
      · exact Or.inl (by rw [hr]; rfl)
      · exact Or.inr ⟨_, rfl, SRow.src hr⟩)
    (cellsL_one xs) (by unfold maxLen; omega) (by omega) hB
  have ho1 : OwnS w' base v' (zs ++ xs) := by unfold OwnS; rw [cellsL_app, List.length_append]; exact h1
  obtain ⟨b', c', rfl, _⟩ := own_row ho1
  unfold Oper.wp execOp
  simp only [ho, resolve, invoke, builtin, Sem.run_bind, Sem.run_pure, Result.andThen_ok, List.map_toArray, List.map_cons, List.map_nil, hs, hx, hrun]
  exact hK' _ _ (hK b' c' w' ho1 h2)

theorem OwnS.rowAt {w : World} {base : Nat} {a : Option Addr} {n c : Nat} {zs : List Sl} (h : OwnS w base (.slice a n c) zs) : SRow w a zs := by
  obtain ⟨a', c', e, _, r, _⟩ := own_row h
  injection e with e1 e2 e3
  rw [e1]; exact r

theorem OwnS.later {w w' : World} {base : Nat} {v : Value} {zs : List Sl} (h : OwnS w base v zs) (hb : Below w.heap.size w w') : OwnS w' base v zs := by
  refine ⟨h.1, h.2.imp id ?_⟩
  rintro ⟨b, cap, cur, h1, h2, h3, h4⟩
  exact ⟨b, cap, cur, h1, h2, (hb.block b (Array.getElem?_eq_some_iff.1 h3).1).trans h3, h4⟩
theorem OwnS.row {w : World} {base : Nat} {v : Value} {zs : List Sl} (h : OwnS w base v zs) : ∃ a cap, v = .slice a zs.length cap ∧ SRow w a zs := by
  obtain ⟨a, cap, e, _, r, _⟩ := own_row h
  exact ⟨a, cap, e, r⟩

theorem wp_app_seals {w : World} {o : Oper} {a : Act} {K : Act → World → Prop} {Q : Exit → Act → World → Prop} (s x : Operand)
    (ho : o.op = .call { callee := .builtin .append, args := #[s, x], argTypes := #[22, 22] }) (base : Nat) (v : Value) (zs : List Sl) (hs : a.eval s = v) (h : OwnS w base v zs) (b : Option Addr) (xs : List Sl) (c : Nat) (hx : a.eval x = .slice b xs.length c) (hr : SRow w b xs)
    (hq : zs.length + xs.length ≤ 2000000) (hB : base ≤ w.heap.size)
    (hK : ∀ b' c' w', OwnS w' base (.slice b' (zs ++ xs).length c') (zs ++ xs) → w.grownBy w' v.ownBlock → K (a.put o.dst (.slice b' (zs ++ xs).length c')) w') : Oper.wp Tryz.prog o a w K Q := by
  obtain ⟨i0, hi, hz0, hz1, hz2⟩ := info_parts infoSealM
  obtain ⟨v', w', hrun, h1, h2⟩ := append_row w base 22 o.type 39 i0 (.agg #[.int .i64 0, .int .i64 0, .int .i64 0, .int .i64 0, .int .i64 0, .int .i64 0, .int .i64 0]) 7 56 Tryz.underlying22 hi hz0 hz1 hz2 rfl (by decide) v zs.length (cellsL zs) h b xs.length c (cellsL xs) (cellsL_length xs)
    (by
      rcases hr with hr | ⟨g, off, rfl, _, hr⟩
      · exact Or.inl (by rw [hr]; rfl)
      · exact Or.inr ⟨_, rfl, SRow.src hr⟩)
    (cellsL_one xs) (by unfold maxLen; omega) (by omega) hB
  have ho1 : OwnS w' base v' (zs ++ xs) := by unfold OwnS; rw [cellsL_app, List.length_append]; exact h1
  obtain ⟨b', c', rfl, _⟩ := own_row ho1
  unfold Oper.wp execOp
  simp only [ho, resolve, invoke, builtin, Sem.run_bind, Sem.run_pure, Result.andThen_ok, List.map_toArray, List.map_cons, List.map_nil, hs, hx, hrun]
  exact hK b' c' w' ho1 h2

theorem OwnS.lo {w : World} {base : Nat} {v : Value} {zs : List Sl} (h : OwnS w base v zs) : ∀ k, v.ownBlock = some k → base ≤ k := fun k hk => (World.ownsRow.lt h k hk).1
theorem OwnS.zero (w : World) {base : Nat} (hb : base ≤ w.heap.size) : OwnS (w.alloc (.cells #[] 39)) base (.slice (some ⟨w.heap.size, 0, none⟩) 0 0) [] :=
  ⟨rfl, Or.inr ⟨w.heap.size, 0, #[], rfl, hb, heap_alloc_new _ _, Nat.le_refl _, Nat.zero_le _, rfl, rfl⟩⟩

theorem own_type {w : World} {base e size n g : Nat} {v : Value} {xs : List Value} (h : w.ownsRow base e size v n xs) (hg : v.ownBlock = some g) : ∃ cur, w.heap[g]? = some (.cells cur e (0, 0)) := by
  rcases h.2 with ⟨rfl, _⟩ | ⟨g', cap, cur, rfl, _, h3, _⟩
  · cases hg
  · obtain rfl : g' = g := by injection hg
    exact ⟨cur, h3⟩
theorem own_keep {w w' : World} {base e size n : Nat} {v : Value} {xs : List Value} (h : w.ownsRow base e size v n xs) (hb : ∀ g, v.ownBlock = some g → w'.heap[g]? = w.heap[g]?) : w'.ownsRow base e size v n xs := by
  refine ⟨h.1, h.2.imp id ?_⟩
  rintro ⟨g, cap, cur, rfl, h2, h3, h4⟩
  exact ⟨g, cap, cur, rfl, h2, (hb g rfl).trans h3, h4⟩
theorem type_ne {w : World} {g g' t t' : Nat} {c c' : Array Value} (h : w.heap[g]? = some (.cells c t (0, 0))) (h' : w.heap[g']? = some (.cells c' t' (0, 0))) (hne : t ≠ t') : g ≠ g' := by
  rintro rfl
  rw [h] at h'
  injection h' with h'
  injection h' with _ h2
  exact hne h2

end Go.Proofs.YtopikapamfmalaaGreatDoor
