/-
  Rows of elements of so many numbers each: what they are in memory, and that they stay while memory only grows; copies, rows of the call's own, marks.
-/
import Derived.Test.YtimmfabaogeanaaDoorTouch
import Derived.Test.YtimmfabaogeanaaDoorOwnGen
import Derived.Test.YtimmfabaogeanaaDoorPut7
namespace Go.Proofs.YtimmfabaogeanaaDoor
open Go.RowKit

/-- Elements of so many numbers. -/
structure Cel (X : Type) where
  cs : X → List Int
  n : Nat
  len : ∀ x, (cs x).length = n
  pos : 0 < n

/-- Numbers lie from a place on. -/
def NumsAt (w : World) (b o : Nat) (cs : List Int) : Prop := ∀ (q : Nat) c, cs[q]? = some c → w.cell? ⟨b, o + q, none⟩ = some (.int .i64 c)
/-- A row of elements. -/
def NRow {X : Type} (C : Cel X) (w : World) (a : Option Addr) (xs : List X) : Prop :=
  xs = [] ∨ ∃ b off, a = some ⟨b, off, none⟩ ∧ b < w.heap.size ∧ ∀ (i : Nat) x, xs[i]? = some x → NumsAt w b (off + i * C.n) (C.cs x)

theorem NumsAt.later {w w' : World} {b o : Nat} {cs : List Int} (h : NumsAt w b o cs) (hb : Below w.heap.size w w') (hl : b < w.heap.size) : NumsAt w' b o cs :=
  fun q c hq => ((bcell hb).1 _ _ hl).trans (h q c hq)
theorem NumsAt.same {w w' : World} {b o : Nat} {cs : List Int} (h : NumsAt w b o cs) (e : w'.heap[b]? = w.heap[b]?) : NumsAt w' b o cs :=
  fun q c hq => (World.cell?_of_block e).trans (h q c hq)
theorem NRow.later {X : Type} {C : Cel X} {w w' : World} {a : Option Addr} {xs : List X} (h : NRow C w a xs) (hb : Below w.heap.size w w') : NRow C w' a xs := by
  rcases h with h | ⟨b, off, ha, hl, h⟩
  · exact Or.inl h
  · exact Or.inr ⟨b, off, ha, Nat.lt_of_lt_of_le hl hb.size, fun i s hs => (h i s hs).later hb hl⟩
theorem NRow.gr {X : Type} {C : Cel X} {w w' : World} {a : Option Addr} {xs : List X} {r : Option Nat} (h : NRow C w a xs) (hg : w.grownBy w' r) (hne : ∀ b off, a = some ⟨b, off, none⟩ → some b ≠ r) : NRow C w' a xs := by
  rcases h with h | ⟨b, off, rfl, hl, h⟩
  · exact Or.inl h
  · exact Or.inr ⟨b, off, rfl, Nat.lt_of_lt_of_le hl hg.size, fun i x hx => (h i x hx).same (hg.block b hl (hne b off rfl))⟩
theorem NRow.set {X : Type} {C : Cel X} {w : World} {g off p o : Nat} {v : Value} {xs : List X} (h : NRow C w (some ⟨g, off, none⟩) xs) (hp : p ≠ g) : NRow C (w.setCell ⟨p, o, none⟩ v) (some ⟨g, off, none⟩) xs := by
  rcases h with h | ⟨b, o', he, hl, h⟩
  · exact Or.inl h
  · injection he with he
    injection he with e1 e2
    subst e1 e2
    exact Or.inr ⟨g, off, rfl, by simpa using hl, fun i s hs q c hq => (cell_else (Or.inl hp)).trans (h i s hs q c hq)⟩
theorem NRow.nil {X : Type} (C : Cel X) (w : World) (a : Option Addr) : NRow C w a [] := Or.inl rfl

/-- Numbers, written over the cells from a place on. -/
def putN (w : World) (b o : Nat) : List Int → World
  | [] => w
  | c :: cs => putN (w.setCell ⟨b, o, none⟩ (.int .i64 c)) b (o + 1) cs
theorem putN_else {b b' o' : Nat} : ∀ {cs : List Int} {w : World} {o : Nat}, b ≠ b' ∨ o' < o ∨ o + cs.length ≤ o' → (putN w b o cs).cell? ⟨b', o', none⟩ = w.cell? ⟨b', o', none⟩
  | [], _, _, _ => rfl
  | c :: cs, w, o, h => by
    show (putN (w.setCell ⟨b, o, none⟩ (.int .i64 c)) b (o + 1) cs).cell? _ = _
    simp only [List.length_cons] at h
    rw [putN_else (by omega), cell_else (by omega)]
theorem putN_at {b : Nat} : ∀ {cs : List Int} {w : World} {o : Nat}, (∀ q, q < cs.length → ∃ u, w.cell? ⟨b, o + q, none⟩ = some u) → NumsAt (putN w b o cs) b o cs
  | [], _, _, _ => fun q c hq => by simp at hq
  | c :: cs, w, o, h => by
    intro q c' hq
    show (putN (w.setCell ⟨b, o, none⟩ (.int .i64 c)) b (o + 1) cs).cell? _ = _
    cases q with
    | zero =>
      simp at hq
      subst hq
      rw [putN_else (by omega)]
      exact cell_same (by simpa using h 0 (by simp))
    | succ q =>
      have ih := putN_at (b := b) (cs := cs) (w := w.setCell ⟨b, o, none⟩ (.int .i64 c)) (o := o + 1) (fun q' hq' => by
        rw [cell_else (by omega)]
        obtain ⟨u, hu⟩ := h (q' + 1) (by simp; omega)
        exact ⟨u, by rw [← hu]; congr 2; omega⟩)
      have := ih q c' (by simpa using hq)
      rw [← this]
      congr 2; omega
theorem putN_row {b n : Nat} {t : TypeId} : ∀ {cs : List Int} {w : World} {o : Nat}, (∃ cur, w.heap[b]? = some (.cells cur t (0, 0)) ∧ cur.size = n) → ∃ cur, (putN w b o cs).heap[b]? = some (.cells cur t (0, 0)) ∧ cur.size = n
  | [], _, _, h => h
  | c :: cs, w, o, h => putN_row (cs := cs) (w := w.setCell ⟨b, o, none⟩ (.int .i64 c)) (o := o + 1) (row_set h)
theorem putN_below {W : World} {b B : Nat} (hb : B ≤ b) : ∀ {cs : List Int} {w : World} {o : Nat}, Below B W w → Below B W (putN w b o cs)
  | [], _, _, h => h
  | c :: cs, w, o, h => putN_below hb (cs := cs) (w := w.setCell ⟨b, o, none⟩ (.int .i64 c)) (o := o + 1) (h.setCell (p := ⟨b, o, none⟩) hb _)
theorem putN_touch {W : World} {b : Nat} : ∀ {cs : List Int} {w : World} {o : Nat}, Touch b W w → Touch b W (putN w b o cs)
  | [], _, _, h => h
  | c :: cs, w, o, h => putN_touch (cs := cs) (w := w.setCell ⟨b, o, none⟩ (.int .i64 c)) (o := o + 1) h.set
theorem putN_wb {b n : Nat} : ∀ {cs : List Int} {w : World} {o : Nat}, WB w b n → WB (putN w b o cs) b n
  | [], _, _, h => h
  | c :: cs, w, o, h => putN_wb (cs := cs) (w := w.setCell ⟨b, o, none⟩ (.int .i64 c)) (o := o + 1) h.set

/-- On the way: so many elements are copied into a row of the call's own. -/
structure TrN {X : Type} (C : Cel X) (T : TypeId) (W : World) (n : Nat) (xs : List X) (j : Nat) (w : World) : Prop where
  below : Below W.heap.size W w
  row : ∃ cur, w.heap[W.heap.size]? = some (.cells cur T (0, 0)) ∧ cur.size = n * C.n
  done : ∀ (i : Nat) s, i < j → xs[i]? = some s → NumsAt w W.heap.size (i * C.n) (C.cs s)
theorem TrN.lt {X : Type} {C : Cel X} {T : TypeId} {W : World} {n : Nat} {xs : List X} {j : Nat} {w : World} (h : TrN C T W n xs j w) : W.heap.size < w.heap.size := by
  obtain ⟨cur, hc, _⟩ := h.row
  exact (Array.getElem?_eq_some_iff.1 hc).1
theorem TrN.later {X : Type} {C : Cel X} {T : TypeId} {W : World} {n : Nat} {xs : List X} {j : Nat} {w w' : World} (h : TrN C T W n xs j w) (hb : Below w.heap.size w w') : TrN C T W n xs j w' :=
  ⟨h.below.trans (hb.mono h.below.size), h.row.imp fun _ hc => ⟨(hb.block _ h.lt).trans hc.1, hc.2⟩, fun i s hi hs => (h.done i s hi hs).later hb h.lt⟩
theorem TrN.cell {X : Type} {C : Cel X} {T : TypeId} {W : World} {n : Nat} {xs : List X} {j : Nat} {w : World} (h : TrN C T W n xs j w) {o : Nat} (ho : o < n * C.n) : (∃ v, w.cell? ⟨W.heap.size, o, none⟩ = some v) ∧ w.frozen? ⟨W.heap.size, o, none⟩ = false := by
  obtain ⟨cur, hc, hn⟩ := h.row
  have ho' : o < cur.size := by omega
  exact ⟨⟨cur[o], by simp [World.cell?, hc, ho']⟩, by simp [World.frozen?, hc]⟩
theorem mul_le_of_lt {i j n : Nat} (h : i < j) : i * n + n ≤ j * n := by
  have := Nat.mul_le_mul_right n (show i + 1 ≤ j from h)
  rw [Nat.add_mul, Nat.one_mul] at this
  exact this
theorem TrN.step {X : Type} {C : Cel X} {T : TypeId} {W : World} {n : Nat} {xs : List X} {j : Nat} {w : World} {s : X} (h : TrN C T W n xs j w) (hj : j < n) (hs : xs[j]? = some s) : TrN C T W n xs (j + 1) (putN w W.heap.size (j * C.n) (C.cs s)) := by
  have hl := C.len s
  refine ⟨putN_below (Nat.le_refl _) h.below, putN_row h.row, fun i u hi hu => ?_⟩
  by_cases e : i = j
  · subst e
    obtain rfl : s = u := Option.some.inj (hs.symm.trans hu)
    exact putN_at fun q hq => (h.cell (by have := mul_le_of_lt (n := C.n) hj; omega)).1
  · have hd := h.done i u (by omega) hu
    intro q c hq
    have hlq : q < C.n := by have := (List.getElem?_eq_some_iff.1 hq).1; have := C.len u; omega
    have hm := mul_le_of_lt (n := C.n) (show i < j by omega)
    exact (putN_else (by omega)).trans (hd q c hq)

/-- The cells of a row. -/
def cellsN {X : Type} (C : Cel X) (xs : List X) : List Value := xs.flatMap fun x => (C.cs x).map (Value.int .i64)
theorem cellsN_length {X : Type} (C : Cel X) (xs : List X) : (cellsN C xs).length = xs.length * C.n := by
  induction xs with
  | nil => simp [cellsN]
  | cons s xs ih => simp only [cellsN, List.flatMap_cons, List.length_append, List.length_cons, List.length_map] at ih ⊢; rw [ih, C.len s, Nat.add_mul, Nat.one_mul, Nat.add_comm]
theorem cellsN_app {X : Type} (C : Cel X) (xs ys : List X) : cellsN C (xs ++ ys) = cellsN C xs ++ cellsN C ys := by simp [cellsN]
theorem cellsN_one {X : Type} (C : Cel X) (xs : List X) : ∀ u ∈ cellsN C xs, u.oneCell' = true := by
  intro u hu
  obtain ⟨s, _, hs⟩ := List.mem_flatMap.1 hu
  obtain ⟨c, _, rfl⟩ := List.mem_map.1 hs
  rfl
theorem cellsN_at {X : Type} (C : Cel X) {s : X} : ∀ {xs : List X} {i : Nat}, xs[i]? = some s → ∀ q, q < C.n → (cellsN C xs)[i * C.n + q]? = ((C.cs s)[q]?).map (Value.int .i64)
  | [], i, h, _, _ => by simp at h
  | x :: xs, 0, h, q, hq => by
    simp at h; subst h
    simp only [cellsN, List.flatMap_cons, Nat.zero_mul, Nat.zero_add]
    rw [List.getElem?_append_left (by simp [C.len]; exact hq), List.getElem?_map]
  | x :: xs, i + 1, h, q, hq => by
    have ih := cellsN_at C (xs := xs) (i := i) (by simpa using h) q hq
    simp only [cellsN, List.flatMap_cons] at ih ⊢
    rw [List.getElem?_append_right (by simp [C.len, Nat.add_mul]; omega), ← ih]
    congr 1; simp [C.len, Nat.add_mul]; omega
/-- A row of the call's own. -/
def OwnN {X : Type} (C : Cel X) (T : TypeId) (w : World) (base : Nat) (v : Value) (xs : List X) : Prop := w.ownsRow base T C.n v xs.length (cellsN C xs)
theorem OwnN.rows {X : Type} {C : Cel X} {T : TypeId} {w : World} {base : Nat} {v : Value} {xs : List X} (h : OwnN C T w base v xs) : ∃ a cap, v = .slice a xs.length cap ∧ xs.length ≤ cap ∧ NRow C w a xs ∧ (xs ≠ [] → ∃ g, a = some ⟨g, 0, none⟩ ∧ base ≤ g) := by
  have hc := fun g hg => h.cells (g := g) hg
  obtain ⟨_, ⟨rfl, h0⟩ | ⟨g, cap, cur, rfl, hb, hh, hnc, _⟩⟩ := h
  · obtain rfl : xs = [] := List.eq_nil_of_length_eq_zero h0
    exact ⟨none, 0, rfl, Nat.le_refl _, Or.inl rfl, fun hx => absurd rfl hx⟩
  · refine ⟨some ⟨g, 0, none⟩, cap, rfl, hnc, Or.inr ⟨g, 0, rfl, (Array.getElem?_eq_some_iff.1 hh).1, fun i s hs q c hq => ?_⟩, fun _ => ⟨g, rfl, hb⟩⟩
    have hlq : q < C.n := by have := (List.getElem?_eq_some_iff.1 hq).1; have := C.len s; omega
    have := hc g rfl (i * C.n + q) (.int .i64 c) (by rw [cellsN_at C hs q hlq, hq]; rfl)
    by_cases e : i * C.n + q = 0
    · have e' : 0 + i * C.n + q = 0 := by omega
      rw [e']; rw [e] at this; simpa [Addr.add] using this
    · rw [Addr.add, if_neg e] at this
      simpa [Nat.add_assoc] using this
theorem OwnN.rowAt {X : Type} {C : Cel X} {T : TypeId} {w : World} {base : Nat} {a : Option Addr} {n c : Nat} {zs : List X} (h : OwnN C T w base (.slice a n c) zs) : NRow C w a zs := by
  obtain ⟨a', c', e, _, r, _⟩ := h.rows
  injection e with e1 e2 e3
  rw [e1]; exact r
theorem OwnN.keep {X : Type} {C : Cel X} {T : TypeId} {w w' : World} {base : Nat} {v : Value} {zs : List X} (h : OwnN C T w base v zs) (hb : ∀ g, v.ownBlock = some g → w'.heap[g]? = w.heap[g]?) : OwnN C T w' base v zs := ownN_keep h hb
theorem OwnN.lt {X : Type} {C : Cel X} {T : TypeId} {w : World} {base : Nat} {v : Value} {zs : List X} (h : OwnN C T w base v zs) : ∀ g, v.ownBlock = some g → base ≤ g ∧ g < w.heap.size := fun g e => World.ownsRow.lt h g e
theorem OwnN.later {X : Type} {C : Cel X} {T : TypeId} {w w' : World} {base : Nat} {v : Value} {zs : List X} (h : OwnN C T w base v zs) (hb : Below w.heap.size w w') : OwnN C T w' base v zs :=
  h.keep fun g e => hb.block g (h.lt g e).2
theorem OwnN.gr {X : Type} {C : Cel X} {T : TypeId} {w w' : World} {base : Nat} {v : Value} {zs : List X} {r : Option Nat} (h : OwnN C T w base v zs) (hg : w.grownBy w' r) (hne : ∀ k, v.ownBlock = some k → some k ≠ r) : OwnN C T w' base v zs :=
  h.keep fun g e => hg.block g (h.lt g e).2 (hne g e)
theorem OwnN.type {X : Type} {C : Cel X} {T : TypeId} {w : World} {base : Nat} {v : Value} {zs : List X} (h : OwnN C T w base v zs) {g : Nat} (e : v.ownBlock = some g) : ∃ cur, w.heap[g]? = some (.cells cur T (0, 0)) := ownN_type h e
theorem OwnN.zero {X : Type} (C : Cel X) (T : TypeId) (w : World) (base : Nat) : OwnN C T w base (.slice none 0 0) [] := World.ownsRow_nil w base _ _
theorem OwnN.fresh {X : Type} (C : Cel X) (T : TypeId) (w : World) {base : Nat} (hb : base ≤ w.heap.size) : OwnN C T (w.alloc (.cells #[] T)) base (.slice (some ⟨w.heap.size, 0, none⟩) 0 0) [] :=
  ⟨by simp [cellsN], Or.inr ⟨w.heap.size, 0, #[], rfl, hb, heap_alloc_new _ _, Nat.le_refl _, Nat.zero_le _, by simp, by simp [cellsN]⟩⟩
theorem NRow.src {X : Type} {C : Cel X} {w : World} {g off : Nat} {xs : List X} (h : ∀ (i : Nat) s, xs[i]? = some s → NumsAt w g (off + i * C.n) (C.cs s)) : ∀ j u, (cellsN C xs)[j]? = some u → w.cell? ((⟨g, off, none⟩ : Addr).add j) = some u := by
  intro j u hu
  have hp := C.pos
  have hj : j < xs.length * C.n := by have := (List.getElem?_eq_some_iff.1 hu).1; rwa [cellsN_length] at this
  have hadd : (⟨g, off, none⟩ : Addr).add j = ⟨g, off + j, none⟩ := by unfold Addr.add; split <;> simp_all
  rw [hadd]
  obtain ⟨i, q, hq, rfl⟩ : ∃ i q, q < C.n ∧ j = i * C.n + q := ⟨j / C.n, j % C.n, Nat.mod_lt _ hp, by rw [Nat.mul_comm]; exact (Nat.div_add_mod _ _).symm⟩
  have hi : i < xs.length := by
    rcases Nat.lt_or_ge i xs.length with h' | h'
    · exact h'
    · have := Nat.mul_le_mul_right C.n h'; omega
  obtain ⟨s, hs⟩ : ∃ s, xs[i]? = some s := ⟨xs[i], List.getElem?_eq_getElem hi⟩
  rw [cellsN_at C hs q hq] at hu
  cases hc : (C.cs s)[q]? with
  | none => rw [hc] at hu; cases hu
  | some c =>
    rw [hc] at hu
    injection hu with hu
    subst hu
    rw [← Nat.add_assoc]
    exact h i s hs q c hc

/-- A row behind a row of the call's own. -/
theorem wp_app_row {X : Type} (C : Cel X) (P : Program) (T sT bytes : Nat) (z : Value) {w : World} {o : Oper} {a : Act} {K : Act → World → Prop} {Q : Exit → Act → World → Prop} (hu : P.underlying sT = some (.slice T)) (hinf : (P.info? T).map (fun i => (i.zero, i.size, i.bytes)) = some (some z, C.n, bytes)) (hz : z.cells.size = C.n) (hby : bytes ≤ 1000) (s x : Operand)
    (ho : o.op = .call { callee := .builtin .append, args := #[s, x], argTypes := #[sT, sT] }) (base : Nat) (v : Value) (zs : List X) (hs : a.eval s = v) (h : OwnN C T w base v zs) (b : Option Addr) (xs : List X) (c : Nat) (hx : a.eval x = .slice b xs.length c) (hr : NRow C w b xs)
    (hq : zs.length + xs.length ≤ 2000000) (hB : base ≤ w.heap.size)
    (hK : ∀ b' c' w', OwnN C T w' base (.slice b' (zs ++ xs).length c') (zs ++ xs) → w.grownBy w' v.ownBlock → K (a.put o.dst (.slice b' (zs ++ xs).length c')) w') : Oper.wp P o a w K Q := by
  obtain ⟨i0, hi, hz0, hz1, hz2⟩ := info_parts hinf
  obtain ⟨v', w', hrun, h1, h2⟩ := appendN_row w base sT o.type T i0 z C.n bytes hu hi hz0 hz1 hz2 hz C.pos v zs.length (cellsN C zs) h b xs.length c (cellsN C xs) (cellsN_length C xs)
    (by
      rcases hr with hr | ⟨g, off, rfl, _, hr⟩
      · exact Or.inl (by rw [hr]; rfl)
      · exact Or.inr ⟨_, rfl, NRow.src hr⟩)
    (cellsN_one C xs) (by unfold maxLen; omega) (by have := Nat.mul_le_mul hq hby; omega) hB
  have ho1 : OwnN C T w' base v' (zs ++ xs) := by unfold OwnN; rw [cellsN_app, List.length_append]; exact h1
  obtain ⟨b', c', rfl, _⟩ := ho1.rows
  unfold Oper.wp execOp
  simp only [ho, resolve, invoke, builtin, Sem.run_bind, Sem.run_pure, Result.andThen_ok, List.map_toArray, List.map_cons, List.map_nil, hs, hx, hrun]
  exact hK b' c' w' ho1 h2
theorem wpList_app_row {X : Type} (C : Cel X) (P : Program) (T sT bytes : Nat) (z : Value) {w : World} {ops : Array Oper} {rest : List Oper} {o : Oper} {a : Act} {Q : Exit → Act → World → Prop} (hu : P.underlying sT = some (.slice T)) (hinf : (P.info? T).map (fun i => (i.zero, i.size, i.bytes)) = some (some z, C.n, bytes)) (hz : z.cells.size = C.n) (hby : bytes ≤ 1000) (hgd : o.guard = none) (s x : Operand)
    (ho : o.op = .call { callee := .builtin .append, args := #[s, x], argTypes := #[sT, sT] }) (base : Nat) (v : Value) (zs : List X) (hs : a.eval s = v) (h : OwnN C T w base v zs) (b : Option Addr) (xs : List X) (c : Nat) (hx : a.eval x = .slice b xs.length c) (hr : NRow C w b xs)
    (hq : zs.length + xs.length ≤ 2000000) (hB : base ≤ w.heap.size)
    (hK : ∀ b' c' w', OwnN C T w' base (.slice b' (zs ++ xs).length c') (zs ++ xs) → w.grownBy w' v.ownBlock → wpList P ops Q rest (a.put o.dst (.slice b' (zs ++ xs).length c')) w') : wpList P ops Q (o :: rest) a w :=
  wpList_plain hgd fun _ hK' => wp_app_row C P T sT bytes z hu hinf hz hby s x ho base v zs hs h b xs c hx hr hq hB (fun b' c' w' h1 h2 => hK' _ _ (hK b' c' w' h1 h2))

/-- The marks lie in the row. -/
def MkN (n : Nat) (w : World) (v : Value) (l : Nat) (k0 : Int) : Prop := ∃ a cap, v = .slice a l cap ∧ (l = 0 ∨ ∃ g, a = some ⟨g, 0, none⟩ ∧ g < w.heap.size ∧ ∀ i, i < l * n → w.cell? ⟨g, i, none⟩ = some (.int .i64 (k0 + i)))
theorem MkN.later {n : Nat} {w w' : World} {v : Value} {l : Nat} {k0 : Int} (h : MkN n w v l k0) (hb : Below w.heap.size w w') : MkN n w' v l k0 := by
  obtain ⟨a, cap, rfl, h | ⟨g, rfl, hg, h⟩⟩ := h
  · exact ⟨a, cap, rfl, Or.inl h⟩
  · exact ⟨_, cap, rfl, Or.inr ⟨g, rfl, Nat.lt_of_lt_of_le hg hb.size, fun i hi => ((bcell hb).1 _ _ hg).trans (h i hi)⟩⟩
theorem MkN.gr {n : Nat} {w w' : World} {v : Value} {l : Nat} {k0 : Int} {r : Option Nat} (h : MkN n w v l k0) (hg : w.grownBy w' r) (hne : ∀ k, v.ownBlock = some k → some k ≠ r) : MkN n w' v l k0 := by
  obtain ⟨a, cap, rfl, h | ⟨g, rfl, hl, h⟩⟩ := h
  · exact ⟨a, cap, rfl, Or.inl h⟩
  · exact ⟨_, cap, rfl, Or.inr ⟨g, rfl, Nat.lt_of_lt_of_le hl hg.size, fun i hi => (World.cell?_of_block (hg.block g hl (hne g rfl))).trans (h i hi)⟩⟩
theorem marksN {w : World} {g j n : Nat} {k0 : Int} {l : List Int} (hl : l.length = n) (hc : ∀ q, q < n → ∃ u, w.cell? ⟨g, j * n + q, none⟩ = some u) (hb : ∀ i, i < j * n → w.cell? ⟨g, i, none⟩ = some (.int .i64 (k0 + i)))
    (hv : ∀ q c, l[q]? = some c → c = k0 + ((j * n + q : Nat) : Int)) :
    ∀ i, i < (j + 1) * n → (putN w g (j * n) l).cell? ⟨g, i, none⟩ = some (.int .i64 (k0 + i)) := by
  intro i hi
  have hat := putN_at (b := g) (cs := l) (w := w) (o := j * n) (fun q hq => hc q (by omega))
  rw [Nat.add_mul, Nat.one_mul] at hi
  by_cases h7 : i < j * n
  · exact (putN_else (by omega)).trans (hb i h7)
  · obtain ⟨q, rfl⟩ : ∃ q, i = j * n + q := ⟨i - j * n, by omega⟩
    obtain ⟨c, hq⟩ : ∃ c, l[q]? = some c := ⟨l[q]'(by omega), List.getElem?_eq_getElem (by omega)⟩
    rw [hat q c hq, hv q c hq]

end Go.Proofs.YtimmfabaogeanaaDoor
