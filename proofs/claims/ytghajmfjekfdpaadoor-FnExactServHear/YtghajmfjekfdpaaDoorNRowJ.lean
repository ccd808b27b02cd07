/-
  Just one block is turned; a row that may be written.
-/
import Derived.Test.YtghajmfjekfdpaaDoorBaseJ
import Derived.OwnWalk
import Derived.Maps.AppendAt
namespace Go.Proofs.YtghajmfjekfdpaaDoor
open Go.RowKit

theorem Hid.mk' {p : Prop} (h : p) : Hid p := h
/-- Just one block is turned. -/
structure Touch (g : Nat) (w w' : World) : Prop where
  os : w'.os = w.os
  tape : w'.tape = w.tape
  output : w'.output = w.output
  size : w'.heap.size = w.heap.size
  block : ∀ k, k ≠ g → w'.heap[k]? = w.heap[k]?
theorem Touch.refl (g : Nat) (w : World) : Touch g w w := ⟨rfl, rfl, rfl, rfl, fun _ _ => rfl⟩
theorem Touch.below {g : Nat} {w w' : World} (h : Touch g w w') {B : Nat} (hB : B ≤ g) : Below B w w' := ⟨h.os, h.tape, h.output, Nat.le_of_eq h.size.symm, fun k hk => h.block k (by omega)⟩
theorem Touch.set {g o : Nat} {w w' : World} {v : Value} (h : Touch g w w') : Touch g w (w'.setCell ⟨g, o, none⟩ v) :=
  ⟨h.os, h.tape, h.output, by simpa using h.size, fun k hk => by
    rw [← h.block k hk]
    simp [World.setCell, Array.getElem?_modify, Ne.symm hk]⟩
/-- A row that may be written: so many cells of a block. -/
def WB (w : World) (g n : Nat) : Prop := ∃ cur t, w.heap[g]? = some (.cells cur t (0, 0)) ∧ n ≤ cur.size
theorem WB.set {w : World} {g o n : Nat} {v : Value} (h : WB w g n) : WB (w.setCell ⟨g, o, none⟩ v) g n := by
  obtain ⟨cur, t, hc, hn⟩ := h
  exact ⟨cur.setIfInBounds o v, t, by simp [World.setCell, Array.getElem?_modify, hc], by simpa using hn⟩
theorem WB.lt {w : World} {g n : Nat} (h : WB w g n) : g < w.heap.size := by
  obtain ⟨cur, t, hc, _⟩ := h
  exact (Array.getElem?_eq_some_iff.1 hc).1
theorem WB.cell {w : World} {g n : Nat} (h : WB w g n) {o : Nat} (ho : o < n) : (∃ v, w.cell? ⟨g, o, none⟩ = some v) ∧ w.frozen? ⟨g, o, none⟩ = false := by
  obtain ⟨cur, t, hc, hn⟩ := h
  have ho' : o < cur.size := by omega
  exact ⟨⟨cur[o], by simp [World.cell?, hc, ho']⟩, by simp [World.frozen?, hc]⟩
theorem WB.same {w w' : World} {g n : Nat} (h : WB w g n) (e : w'.heap[g]? = w.heap[g]?) : WB w' g n := by
  obtain ⟨cur, t, hc, hn⟩ := h
  exact ⟨cur, t, e.trans hc, hn⟩

end Go.Proofs.YtghajmfjekfdpaaDoor

namespace Go.Proofs.YtghajmfjekfdpaaDoor
open Go.RowKit

/-- What is left behind so many. -/
def restI (q : Int) (len : Nat) : Int := if q - len < 0 then -1 else q - len
theorem appendN_nothing {P : Program} (w : World) (base : Nat) (t ty e : TypeId) (i : TypeInfo) (size : Nat) (ht : P.underlying t = some (.slice e)) (hi : P.info? e = some i) (v : Value) (n : Nat) (xs : List Value) (hown : w.ownsRow base e size v n xs) (c : Nat) :
    (Builtin.append_ #[t, t] ty #[v, .slice none 0 c]).run P w = .ok v w := by
  rcases hown.2 with ⟨rfl, rfl⟩ | ⟨g, cap, cur, rfl, _, _, hn, _⟩
  · simp [Builtin.append_, run_underlying ht, sizeOf, typeInfo, hi, Builtin.lenOf, Builtin.firstCells]
  · simp [Builtin.append_, run_underlying ht, sizeOf, typeInfo, hi, Builtin.lenOf, Builtin.firstCells, storeCells, hn]

theorem appendN_row {P : Program} (w : World) (base : Nat) (t ty e : TypeId) (i : TypeInfo) (z : Value) (size bytes : Nat) (ht : P.underlying t = some (.slice e)) (hi : P.info? e = some i) (hz : i.zero = some z)
    (hsize : i.size = size) (hby : i.bytes = bytes) (hzs : z.cells.size = size) (hsz : 0 < size) (v : Value) (n : Nat) (xs : List Value) (hown : w.ownsRow base e size v n xs)
    (a : Option Addr) (m c : Nat) (news : List Value) (hl : news.length = m * size) (hsrc : m = 0 ∨ ∃ ad, a = some ad ∧ ∀ j u, news[j]? = some u → w.cell? (ad.add j) = some u) (h1 : ∀ u ∈ news, u.oneCell' = true)
    (h63 : n + m ≤ maxLen) (hbytes : (n + m) * bytes ≤ 140737488355328) (hbase : base ≤ w.heap.size) :
    ∃ v' w', (Builtin.append_ #[t, t] ty #[v, .slice a m c]).run P w = .ok v' w' ∧ w'.ownsRow base e size v' (n + m) (xs ++ news) ∧ w.grownBy w' v.ownBlock := by
  cases a with
  | none =>
    have hm : m = 0 := by
      rcases hsrc with h | ⟨ad, h, _⟩
      · exact h
      · cases h
    subst hm
    have hn : news = [] := List.length_eq_zero_iff.1 (by simpa using hl)
    subst hn
    exact ⟨v, w, appendN_nothing w base t ty e i size ht hi v n xs hown c, by simpa using hown, ⟨rfl, rfl, rfl, Nat.le_refl _, fun _ _ _ => rfl⟩⟩
  | some ad =>
    have hnews : ∀ j u, news[j]? = some u → w.cell? (ad.add j) = some u := by
      rcases hsrc with h | ⟨ad', h, h'⟩
      · subst h
        have hn : news = [] := List.length_eq_zero_iff.1 (by simpa using hl)
        subst hn
        intro j u hj
        simp at hj
      · cases h
        exact h'
    obtain ⟨v', w', hr, h2, h3, _⟩ := run_append_own_at (P := P) w base t ty e i z size bytes ht hi hz hsize hby hzs hsz v n xs hown ad m c news hl hnews h1 h63 hbytes hbase
    exact ⟨v', w', hr, h2, h3⟩

theorem ownN_type {w : World} {base e size n g : Nat} {v : Value} {xs : List Value} (h : w.ownsRow base e size v n xs) (hg : v.ownBlock = some g) : ∃ cur, w.heap[g]? = some (.cells cur e (0, 0)) := by
  rcases h.2 with ⟨rfl, _⟩ | ⟨g', cap, cur, rfl, _, h3, _⟩
  · cases hg
  · obtain rfl : g' = g := by injection hg
    exact ⟨cur, h3⟩
theorem ownN_keep {w w' : World} {base e size n : Nat} {v : Value} {xs : List Value} (h : w.ownsRow base e size v n xs) (hb : ∀ g, v.ownBlock = some g → w'.heap[g]? = w.heap[g]?) : w'.ownsRow base e size v n xs := by
  refine ⟨h.1, h.2.imp id ?_⟩
  rintro ⟨g, cap, cur, rfl, h2, h3, h4⟩
  exact ⟨g, cap, cur, rfl, h2, (hb g rfl).trans h3, h4⟩
theorem typeN_ne {w : World} {g g' t t' : Nat} {c c' : Array Value} (h : w.heap[g]? = some (.cells c t (0, 0))) (h' : w.heap[g']? = some (.cells c' t' (0, 0))) (hne : t ≠ t') : g ≠ g' := by
  rintro rfl
  rw [h] at h'
  injection h' with h'
  injection h' with _ h2
  exact hne h2

end Go.Proofs.YtghajmfjekfdpaaDoor

namespace Go.Proofs.YtghajmfjekfdpaaDoor
open Go.RowKit

theorem cell_else {w : World} {b o b' o' : Nat} {v : Value} (h : b ≠ b' ∨ o ≠ o') : (w.setCell ⟨b, o, none⟩ v).cell? ⟨b', o', none⟩ = w.cell? ⟨b', o', none⟩ := by
  apply World.cell?_setCell_other
  intro e
  injection e with e1 e2
  rcases h with h | h
  · exact h e1
  · exact h e2

theorem SRow.set {w : World} {g off p o : Nat} {v : Value} {xs : List Sl} (h : SRow w (some ⟨g, off, none⟩) xs) (hp : p ≠ g) : SRow (w.setCell ⟨p, o, none⟩ v) (some ⟨g, off, none⟩) xs := by
  rcases h with h | ⟨b, o', he, hl, h⟩
  · exact Or.inl h
  · injection he with he
    injection he with e1 e2
    subst e1 e2
    refine Or.inr ⟨g, off, rfl, by simpa using hl, fun i s hs => ?_⟩
    have hd := h i s hs
    exact ⟨(cell_else (Or.inl hp)).trans hd.c0, (cell_else (Or.inl hp)).trans hd.c1, (cell_else (Or.inl hp)).trans hd.c2, (cell_else (Or.inl hp)).trans hd.c3, (cell_else (Or.inl hp)).trans hd.c4, (cell_else (Or.inl hp)).trans hd.c5, (cell_else (Or.inl hp)).trans hd.c6⟩

theorem infoSeal : (Tryd.prog.info? 64).map (fun i => (i.zero, i.size, i.bytes)) = some (some (.agg #[.int .i64 0, .int .i64 0, .int .i64 0, .int .i64 0, .int .i64 0, .int .i64 0, .int .i64 0]), 7, 56) := by kernel_rfl

/-- A seal, written over seven cells. -/
def put7 (w : World) (b o : Nat) (s : Sl) : World :=
  (((((((w.setCell ⟨b, o, none⟩ (.int .i64 s.k)).setCell ⟨b, o + 1, none⟩ (.int .i64 s.t)).setCell ⟨b, o + 2, none⟩ (.int .i64 s.a)).setCell ⟨b, o + 3, none⟩ (.int .i64 s.b)).setCell ⟨b, o + 4, none⟩ (.int .i64 s.c)).setCell ⟨b, o + 5, none⟩ (.int .i64 s.d)).setCell ⟨b, o + 6, none⟩ (.int .i64 s.e))
theorem put7_else {w : World} {b o b' o' : Nat} {s : Sl} (h : b ≠ b' ∨ o' < o ∨ o + 6 < o') : (put7 w b o s).cell? ⟨b', o', none⟩ = w.cell? ⟨b', o', none⟩ := by
  unfold put7
  rw [cell_else (by omega), cell_else (by omega), cell_else (by omega), cell_else (by omega), cell_else (by omega), cell_else (by omega), cell_else (by omega)]
theorem cell_same {w : World} {b o : Nat} {v : Value} (h : ∃ u, w.cell? ⟨b, o, none⟩ = some u) : (w.setCell ⟨b, o, none⟩ v).cell? ⟨b, o, none⟩ = some v := by
  obtain ⟨u, hu⟩ := h
  exact World.cell?_setCell_same (u := u) _ _ _ hu
theorem put7_at {w : World} {b o : Nat} {s : Sl} (h : ∀ q, q < 7 → ∃ u, w.cell? ⟨b, o + q, none⟩ = some u) : SealAt (put7 w b o s) b o s := by
  have h0 := h 0 (by omega); have h1 := h 1 (by omega); have h2 := h 2 (by omega); have h3 := h 3 (by omega); have h4 := h 4 (by omega); have h5 := h 5 (by omega); have h6 := h 6 (by omega)
  unfold put7
  constructor
  · rw [cell_else (by omega), cell_else (by omega), cell_else (by omega), cell_else (by omega), cell_else (by omega), cell_else (by omega), cell_same (by simpa using h0)]
  · rw [cell_else (by omega), cell_else (by omega), cell_else (by omega), cell_else (by omega), cell_else (by omega), cell_same (by rw [cell_else (by omega)]; exact h1)]
  · rw [cell_else (by omega), cell_else (by omega), cell_else (by omega), cell_else (by omega), cell_same (by rw [cell_else (by omega), cell_else (by omega)]; exact h2)]
  · rw [cell_else (by omega), cell_else (by omega), cell_else (by omega), cell_same (by rw [cell_else (by omega), cell_else (by omega), cell_else (by omega)]; exact h3)]
  · rw [cell_else (by omega), cell_else (by omega), cell_same (by rw [cell_else (by omega), cell_else (by omega), cell_else (by omega), cell_else (by omega)]; exact h4)]
  · rw [cell_else (by omega), cell_same (by rw [cell_else (by omega), cell_else (by omega), cell_else (by omega), cell_else (by omega), cell_else (by omega)]; exact h5)]
  · rw [cell_same (by rw [cell_else (by omega), cell_else (by omega), cell_else (by omega), cell_else (by omega), cell_else (by omega), cell_else (by omega)]; exact h6)]
theorem row_set {w : World} {b o n : Nat} {t : TypeId} {v : Value} (h : ∃ cur, w.heap[b]? = some (.cells cur t (0, 0)) ∧ cur.size = n) : ∃ cur, (w.setCell ⟨b, o, none⟩ v).heap[b]? = some (.cells cur t (0, 0)) ∧ cur.size = n := by
  obtain ⟨cur, hc, hn⟩ := h
  exact ⟨cur.setIfInBounds o v, by simp [World.setCell, Array.getElem?_modify, hc], by simpa using hn⟩
theorem put7_row {w : World} {b o n : Nat} {t : TypeId} {s : Sl} (h : ∃ cur, w.heap[b]? = some (.cells cur t (0, 0)) ∧ cur.size = n) : ∃ cur, (put7 w b o s).heap[b]? = some (.cells cur t (0, 0)) ∧ cur.size = n :=
  row_set (row_set (row_set (row_set (row_set (row_set (row_set h))))))
theorem put7_below {W w : World} {b o B : Nat} {s : Sl} (h : Below B W w) (hb : B ≤ b) : Below B W (put7 w b o s) :=
  ((((((h.setCell (p := ⟨b, o, none⟩) hb _).setCell (p := ⟨b, o + 1, none⟩) hb _).setCell (p := ⟨b, o + 2, none⟩) hb _).setCell (p := ⟨b, o + 3, none⟩) hb _).setCell (p := ⟨b, o + 4, none⟩) hb _).setCell (p := ⟨b, o + 5, none⟩) hb _).setCell (p := ⟨b, o + 6, none⟩) hb _

theorem put7_heap {w : World} {g k o : Nat} {s : Sl} (h : g ≠ k) : (put7 w g o s).heap[k]? = w.heap[k]? := by
  unfold put7
  simp [World.setCell, Array.getElem?_modify, h]
theorem put7_size {w : World} {b o : Nat} {s : Sl} : (put7 w b o s).heap.size = w.heap.size := by
  simp [put7]

end Go.Proofs.YtghajmfjekfdpaaDoor

namespace Go.Proofs.YtghajmfjekfdpaaDoor
open Go.RowKit

/-- Elements of so many numbers. -/
structure Cel (X : Type) where
  cs : X → List Int
  n : Nat
  len : ∀ x, (cs x).length = n
  pos : 0 < n

/-- Numbers lie from a place on. -/
def NumsAt (w : World) (b o : Nat) (cs : List Int) : Prop := ∀ (q : Nat) c, cs[q]? = some c → w.cell? ⟨b, o + q, none⟩ = some (.int .i64 c)
/-- A row of elements. -/
def NRow {X : Type} (C : Cel X) (w : World) (a : Option Addr) (xs : List X) : Prop :=
  xs = [] ∨ ∃ b off, a = some ⟨b, off, none⟩ ∧ b < w.heap.size ∧ ∀ (i : Nat) x, xs[i]? = some x → NumsAt w b (off + i * C.n) (C.cs x)

theorem NumsAt.later {w w' : World} {b o : Nat} {cs : List Int} (h : NumsAt w b o cs) (hb : Below w.heap.size w w') (hl : b < w.heap.size) : NumsAt w' b o cs :=
  fun q c hq => ((bcell hb).1 _ _ hl).trans (h q c hq)
theorem NumsAt.same {w w' : World} {b o : Nat} {cs : List Int} (h : NumsAt w b o cs) (e : w'.heap[b]? = w.heap[b]?) : NumsAt w' b o cs :=
  fun q c hq => (World.cell?_of_block e).trans (h q c hq)
theorem NRow.later {X : Type} {C : Cel X} {w w' : World} {a : Option Addr} {xs : List X} (h : NRow C w a xs) (hb : Below w.heap.size w w') : NRow C w' a xs := by
  rcases h with h | ⟨b, off, ha, hl, h⟩
  · exact Or.inl h
  · exact Or.inr ⟨b, off, ha, Nat.lt_of_lt_of_le hl hb.size, fun i s hs => (h i s hs).later hb hl⟩
theorem NRow.gr {X : Type} {C : Cel X} {w w' : World} {a : Option Addr} {xs : List X} {r : Option Nat} (h : NRow C w a xs) (hg : w.grownBy w' r) (hne : ∀ b off, a = some ⟨b, off, none⟩ → some b ≠ r) : NRow C w' a xs := by
  rcases h with h | ⟨b, off, rfl, hl, h⟩
  · exact Or.inl h
  · exact Or.inr ⟨b, off, rfl, Nat.lt_of_lt_of_le hl hg.size, fun i x hx => (h i x hx).same (hg.block b hl (hne b off rfl))⟩
theorem NRow.set {X : Type} {C : Cel X} {w : World} {g off p o : Nat} {v : Value} {xs : List X} (h : NRow C w (some ⟨g, off, none⟩) xs) (hp : p ≠ g) : NRow C (w.setCell ⟨p, o, none⟩ v) (some ⟨g, off, none⟩) xs := by
  rcases h with h | ⟨b, o', he, hl, h⟩
  · exact Or.inl h
  · injection he with he
    injection he with e1 e2
    subst e1 e2
    exact Or.inr ⟨g, off, rfl, by simpa using hl, fun i s hs q c hq => (cell_else (Or.inl hp)).trans (h i s hs q c hq)⟩
theorem NRow.nil {X : Type} (C : Cel X) (w : World) (a : Option Addr) : NRow C w a [] := Or.inl rfl

/-- Numbers, written over the cells from a place on. -/
def putN (w : World) (b o : Nat) : List Int → World
  | [] => w
  | c :: cs => putN (w.setCell ⟨b, o, none⟩ (.int .i64 c)) b (o + 1) cs
theorem putN_else {b b' o' : Nat} : ∀ {cs : List Int} {w : World} {o : Nat}, b ≠ b' ∨ o' < o ∨ o + cs.length ≤ o' → (putN w b o cs).cell? ⟨b', o', none⟩ = w.cell? ⟨b', o', none⟩
  | [], _, _, _ => rfl
  | c :: cs, w, o, h => by
    show (putN (w.setCell ⟨b, o, none⟩ (.int .i64 c)) b (o + 1) cs).cell? _ = _
    simp only [List.length_cons] at h
    rw [putN_else (by omega), cell_else (by omega)]
theorem putN_at {b : Nat} : ∀ {cs : List Int} {w : World} {o : Nat}, (∀ q, q < cs.length → ∃ u, w.cell? ⟨b, o + q, none⟩ = some u) → NumsAt (putN w b o cs) b o cs
  | [], _, _, _ => fun q c hq => by simp at hq
  | c :: cs, w, o, h => by
    intro q c' hq
    show (putN (w.setCell ⟨b, o, none⟩ (.int .i64 c)) b (o + 1) cs).cell? _ = _
    cases q with
    | zero =>
      simp at hq
      subst hq
      rw [putN_else (by omega)]
      exact cell_same (by simpa using h 0 (by simp))
    | succ q =>
      have ih := putN_at (b := b) (cs := cs) (w := w.setCell ⟨b, o, none⟩ (.int .i64 c)) (o := o + 1) (fun q' hq' => by
        rw [cell_else (by omega)]
        obtain ⟨u, hu⟩ := h (q' + 1) (by simp; omega)
        exact ⟨u, by rw [← hu]; congr 2; omega⟩)
      have := ih q c' (by simpa using hq)
      rw [← this]
      congr 2; omega
theorem putN_row {b n : Nat} {t : TypeId} : ∀ {cs : List Int} {w : World} {o : Nat}, (∃ cur, w.heap[b]? = some (.cells cur t (0, 0)) ∧ cur.size = n) → ∃ cur, (putN w b o cs).heap[b]? = some (.cells cur t (0, 0)) ∧ cur.size = n
  | [], _, _, h => h
  | c :: cs, w, o, h => putN_row (cs := cs) (w := w.setCell ⟨b, o, none⟩ (.int .i64 c)) (o := o + 1) (row_set h)
theorem putN_below {W : World} {b B : Nat} (hb : B ≤ b) : ∀ {cs : List Int} {w : World} {o : Nat}, Below B W w → Below B W (putN w b o cs)
  | [], _, _, h => h
  | c :: cs, w, o, h => putN_below hb (cs := cs) (w := w.setCell ⟨b, o, none⟩ (.int .i64 c)) (o := o + 1) (h.setCell (p := ⟨b, o, none⟩) hb _)
theorem putN_touch {W : World} {b : Nat} : ∀ {cs : List Int} {w : World} {o : Nat}, Touch b W w → Touch b W (putN w b o cs)
  | [], _, _, h => h
  | c :: cs, w, o, h => putN_touch (cs := cs) (w := w.setCell ⟨b, o, none⟩ (.int .i64 c)) (o := o + 1) h.set
theorem putN_wb {b n : Nat} : ∀ {cs : List Int} {w : World} {o : Nat}, WB w b n → WB (putN w b o cs) b n
  | [], _, _, h => h
  | c :: cs, w, o, h => putN_wb (cs := cs) (w := w.setCell ⟨b, o, none⟩ (.int .i64 c)) (o := o + 1) h.set

/-- On the way: so many elements are copied into a row of the call's own. -/
structure TrN {X : Type} (C : Cel X) (T : TypeId) (W : World) (n : Nat) (xs : List X) (j : Nat) (w : World) : Prop where
  below : Below W.heap.size W w
  row : ∃ cur, w.heap[W.heap.size]? = some (.cells cur T (0, 0)) ∧ cur.size = n * C.n
  done : ∀ (i : Nat) s, i < j → xs[i]? = some s → NumsAt w W.heap.size (i * C.n) (C.cs s)
theorem TrN.lt {X : Type} {C : Cel X} {T : TypeId} {W : World} {n : Nat} {xs : List X} {j : Nat} {w : World} (h : TrN C T W n xs j w) : W.heap.size < w.heap.size := by
  obtain ⟨cur, hc, _⟩ := h.row
  exact (Array.getElem?_eq_some_iff.1 hc).1
theorem TrN.later {X : Type} {C : Cel X} {T : TypeId} {W : World} {n : Nat} {xs : List X} {j : Nat} {w w' : World} (h : TrN C T W n xs j w) (hb : Below w.heap.size w w') : TrN C T W n xs j w' :=
  ⟨h.below.trans (hb.mono h.below.size), h.row.imp fun _ hc => ⟨(hb.block _ h.lt).trans hc.1, hc.2⟩, fun i s hi hs => (h.done i s hi hs).later hb h.lt⟩
theorem TrN.cell {X : Type} {C : Cel X} {T : TypeId} {W : World} {n : Nat} {xs : List X} {j : Nat} {w : World} (h : TrN C T W n xs j w) {o : Nat} (ho : o < n * C.n) : (∃ v, w.cell? ⟨W.heap.size, o, none⟩ = some v) ∧ w.frozen? ⟨W.heap.size, o, none⟩ = false := by
  obtain ⟨cur, hc, hn⟩ := h.row
  have ho' : o < cur.size := by omega
  exact ⟨⟨cur[o], by simp [World.cell?, hc, ho']⟩, by simp [World.frozen?, hc]⟩
theorem mul_le_of_lt {i j n : Nat} (h : i < j) : i * n + n ≤ j * n := by
  have := Nat.mul_le_mul_right n (show i + 1 ≤ j from h)
  rw [Nat.add_mul, Nat.one_mul] at this
  exact this
theorem TrN.step {X : Type} {C : Cel X} {T : TypeId} {W : World} {n : Nat} {xs : List X} {j : Nat} {w : World} {s : X} (h : TrN C T W n xs j w) (hj : j < n) (hs : xs[j]? = some s) : TrN C T W n xs (j + 1) (putN w W.heap.size (j * C.n) (C.cs s)) := by
  have hl := C.len s
  refine ⟨putN_below (Nat.le_refl _) h.below, putN_row h.row, fun i u hi hu => ?_⟩
  by_cases e : i = j
  · subst e
    obtain rfl : s = u := Option.some.inj (hs.symm.trans hu)
    exact putN_at fun q hq => (h.cell (by have := mul_le_of_lt (n := C.n) hj; omega)).1
  · have hd := h.done i u (by omega) hu
    intro q c hq
    have hlq : q < C.n := by have := (List.getElem?_eq_some_iff.1 hq).1; have := C.len u; omega
    have hm := mul_le_of_lt (n := C.n) (show i < j by omega)
    exact (putN_else (by omega)).trans (hd q c hq)

/-- The cells of a row. -/
def cellsN {X : Type} (C : Cel X) (xs : List X) : List Value := xs.flatMap fun x => (C.cs x).map (Value.int .i64)
theorem cellsN_length {X : Type} (C : Cel X) (xs : List X) : (cellsN C xs).length = xs.length * C.n := by
  induction xs with
  | nil => simp [cellsN]
  | cons s xs ih => simp only [cellsN, List.flatMap_cons, List.length_append, List.length_cons, List.length_map] at ih ⊢; rw [ih, C.len s, Nat.add_mul, Nat.one_mul, Nat.add_comm]
theorem cellsN_app {X : Type} (C : Cel X) (xs ys : List X) : cellsN C (xs ++ ys) = cellsN C xs ++ cellsN C ys := by simp [cellsN]
theorem cellsN_one {X : Type} (C : Cel X) (xs : List X) : ∀ u ∈ cellsN C xs, u.oneCell' = true := by
  intro u hu
  obtain ⟨s, _, hs⟩ := List.mem_flatMap.1 hu
  obtain ⟨c, _, rfl⟩ := List.mem_map.1 hs
  rfl
theorem cellsN_at {X : Type} (C : Cel X) {s : X} : ∀ {xs : List X} {i : Nat}, xs[i]? = some s → ∀ q, q < C.n → (cellsN C xs)[i * C.n + q]? = ((C.cs s)[q]?).map (Value.int .i64)
  | [], i, h, _, _ => by simp at h
  | x :: xs, 0, h, q, hq => by
    simp at h; subst h
    simp only [cellsN, List.flatMap_cons, Nat.zero_mul, Nat.zero_add]
    rw [List.getElem?_append_left (by simp [C.len]; exact hq), List.getElem?_map]
  | x :: xs, i + 1, h, q, hq => by
    have ih := cellsN_at C (xs := xs) (i := i) (by simpa using h) q hq
    simp only [cellsN, List.flatMap_cons] at ih ⊢
    rw [List.getElem?_append_right (by simp [C.len, Nat.add_mul]; omega), ← ih]
    congr 1; simp [C.len, Nat.add_mul]; omega
/-- A row of the call's own. -/
def OwnN {X : Type} (C : Cel X) (T : TypeId) (w : World) (base : Nat) (v : Value) (xs : List X) : Prop := w.ownsRow base T C.n v xs.length (cellsN C xs)
theorem OwnN.rows {X : Type} {C : Cel X} {T : TypeId} {w : World} {base : Nat} {v : Value} {xs : List X} (h : OwnN C T w base v xs) : ∃ a cap, v = .slice a xs.length cap ∧ xs.length ≤ cap ∧ NRow C w a xs ∧ (xs ≠ [] → ∃ g, a = some ⟨g, 0, none⟩ ∧ base ≤ g) := by
  have hc := fun g hg => h.cells (g := g) hg
  obtain ⟨_, ⟨rfl, h0⟩ | ⟨g, cap, cur, rfl, hb, hh, hnc, _⟩⟩ := h
  · obtain rfl : xs = [] := List.eq_nil_of_length_eq_zero h0
    exact ⟨none, 0, rfl, Nat.le_refl _, Or.inl rfl, fun hx => absurd rfl hx⟩
  · refine ⟨some ⟨g, 0, none⟩, cap, rfl, hnc, Or.inr ⟨g, 0, rfl, (Array.getElem?_eq_some_iff.1 hh).1, fun i s hs q c hq => ?_⟩, fun _ => ⟨g, rfl, hb⟩⟩
    have hlq : q < C.n := by have := (List.getElem?_eq_some_iff.1 hq).1; have := C.len s; omega
    have := hc g rfl (i * C.n + q) (.int .i64 c) (by rw [cellsN_at C hs q hlq, hq]; rfl)
    by_cases e : i * C.n + q = 0
    · have e' : 0 + i * C.n + q = 0 := by omega
      rw [e']; rw [e] at this; simpa [Addr.add] using this
    · rw [Addr.add, if_neg e] at this
      simpa [Nat.add_assoc] using this
theorem OwnN.rowAt {X : Type} {C : Cel X} {T : TypeId} {w : World} {base : Nat} {a : Option Addr} {n c : Nat} {zs : List X} (h : OwnN C T w base (.slice a n c) zs) : NRow C w a zs := by
  obtain ⟨a', c', e, _, r, _⟩ := h.rows
  injection e with e1 e2 e3
  rw [e1]; exact r
theorem OwnN.keep {X : Type} {C : Cel X} {T : TypeId} {w w' : World} {base : Nat} {v : Value} {zs : List X} (h : OwnN C T w base v zs) (hb : ∀ g, v.ownBlock = some g → w'.heap[g]? = w.heap[g]?) : OwnN C T w' base v zs := ownN_keep h hb
theorem OwnN.lt {X : Type} {C : Cel X} {T : TypeId} {w : World} {base : Nat} {v : Value} {zs : List X} (h : OwnN C T w base v zs) : ∀ g, v.ownBlock = some g → base ≤ g ∧ g < w.heap.size := fun g e => World.ownsRow.lt h g e
theorem OwnN.later {X : Type} {C : Cel X} {T : TypeId} {w w' : World} {base : Nat} {v : Value} {zs : List X} (h : OwnN C T w base v zs) (hb : Below w.heap.size w w') : OwnN C T w' base v zs :=
  h.keep fun g e => hb.block g (h.lt g e).2
theorem OwnN.gr {X : Type} {C : Cel X} {T : TypeId} {w w' : World} {base : Nat} {v : Value} {zs : List X} {r : Option Nat} (h : OwnN C T w base v zs) (hg : w.grownBy w' r) (hne : ∀ k, v.ownBlock = some k → some k ≠ r) : OwnN C T w' base v zs :=
  h.keep fun g e => hg.block g (h.lt g e).2 (hne g e)
theorem OwnN.type {X : Type} {C : Cel X} {T : TypeId} {w : World} {base : Nat} {v : Value} {zs : List X} (h : OwnN C T w base v zs) {g : Nat} (e : v.ownBlock = some g) : ∃ cur, w.heap[g]? = some (.cells cur T (0, 0)) := ownN_type h e
theorem OwnN.zero {X : Type} (C : Cel X) (T : TypeId) (w : World) (base : Nat) : OwnN C T w base (.slice none 0 0) [] := World.ownsRow_nil w base _ _
theorem OwnN.fresh {X : Type} (C : Cel X) (T : TypeId) (w : World) {base : Nat} (hb : base ≤ w.heap.size) : OwnN C T (w.alloc (.cells #[] T)) base (.slice (some ⟨w.heap.size, 0, none⟩) 0 0) [] :=
  ⟨by simp [cellsN], Or.inr ⟨w.heap.size, 0, #[], rfl, hb, heap_alloc_new _ _, Nat.le_refl _, Nat.zero_le _, by simp, by simp [cellsN]⟩⟩
theorem NRow.src {X : Type} {C : Cel X} {w : World} {g off : Nat} {xs : List X} (h : ∀ (i : Nat) s, xs[i]? = some s → NumsAt w g (off + i * C.n) (C.cs s)) : ∀ j u, (cellsN C xs)[j]? = some u → w.cell? ((⟨g, off, none⟩ : Addr).add j) = some u := by
  intro j u hu
  have hp := C.pos
  have hj : j < xs.length * C.n := by have := (List.getElem?_eq_some_iff.1 hu).1; rwa [cellsN_length] at this
  have hadd : (⟨g, off, none⟩ : Addr).add j = ⟨g, off + j, none⟩ := by unfold Addr.add; split <;> simp_all
  rw [hadd]
  obtain ⟨i, q, hq, rfl⟩ : ∃ i q, q < C.n ∧ j = i * C.n + q := ⟨j / C.n, j % C.n, Nat.mod_lt _ hp, by rw [Nat.mul_comm]; exact (Nat.div_add_mod _ _).symm⟩
  have hi : i < xs.length := by
    rcases Nat.lt_or_ge i xs.length with h' | h'
    · exact h'
    · have := Nat.mul_le_mul_right C.n h'; omega
  obtain ⟨s, hs⟩ : ∃ s, xs[i]? = some s := ⟨xs[i], List.getElem?_eq_getElem hi⟩
  rw [cellsN_at C hs q hq] at hu
  cases hc : (C.cs s)[q]? with
  | none => rw [hc] at hu; cases hu
  | some c =>
    rw [hc] at hu
    injection hu with hu
    subst hu
    rw [← Nat.add_assoc]
    exact h i s hs q c hc

/-- A row behind a row of the call's own. -/
theorem wp_app_row {X : Type} (C : Cel X) (P : Program) (T sT bytes : Nat) (z : Value) {w : World} {o : Oper} {a : Act} {K : Act → World → Prop} {Q : Exit → Act → World → Prop} (hu : P.underlying sT = some (.slice T)) (hinf : (P.info? T).map (fun i => (i.zero, i.size, i.bytes)) = some (some z, C.n, bytes)) (hz : z.cells.size = C.n) (hby : bytes ≤ 1000) (s x : Operand)
    (ho : o.op = .call { callee := .builtin .append, args := #[s, x], argTypes := #[sT, sT] }) (base : Nat) (v : Value) (zs : List X) (hs : a.eval s = v) (h : OwnN C T w base v zs) (b : Option Addr) (xs : List X) (c : Nat) (hx : a.eval x = .slice b xs.length c) (hr : NRow C w b xs)
    (hq : zs.length + xs.length ≤ 2000000) (hB : base ≤ w.heap.size)
    (hK : ∀ b' c' w', OwnN C T w' base (.slice b' (zs ++ xs).length c') (zs ++ xs) → w.grownBy w' v.ownBlock → K (a.put o.dst (.slice b' (zs ++ xs).length c')) w') : Oper.wp P o a w K Q := by
  obtain ⟨i0, hi, hz0, hz1, hz2⟩ := info_parts hinf
  obtain ⟨v', w', hrun, h1, h2⟩ := appendN_row w base sT o.type T i0 z C.n bytes hu hi hz0 hz1 hz2 hz C.pos v zs.length (cellsN C zs) h b xs.length c (cellsN C xs) (cellsN_length C xs)
    (by
      rcases hr with hr | ⟨g, off, rfl, _, hr⟩
      · exact Or.inl (by rw [hr]; rfl)
      · exact Or.inr ⟨_, rfl, NRow.src hr⟩)
    (cellsN_one C xs) (by unfold maxLen; omega) (by have := Nat.mul_le_mul hq hby; omega) hB
  have ho1 : OwnN C T w' base v' (zs ++ xs) := by unfold OwnN; rw [cellsN_app, List.length_append]; exact h1
  obtain ⟨b', c', rfl, _⟩ := ho1.rows
  unfold Oper.wp execOp
  simp only [ho, resolve, invoke, builtin, Sem.run_bind, Sem.run_pure, Result.andThen_ok, List.map_toArray, List.map_cons, List.map_nil, hs, hx, hrun]
  exact hK b' c' w' ho1 h2
theorem wpList_app_row {X : Type} (C : Cel X) (P : Program) (T sT bytes : Nat) (z : Value) {w : World} {ops : Array Oper} {rest : List Oper} {o : Oper} {a : Act} {Q : Exit → Act → World → Prop} (hu : P.underlying sT = some (.slice T)) (hinf : (P.info? T).map (fun i => (i.zero, i.size, i.bytes)) = some (some z, C.n, bytes)) (hz : z.cells.size = C.n) (hby : bytes ≤ 1000) (hgd : o.guard = none) (s x : Operand)
    (ho : o.op = .call { callee := .builtin .append, args := #[s, x], argTypes := #[sT, sT] }) (base : Nat) (v : Value) (zs : List X) (hs : a.eval s = v) (h : OwnN C T w base v zs) (b : Option Addr) (xs : List X) (c : Nat) (hx : a.eval x = .slice b xs.length c) (hr : NRow C w b xs)
    (hq : zs.length + xs.length ≤ 2000000) (hB : base ≤ w.heap.size)
    (hK : ∀ b' c' w', OwnN C T w' base (.slice b' (zs ++ xs).length c') (zs ++ xs) → w.grownBy w' v.ownBlock → wpList P ops Q rest (a.put o.dst (.slice b' (zs ++ xs).length c')) w') : wpList P ops Q (o :: rest) a w :=
  wpList_plain hgd fun _ hK' => wp_app_row C P T sT bytes z hu hinf hz hby s x ho base v zs hs h b xs c hx hr hq hB (fun b' c' w' h1 h2 => hK' _ _ (hK b' c' w' h1 h2))

/-- The marks lie in the row. -/
def MkN (n : Nat) (w : World) (v : Value) (l : Nat) (k0 : Int) : Prop := ∃ a cap, v = .slice a l cap ∧ (l = 0 ∨ ∃ g, a = some ⟨g, 0, none⟩ ∧ g < w.heap.size ∧ ∀ i, i < l * n → w.cell? ⟨g, i, none⟩ = some (.int .i64 (k0 + i)))
theorem MkN.later {n : Nat} {w w' : World} {v : Value} {l : Nat} {k0 : Int} (h : MkN n w v l k0) (hb : Below w.heap.size w w') : MkN n w' v l k0 := by
  obtain ⟨a, cap, rfl, h | ⟨g, rfl, hg, h⟩⟩ := h
  · exact ⟨a, cap, rfl, Or.inl h⟩
  · exact ⟨_, cap, rfl, Or.inr ⟨g, rfl, Nat.lt_of_lt_of_le hg hb.size, fun i hi => ((bcell hb).1 _ _ hg).trans (h i hi)⟩⟩
theorem MkN.gr {n : Nat} {w w' : World} {v : Value} {l : Nat} {k0 : Int} {r : Option Nat} (h : MkN n w v l k0) (hg : w.grownBy w' r) (hne : ∀ k, v.ownBlock = some k → some k ≠ r) : MkN n w' v l k0 := by
  obtain ⟨a, cap, rfl, h | ⟨g, rfl, hl, h⟩⟩ := h
  · exact ⟨a, cap, rfl, Or.inl h⟩
  · exact ⟨_, cap, rfl, Or.inr ⟨g, rfl, Nat.lt_of_lt_of_le hl hg.size, fun i hi => (World.cell?_of_block (hg.block g hl (hne g rfl))).trans (h i hi)⟩⟩
theorem marksN {w : World} {g j n : Nat} {k0 : Int} {l : List Int} (hl : l.length = n) (hc : ∀ q, q < n → ∃ u, w.cell? ⟨g, j * n + q, none⟩ = some u) (hb : ∀ i, i < j * n → w.cell? ⟨g, i, none⟩ = some (.int .i64 (k0 + i)))
    (hv : ∀ q c, l[q]? = some c → c = k0 + ((j * n + q : Nat) : Int)) :
    ∀ i, i < (j + 1) * n → (putN w g (j * n) l).cell? ⟨g, i, none⟩ = some (.int .i64 (k0 + i)) := by
  intro i hi
  have hat := putN_at (b := g) (cs := l) (w := w) (o := j * n) (fun q hq => hc q (by omega))
  rw [Nat.add_mul, Nat.one_mul] at hi
  by_cases h7 : i < j * n
  · exact (putN_else (by omega)).trans (hb i h7)
  · obtain ⟨q, rfl⟩ : ∃ q, i = j * n + q := ⟨i - j * n, by omega⟩
    obtain ⟨c, hq⟩ : ∃ c, l[q]? = some c := ⟨l[q]'(by omega), List.getElem?_eq_getElem (by omega)⟩
    rw [hat q c hq, hv q c hq]

end Go.Proofs.YtghajmfjekfdpaaDoor

namespace Go.Proofs.YtghajmfjekfdpaaDoor
open Go.RowKit

/-- What is waited for. -/
structure Wn where
  s : Int
  n : Int
/-- A call. -/
structure Ca where
  p : Int
  k : Int
  t : Int
  n : Int
/-- What one has for somebody. -/
structure Cd where
  s : Int
  k : Int
  u : Int
  x : Sl
def Wn.v (x : Wn) : Value := .agg #[.int .i64 x.s, .int .i64 x.n]
def Ca.v (x : Ca) : Value := .agg #[.int .i64 x.p, .int .i64 x.k, .int .i64 x.t, .int .i64 x.n]
def Cd.v (x : Cd) : Value := .agg #[.int .i64 x.s, .int .i64 x.k, .int .i64 x.u, .int .i64 x.x.k, .int .i64 x.x.t, .int .i64 x.x.a, .int .i64 x.x.b, .int .i64 x.x.c, .int .i64 x.x.d, .int .i64 x.x.e]
def celW : Cel Wn := ⟨fun x => [x.s, x.n], 2, fun _ => rfl, by decide⟩
def celC : Cel Ca := ⟨fun x => [x.p, x.k, x.t, x.n], 4, fun _ => rfl, by decide⟩
def celD : Cel Cd := ⟨fun x => [x.s, x.k, x.u, x.x.k, x.x.t, x.x.a, x.x.b, x.x.c, x.x.d, x.x.e], 10, fun _ => rfl, by decide⟩
theorem celW.at {w : World} {b o : Nat} {x : Wn} (h : NumsAt w b o (celW.cs x)) : w.cell? ⟨b, o, none⟩ = some (.int .i64 x.s) ∧ w.cell? ⟨b, o + 1, none⟩ = some (.int .i64 x.n) := ⟨h 0 _ rfl, h 1 _ rfl⟩
theorem celC.at {w : World} {b o : Nat} {x : Ca} (h : NumsAt w b o (celC.cs x)) : w.cell? ⟨b, o, none⟩ = some (.int .i64 x.p) ∧ w.cell? ⟨b, o + 1, none⟩ = some (.int .i64 x.k) ∧ w.cell? ⟨b, o + 2, none⟩ = some (.int .i64 x.t) ∧ w.cell? ⟨b, o + 3, none⟩ = some (.int .i64 x.n) := ⟨h 0 _ rfl, h 1 _ rfl, h 2 _ rfl, h 3 _ rfl⟩
theorem celD.at {w : World} {b o : Nat} {x : Cd} (h : NumsAt w b o (celD.cs x)) : w.cell? ⟨b, o, none⟩ = some (.int .i64 x.s) ∧ w.cell? ⟨b, o + 1, none⟩ = some (.int .i64 x.k) ∧ w.cell? ⟨b, o + 2, none⟩ = some (.int .i64 x.u) ∧ w.cell? ⟨b, o + 3, none⟩ = some (.int .i64 x.x.k) ∧ w.cell? ⟨b, o + 4, none⟩ = some (.int .i64 x.x.t) ∧ w.cell? ⟨b, o + 5, none⟩ = some (.int .i64 x.x.a) ∧ w.cell? ⟨b, o + 6, none⟩ = some (.int .i64 x.x.b) ∧ w.cell? ⟨b, o + 7, none⟩ = some (.int .i64 x.x.c) ∧ w.cell? ⟨b, o + 8, none⟩ = some (.int .i64 x.x.d) ∧ w.cell? ⟨b, o + 9, none⟩ = some (.int .i64 x.x.e) :=
  ⟨h 0 _ rfl, h 1 _ rfl, h 2 _ rfl, h 3 _ rfl, h 4 _ rfl, h 5 _ rfl, h 6 _ rfl, h 7 _ rfl, h 8 _ rfl, h 9 _ rfl⟩

theorem infoCall : (Tryd.prog.info? 90).map (fun i => (i.zero, i.size, i.bytes)) = some (some (.agg #[.int .i64 0, .int .i64 0, .int .i64 0, .int .i64 0]), 4, 32) := by kernel_rfl
end Go.Proofs.YtghajmfjekfdpaaDoor

namespace Go.Proofs.YtghajmfjekfdpaaDoor
open Go.RowKit

set_option maxHeartbeats 400000 in
/-- The laws' own copy of a seal: the same numbers. -/
theorem toSeal_any (k t a b c d e : Int) (w : World) :
    Calls Tryd.prog 60 #[.agg #[.int .i64 k, .int .i64 t, .int .i64 a, .int .i64 b, .int .i64 c, .int .i64 d, .int .i64 e]] w fun r w' => r = .returned (.agg #[.int .i64 k, .int .i64 t, .int .i64 a, .int .i64 b, .int .i64 c, .int .i64 d, .int .i64 e]) ∧ Below w.heap.size w w' := by
  go_enter Tryd.func60, Tryd.ntmps60
  go_wp2
  exact bodyPost_ret (v := .agg #[.int .i64 k, .int .i64 t, .int .i64 a, .int .i64 b, .int .i64 c, .int .i64 d, .int .i64 e]) (by simp [results, Tryd.results60, go_sem]) rfl ⟨rfl, ((((Below.refl _ _).alloc (Nat.le_refl _) _).alloc (by simp) _).alloc (by simp; omega) _)⟩

end Go.Proofs.YtghajmfjekfdpaaDoor

namespace Go.Proofs.YtghajmfjekfdpaaDoor
open Go.RowKit
attribute [local go_sem ↓] Go.wp_at_zero Go.wp_at_succ

set_option maxHeartbeats 400000 in
theorem toCall_any (x : Ca) (w : World) : Calls Tryd.prog 74 #[Value.agg #[.int .i64 x.p, .int .i64 x.k, .int .i64 x.t, .int .i64 x.n]] w fun r w' => r = .returned (Value.agg #[.int .i64 x.p, .int .i64 x.k, .int .i64 x.t, .int .i64 x.n]) ∧ Below w.heap.size w w' := by
  go_enter Tryd.func74, Tryd.ntmps74
  go_wp2
  exact bodyPost_ret (v := Value.agg #[.int .i64 x.p, .int .i64 x.k, .int .i64 x.t, .int .i64 x.n]) (by simp [results, Tryd.results74, go_sem]) rfl ⟨rfl, ((((Below.refl _ _).alloc (Nat.le_refl _) _).alloc (by simp) _).alloc (by simp; omega) _)⟩
set_option maxRecDepth 100000 in
set_option maxHeartbeats 2000000 in
theorem toCallS_wb (a : Option Addr) (cap : Nat) (xs : List Ca) (w : World) (h : NRow celC w a xs) (hx : xs.length ≤ 1048576) :
    Calls Tryd.prog 44 #[.slice a xs.length cap] w fun r w' => r = .returned (.slice (some ⟨w.heap.size, 0, none⟩) xs.length xs.length) ∧ NRow celC w' (some ⟨w.heap.size, 0, none⟩) xs ∧ (∃ cur, w'.heap[w.heap.size]? = some (.cells cur 90 (0, 0)) ∧ cur.size = xs.length * 4) ∧ Below w.heap.size w w' := by
  obtain ⟨i0, hi, hz0, hz1, hz2⟩ := info_parts infoCall
  go_enter Tryd.func44, Tryd.ntmps44
  go_wp2_with fail
  rw [run_makeSlice w 47 90 i0 _ Tryd.underlying47 hi hz0 .i64 .i64 xs.length xs.length (by omega) (by omega) (by rw [hz1]; omega) (by rw [hz2]; omega) (by omega)]
  rw [hz1]
  simp only [Int.toNat_natCast]
  obtain ⟨W1, hW1⟩ : ∃ W1, W1 = w.alloc (.cells (madeCells (Value.agg #[.int .i64 0, .int .i64 0, .int .i64 0, .int .i64 0]).cells (xs.length * 4)) 90) := ⟨_, rfl⟩
  rw [← hW1]
  have T0 : Hid (TrN celC 90 w xs.length xs 0 W1) := by
    subst hW1
    exact ⟨(Below.refl _ _).alloc (Nat.le_refl _) _, ⟨_, heap_alloc_new _ _, by simp [madeCells, celC]⟩, fun i s hi => by omega⟩
  clear hW1 hi hz0 hz1 hz2
  go_wp2_with fail
  go_loopw [4] (fun i wr => ∃ (j : Nat), j ≤ xs.length ∧ i = .int .i64 j ∧ Hid (TrN celC 90 w xs.length xs j wr)) (fun i _ => xs.length - (intOf i).toNat)
  case atStart => exact ⟨0, Nat.zero_le _, rfl, T0⟩
  case round =>
    obtain ⟨j, hj, rfl, C⟩ := hrel
    by_cases hlt : j < xs.length
    · obtain ⟨x, hs⟩ : ∃ x, xs[j]? = some x := ⟨xs[j], List.getElem?_eq_getElem hlt⟩
      rcases h with h | ⟨b, off, rfl, hl, h⟩
      · simp [h] at hlt
      obtain ⟨c0, c1, c2, c3⟩ := celC.at ((h j x hs).later C.out.below hl)
      clear h
      simp only [show celC.n = 4 from rfl] at c0 c1 c2 c3
      go_wp2_with fail
      refine (toCall_any x _).mono ?_
      rintro r w2 ⟨rfl, hb2⟩
      have C2 : Hid (TrN celC 90 w xs.length xs j w2) := C.out.later hb2
      clear c0 c1 c2 c3 C hb2
      obtain ⟨⟨v0, d0⟩, f0⟩ := C2.out.cell (o := j * 4) (by show _ < xs.length * 4; omega)
      obtain ⟨⟨v1, d1⟩, f1⟩ := C2.out.cell (o := j * 4 + 1) (by show _ < xs.length * 4; omega)
      obtain ⟨⟨v2, d2⟩, f2⟩ := C2.out.cell (o := j * 4 + 2) (by show _ < xs.length * 4; omega)
      obtain ⟨⟨v3, d3⟩, f3⟩ := C2.out.cell (o := j * 4 + 3) (by show _ < xs.length * 4; omega)
      have hlw := C2.out.lt
      have hst : xs[j]? = some x := hs
      go_wp2_with fail
      refine ⟨⟨j + 1, by omega, by go_num, (C2.out.step hlt hst)⟩, by simp [intOf]; omega⟩
    · obtain rfl : j = xs.length := by omega
      have HA : Hid (TrN celC 90 w xs.length xs xs.length wr) := C.out
      clear C T0 h
      go_wp2_with fail
      go_ret
      refine ⟨rfl, Or.inr ⟨w.heap.size, 0, rfl, HA.out.lt, fun i s hs => ?_⟩, HA.out.row, HA.out.below⟩
      have := HA.out.done i s (by have := (List.getElem?_eq_some_iff.1 hs).1; omega) hs
      rw [Nat.zero_add]; exact this
set_option maxRecDepth 100000 in
set_option maxHeartbeats 1000000 in
theorem eqCall_same (x : Ca) (w : World) : Calls Tryd.prog 80 #[Value.agg #[.int .i64 x.p, .int .i64 x.k, .int .i64 x.t, .int .i64 x.n], Value.agg #[.int .i64 x.p, .int .i64 x.k, .int .i64 x.t, .int .i64 x.n]] w fun r w' => r = .returned (.bool true) ∧ Below w.heap.size w w' := by
  go_enter Tryd.func80, Tryd.ntmps80
  go_wp2_with fail
  go_ret
  exact ⟨rfl, ((Below.refl _ _).alloc (Nat.le_refl _) _).alloc (by simp) _⟩
set_option maxHeartbeats 1000000 in
set_option maxRecDepth 100000 in
theorem eqCallS_same (a1 a2 : Option Addr) (p1 p2 : Nat) (xs : List Ca) (w : World) (h1 : NRow celC w a1 xs) (h2 : NRow celC w a2 xs) (hx : xs.length ≤ 2000000) :
    Calls Tryd.prog 52 #[.slice a1 xs.length p1, .slice a2 xs.length p2] w fun r w' => r = .returned (.bool true) ∧ Below w.heap.size w w' := by
  go_enter Tryd.func52, Tryd.ntmps52
  go_wp2_with fail
  go_loopw [5] (fun i wr => ∃ (j : Nat), j ≤ xs.length ∧ i = .int .i64 j ∧ Hid (Below w.heap.size w wr)) (fun i _ => xs.length - (intOf i).toNat)
  case atStart => exact ⟨0, Nat.zero_le _, rfl, Below.refl _ _⟩
  case round =>
    obtain ⟨j, hj, rfl, C⟩ := hrel
    by_cases hlt : j < xs.length
    · obtain ⟨x, hs⟩ : ∃ x, xs[j]? = some x := ⟨xs[j], List.getElem?_eq_getElem hlt⟩
      rcases h1 with h | ⟨b, off, rfl, hl, h1⟩
      · simp [h] at hlt
      rcases h2 with h | ⟨b2, off2, rfl, hl2, h2⟩
      · simp [h] at hlt
      have hS0 : NumsAt wr.drew b (off + j * 4) (celC.cs x) ∧ NumsAt wr.drew b2 (off2 + j * 4) (celC.cs x) := ⟨(h1 j x hs).later C.out.drew hl, (h2 j x hs).later C.out.drew hl2⟩
      have hbd := C.out.drew
      clear h1 h2
      go_wp2_with fail
      refine wp_region_held_drew (S := fun w' => NumsAt w' b (off + j * 4) (celC.cs x) ∧ NumsAt w' b2 (off2 + j * 4) (celC.cs x)) (by kernel_rfl) hS0 (fun hS => ?_)
      refine take1 0 17 (.slice (some ⟨b, off, none⟩) xs.length p1) rfl rfl (by kernel_rfl) (by kernel_rfl) (by kernel_rfl) (by rfl) (fun _ _ _ h => h) hS (fun w' hS' => ?_) ?_
      · go_simp
      simp only [Act.put, List.setIfInBounds_toArray, List.set_cons_zero, List.set_cons_succ]
      refine take1 1 18 (.int .i64 j) rfl rfl (by kernel_rfl) (by kernel_rfl) (by kernel_rfl) (by rfl) (fun _ _ _ h => h) hS (fun w' hS' => ?_) ?_
      · go_simp
      simp only [Act.put, List.setIfInBounds_toArray, List.set_cons_zero, List.set_cons_succ]
      refine take1 2 19 (.pointer (some ⟨b, off + j * 4, none⟩)) rfl rfl (by kernel_rfl) (by kernel_rfl) (by kernel_rfl) (by rfl) (fun _ _ _ h => h) hS (fun w' hS' => ?_) ?_
      · go_simp
      simp only [Act.put, List.setIfInBounds_toArray, List.set_cons_zero, List.set_cons_succ]
      refine take1 3 20 (Value.agg #[.int .i64 x.p, .int .i64 x.k, .int .i64 x.t, .int .i64 x.n]) rfl rfl (by kernel_rfl) (by kernel_rfl) (by kernel_rfl) (by rfl) (fun _ _ _ h => h) hS (fun w' hS' => ?_) ?_
      · obtain ⟨c0, c1, c2, c3⟩ := celC.at hS'.1
        go_simp
      simp only [Act.put, List.setIfInBounds_toArray, List.set_cons_zero, List.set_cons_succ]
      refine take1 4 21 (.slice (some ⟨b2, off2, none⟩) xs.length p2) rfl rfl (by kernel_rfl) (by kernel_rfl) (by kernel_rfl) (by rfl) (fun _ _ _ h => h) hS (fun w' hS' => ?_) ?_
      · go_simp
      simp only [Act.put, List.setIfInBounds_toArray, List.set_cons_zero, List.set_cons_succ]
      refine take1 5 22 (.int .i64 j) rfl rfl (by kernel_rfl) (by kernel_rfl) (by kernel_rfl) (by rfl) (fun _ _ _ h => h) hS (fun w' hS' => ?_) ?_
      · go_simp
      simp only [Act.put, List.setIfInBounds_toArray, List.set_cons_zero, List.set_cons_succ]
      refine take1 6 23 (.pointer (some ⟨b2, off2 + j * 4, none⟩)) rfl rfl (by kernel_rfl) (by kernel_rfl) (by kernel_rfl) (by rfl) (fun _ _ _ h => h) hS (fun w' hS' => ?_) ?_
      · go_simp
      simp only [Act.put, List.setIfInBounds_toArray, List.set_cons_zero, List.set_cons_succ]
      refine take1 7 24 (Value.agg #[.int .i64 x.p, .int .i64 x.k, .int .i64 x.t, .int .i64 x.n]) rfl rfl (by kernel_rfl) (by kernel_rfl) (by kernel_rfl) (by rfl) (fun _ _ _ h => h) hS (fun w' hS' => ?_) ?_
      · obtain ⟨c0, c1, c2, c3⟩ := celC.at hS'.2
        go_simp
      simp only [Act.put, List.setIfInBounds_toArray, List.set_cons_zero, List.set_cons_succ]
      refine wpAnyH_ready (rs := [8]) (by kernel_rfl) (by simp) ?_
      refine AllReadyH.cons rfl (fun K hK => ?_) AllReadyH.nil
      go_simp
      refine (eqCall_same x _).mono ?_
      rintro r w2 ⟨rfl, hb2⟩
      have hsz := C.out.size
      have C2 : Hid (Below w.heap.size w w2) := hbd.trans (hb2.mono (by simpa using hsz))
      refine hK.out _ _ ⟨hS.1.later hb2 (by simp; omega), hS.2.later hb2 (by simp; omega)⟩ (fun hS2 => ?_)
      clear hK K hb2 hbd hS hS0 C
      refine take1 9 26 (.bool false) rfl rfl (by kernel_rfl) (by kernel_rfl) (by kernel_rfl) (by rfl) (fun _ _ _ h => h) hS2 (fun w' hS' => ?_) ?_
      · go_simp
      simp only [Act.put, List.setIfInBounds_toArray, List.set_cons_zero, List.set_cons_succ]
      refine wpAnyH_done (by kernel_rfl) ?_ _
      clear hS2
      go_wp2_with fail
      go_roundw
      case rel => exact ⟨j + 1, by omega, by go_num, C2⟩
      case measure => simp [intOf]; omega
    · obtain rfl : j = xs.length := by omega
      go_wp2_with fail
      go_ret
      exact ⟨rfl, C.out⟩
set_option maxHeartbeats 400000 in
theorem szCallS_any (a : Option Addr) (len cap : Nat) (q : Int) (w : World) (hq : 0 ≤ q) (hq2 : q ≤ 1048576) (hm : len ≤ 9223372036854775807) :
    Calls Tryd.prog 40 #[.slice a len cap, .int .i64 q] w fun r w' => r = .returned (.int .i64 (restI q len)) ∧ w' = w := by
  have hw : IntKind.i64.wrap (q - (len : Int)) = q - (len : Int) := wrapM (by omega) (by omega)
  unfold restI
  by_cases hn : q - (len : Int) < 0
  · rw [if_pos hn]
    go_enter Tryd.func40, Tryd.ntmps40
    go_wp2_with fail
    go_ret
    exact ⟨rfl, rfl⟩
  · rw [if_neg hn]
    go_enter Tryd.func40, Tryd.ntmps40
    go_wp2_with fail
    go_ret
    exact ⟨rfl, rfl⟩

set_option maxRecDepth 100000 in
set_option maxHeartbeats 1000000 in
theorem eqSealV_same (s : Sl) (w : World) : Calls Tryd.prog 71 #[.agg #[.int .i64 s.k, .int .i64 s.t, .int .i64 s.a, .int .i64 s.b, .int .i64 s.c, .int .i64 s.d, .int .i64 s.e], .agg #[.int .i64 s.k, .int .i64 s.t, .int .i64 s.a, .int .i64 s.b, .int .i64 s.c, .int .i64 s.d, .int .i64 s.e]] w fun r w' => r = .returned (.bool true) ∧ Below w.heap.size w w' := by
  go_enter Tryd.func71, Tryd.ntmps71
  go_wp2_with fail
  go_ret
  exact ⟨rfl, ((Below.refl _ _).alloc (Nat.le_refl _) _).alloc (by simp) _⟩
end Go.Proofs.YtghajmfjekfdpaaDoor

namespace Go.Proofs.YtghajmfjekfdpaaDoor
open Go.RowKit
attribute [local go_sem ↓] Go.wp_at_zero Go.wp_at_succ

set_option maxRecDepth 100000 in
set_option maxHeartbeats 4000000 in
theorem markCallS_any (g n cap : Nat) (k0 : Int) (w : World) (h : WB w g (n * 4)) (hn : n ≤ 2000000) (h0 : 0 ≤ k0) (h1 : k0 ≤ 100000000) :
    Calls Tryd.prog 53 #[.slice (some ⟨g, 0, none⟩) n cap, .int .i64 k0] w fun r w' => r = .returned (.int .i64 (k0 + 4 * n)) ∧ Touch g w w' ∧ WB w' g (n * 4) ∧ ∀ i, i < n * 4 → w'.cell? ⟨g, i, none⟩ = some (.int .i64 (k0 + i)) := by
  go_enter Tryd.func53, Tryd.ntmps53
  go_wp2_with fail
  go_loopw [1, 5] (fun k i wr => ∃ (j : Nat), j ≤ n ∧ i = .int .i64 j ∧ k = .int .i64 (k0 + 4 * j) ∧ Hid (Touch g w wr ∧ WB wr g (n * 4) ∧ ∀ i, i < j * 4 → wr.cell? ⟨g, i, none⟩ = some (.int .i64 (k0 + i)))) (fun _ i _ => n - (intOf i).toNat)
  case atStart => exact ⟨0, Nat.zero_le _, rfl, by simp, Touch.refl _ _, h, fun i hi => by omega⟩
  case round =>
    obtain ⟨j, hj, rfl, rfl, C⟩ := hrel
    by_cases hlt : j < n
    · obtain ⟨K, hK⟩ : ∃ K : Int, K = k0 + 4 * j := ⟨_, rfl⟩
      have hall := marksN (w := wr) (g := g) (j := j) (n := 4) (k0 := k0) (l := [K, K + 1, K + 1 + 1, K + 1 + 1 + 1]) rfl (fun q hq => (C.out.2.1.cell (by omega)).1) C.out.2.2 (fun q c hq => by
        match q, hq with
        | 0, hq => simp at hq; omega
        | 1, hq => simp at hq; omega
        | 2, hq => simp at hq; omega
        | 3, hq => simp at hq; omega
        | q + 4, hq => simp at hq)
      simp only [putN, Nat.add_assoc, Nat.reduceAdd] at hall
      have HA := Hid.mk' hall
      clear hall
      obtain ⟨⟨v0, d0⟩, f0⟩ := C.out.2.1.cell (o := j * 4) (by omega)
      obtain ⟨⟨v1, d1⟩, f1⟩ := C.out.2.1.cell (o := j * 4 + 1) (by omega)
      obtain ⟨⟨v2, d2⟩, f2⟩ := C.out.2.1.cell (o := j * 4 + 2) (by omega)
      obtain ⟨⟨v3, d3⟩, f3⟩ := C.out.2.1.cell (o := j * 4 + 3) (by omega)
      rw [← hK]
      have w1 : IntKind.i64.wrap (K + 1) = K + 1 := wrapM (by omega) (by omega)
      have w2 : IntKind.i64.wrap (K + 1 + 1) = K + 1 + 1 := wrapM (by omega) (by omega)
      have w3 : IntKind.i64.wrap (K + 1 + 1 + 1) = K + 1 + 1 + 1 := wrapM (by omega) (by omega)
      have w4 : IntKind.i64.wrap (K + 1 + 1 + 1 + 1) = K + 1 + 1 + 1 + 1 := wrapM (by omega) (by omega)
      go_wp2_with fail
      go_roundw
      case rel =>
        refine ⟨j + 1, by omega, by go_num, by first | (congr 1; omega) | (simp; omega), C.out.1.set.set.set.set, C.out.2.1.set.set.set.set, fun i hi => ?_⟩
        subst hK
        exact HA.out i hi
      case measure => simp [intOf]; omega
    · obtain rfl : j = n := by omega
      go_wp2_with fail
      go_ret
      exact ⟨rfl, C.out⟩
set_option maxRecDepth 100000 in
theorem markCall_nil (a : Option Addr) (cap : Nat) (k0 : Int) (w : World) :
    Calls Tryd.prog 53 #[.slice a 0 cap, .int .i64 k0] w fun r w' => r = .returned (.int .i64 k0) ∧ w' = w := by
  go_enter Tryd.func53, Tryd.ntmps53
  go_wp2_with fail
  refine wp_loop_rounds 1 ?_
  rw [rounds_succ]
  go_wp2_with fail
  go_ret
  exact ⟨rfl, rfl⟩
set_option maxRecDepth 100000 in
theorem heldCall_nil (a : Option Addr) (cap : Nat) (k0 : Int) (w : World) :
    Calls Tryd.prog 54 #[.slice a 0 cap, .int .i64 k0] w fun r w' => r = .returned (.int .i64 k0) ∧ w' = w := by
  go_enter Tryd.func54, Tryd.ntmps54
  go_wp2_with fail
  refine wp_loop_rounds 1 ?_
  rw [rounds_succ]
  go_wp2_with fail
  go_ret
  exact ⟨rfl, rfl⟩
set_option maxRecDepth 100000 in
set_option maxHeartbeats 4000000 in
theorem heldCallS_any (g n cap : Nat) (k0 : Int) (w : World) (h : ∀ i, i < n * 4 → w.cell? ⟨g, i, none⟩ = some (.int .i64 (k0 + i))) (hn : n ≤ 2000000) (h0 : 0 ≤ k0) (h1 : k0 ≤ 100000000) :
    Calls Tryd.prog 54 #[.slice (some ⟨g, 0, none⟩) n cap, .int .i64 k0] w fun r w' => r = .returned (.int .i64 (k0 + 4 * n)) ∧ w' = w := by
  go_enter Tryd.func54, Tryd.ntmps54
  go_wp2_with fail
  go_loopw [1, 5] (fun k i wr => ∃ (j : Nat), j ≤ n ∧ i = .int .i64 j ∧ k = .int .i64 (k0 + 4 * j) ∧ Hid (wr = w)) (fun _ i _ => n - (intOf i).toNat)
  case atStart => exact ⟨0, Nat.zero_le _, rfl, by simp, rfl⟩
  case round =>
    obtain ⟨j, hj, rfl, rfl, C⟩ := hrel
    obtain rfl : wr = w := C.out
    by_cases hlt : j < n
    · obtain ⟨K, hK⟩ : ∃ K : Int, K = k0 + 4 * j := ⟨_, rfl⟩
      have d0 : wr.cell? ⟨g, j * 4, none⟩ = some (.int .i64 (K)) := (h (j * 4) (by omega)).trans (by congr 2; simp; omega)
      have d1 : wr.cell? ⟨g, j * 4 + 1, none⟩ = some (.int .i64 (K + 1)) := (h (j * 4 + 1) (by omega)).trans (by congr 2; simp; omega)
      have d2 : wr.cell? ⟨g, j * 4 + 2, none⟩ = some (.int .i64 (K + 1 + 1)) := (h (j * 4 + 2) (by omega)).trans (by congr 2; simp; omega)
      have d3 : wr.cell? ⟨g, j * 4 + 3, none⟩ = some (.int .i64 (K + 1 + 1 + 1)) := (h (j * 4 + 3) (by omega)).trans (by congr 2; simp; omega)
      rw [← hK]
      have w1 : IntKind.i64.wrap (K + 1) = K + 1 := wrapM (by omega) (by omega)
      have w2 : IntKind.i64.wrap (K + 1 + 1) = K + 1 + 1 := wrapM (by omega) (by omega)
      have w3 : IntKind.i64.wrap (K + 1 + 1 + 1) = K + 1 + 1 + 1 := wrapM (by omega) (by omega)
      have w4 : IntKind.i64.wrap (K + 1 + 1 + 1 + 1) = K + 1 + 1 + 1 + 1 := wrapM (by omega) (by omega)
      clear h
      go_wp2_with fail
      go_roundw
      case rel => exact ⟨j + 1, by omega, by go_num, by first | (congr 1; omega) | (simp; omega), by first | rfl | trivial⟩
      case measure => simp [intOf]; omega
    · obtain rfl : j = n := by omega
      clear h
      go_wp2_with fail
      go_ret
      exact ⟨rfl, rfl⟩
theorem markCall_own {w : World} {base : Nat} {v : Value} {zs : List Ca} (k0 : Int) (h : OwnN celC 90 w base v zs) (hn : zs.length ≤ 2000000) (h0 : 0 ≤ k0) (h1 : k0 ≤ 100000000) :
    Calls Tryd.prog 53 #[v, .int .i64 k0] w fun r w' => r = .returned (.int .i64 (k0 + 4 * zs.length)) ∧ w.grownBy w' v.ownBlock ∧ MkN 4 w' v zs.length k0 := by
  rcases h.2 with ⟨rfl, h2⟩ | ⟨g, cap, cur, rfl, h2, h3, h4, _, h5, _⟩
  · refine (markCall_nil none 0 k0 w).mono ?_
    rintro r w' ⟨rfl, rfl⟩
    exact ⟨by rw [h2]; simp, World.grownBy.refl _ _, none, 0, by rw [h2], Or.inl h2⟩
  · have h6 : cur.size = cap * 4 := h5
    refine (markCallS_any g zs.length cap k0 w ⟨cur, _, h3, by omega⟩ hn h0 h1).mono ?_
    rintro r w' ⟨rfl, ht, hw, hc⟩
    exact ⟨rfl, ⟨ht.os, ht.tape, ht.output, Nat.le_of_eq ht.size.symm, fun k _ hk => ht.block k (fun e => hk (by rw [e]; rfl))⟩, _, cap, rfl, Or.inr ⟨g, rfl, hw.lt, hc⟩⟩
theorem heldCall_own {w : World} {v : Value} {n : Nat} (k0 : Int) (h : MkN 4 w v n k0) (hn : n ≤ 2000000) (h0 : 0 ≤ k0) (h1 : k0 ≤ 100000000) :
    Calls Tryd.prog 54 #[v, .int .i64 k0] w fun r w' => r = .returned (.int .i64 (k0 + 4 * n)) ∧ w' = w := by
  obtain ⟨a, cap, rfl, h | ⟨g, rfl, hg, h⟩⟩ := h
  · subst h
    refine (heldCall_nil a cap k0 w).mono ?_
    rintro r w' ⟨rfl, rfl⟩
    exact ⟨by simp, rfl⟩
  · exact heldCallS_any g n cap k0 w h hn h0 h1

end Go.Proofs.YtghajmfjekfdpaaDoor
