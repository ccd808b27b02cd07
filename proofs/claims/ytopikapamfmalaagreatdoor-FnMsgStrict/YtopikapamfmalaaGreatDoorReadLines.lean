/-
  The program's readLines: the word of the lines of a text, or the number of the first line that is none.
-/
import Derived.Test.YtopikapamfmalaaGreatDoorLinesIter
import Derived.Test.YtopikapamfmalaaGreatDoorWithSeal
import Derived.RangeFuncFrom
namespace Go.Proofs.YtopikapamfmalaaGreatDoor
open Go.RowKit Go.Shelf
attribute [local go_sem] Oper.semAt_some

theorem grown_drewN (w : World) (k : Nat) : w.grownBy (w.drewN k) none := ⟨rfl, rfl, rfl, Nat.le_refl _, fun _ _ _ => rfl⟩
abbrev lnV (p1 : Option Addr) (x : Ln) : Array Value := #[.string x.1.1, if x.2 then .iface 179 (.pointer p1) else .nilIface]

theorem lines_stops (n : Nat) (hn : 3 ≤ n) (Bt n₀ : Nat) (p1 : Option Addr) (mx : Int) (s : ByteArray) (hs : s.size ≤ 200) (w : World) (hBt : w.cell? ⟨Bt, 0, none⟩ = some (.string s)) (hbl : Bt < w.heap.size) (hw : Wn p1 mx n₀ w) (hn₀ : n₀ ≤ w.heap.size) :
    SeqStopsK Fence.wide n Tryz.prog 66 #[.pointer (some ⟨Bt, 0, none⟩)] (lnV p1) (Below n₀) (fun ys => ys = lns 201 s hs) (fun pre => pre <+: lns 201 s hs) 201 w := fun l J Jx W hW hJ _ hY h0 =>
  lines_in n hn l Bt n₀ p1 mx s hs J Jx (fun pre W k h => hJ pre W (W.drewN k) none h (grown_drewN W k) (fun _ e => by cases e)) hY W ((hW.cell (p := ⟨Bt, 0, none⟩) hbl).trans hBt) (hw.keep (hW.mono hn₀)) h0

theorem textLines_any (s : ByteArray) (w : World) :
    Calls Tryz.prog 47 #[.string s] w fun e w' => e = .returned (.func (.func 66) #[] #[.pointer (some ⟨w.heap.size, 0, none⟩)]) ∧ w' = w.alloc (.cells #[.string s] 9) := by
  go_enter Tryz.func47, Tryz.ntmps47
  go_wp2
  go_ret
  exact ⟨rfl, rfl⟩

/-- The seals of lines. -/
def SLn : List Ln → List Sl → Prop
  | [], [] => True
  | y :: t, u :: xs => (y.2 = false ∧ Par y.1.1 u.k u.t u.a u.b u.c u.d u.e) ∧ SLn t xs
  | _, _ => False
theorem SLn.len {t : List Ln} : ∀ {xs : List Sl}, SLn t xs → t.length = xs.length := by
  induction t with
  | nil => intro xs h; cases xs with
    | nil => rfl
    | cons => exact h.elim
  | cons y t ih => intro xs h; cases xs with
    | nil => exact h.elim
    | cons u xs => rw [List.length_cons, List.length_cons, ih h.2]
theorem SLn.snoc {y : Ln} {u : Sl} (h1 : y.2 = false) (h2 : Par y.1.1 u.k u.t u.a u.b u.c u.d u.e) {t : List Ln} : ∀ {xs : List Sl}, SLn t xs → SLn (t ++ [y]) (xs ++ [u]) := by
  induction t with
  | nil => intro xs h; cases xs with
    | nil => exact ⟨⟨h1, h2⟩, trivial⟩
    | cons => exact h.elim
  | cons z t ih => intro xs h; cases xs with
    | nil => exact h.elim
    | cons v xs => exact ⟨h.1, ih h.2⟩
theorem SLn.unsnoc {y : Ln} {t : List Ln} : ∀ {xs : List Sl}, SLn (t ++ [y]) xs → ∃ u : Sl, y.2 = false ∧ Par y.1.1 u.k u.t u.a u.b u.c u.d u.e := by
  induction t with
  | nil => intro xs h; cases xs with
    | nil => exact h.elim
    | cons u xs => exact ⟨u, h.1⟩
  | cons z t ih => intro xs h; cases xs with
    | nil => exact h.elim
    | cons v xs => exact ih h.2
theorem SLn.pre {r : List Ln} {t : List Ln} : ∀ {xs : List Sl}, SLn (t ++ r) xs → ∃ ys zs, xs = ys ++ zs ∧ SLn t ys ∧ SLn r zs := by
  induction t with
  | nil => intro xs h; exact ⟨[], xs, rfl, trivial, h⟩
  | cons z t ih => intro xs h; cases xs with
    | nil => exact h.elim
    | cons u xs =>
      obtain ⟨ys, zs, rfl, h1, h2⟩ := ih h.2
      exact ⟨u :: ys, zs, rfl, ⟨h.1, h1⟩, h2⟩
/-- The word of lines. -/
def Wrd (pre : List Ln) (m n k f : Int) (xs : List Sl) : Prop :=
  (pre = [] ∧ m = 0 ∧ n = 0 ∧ k = 0 ∧ f = 0 ∧ xs = []) ∨ ∃ x t, pre = x :: t ∧ x.2 = false ∧ Nums x.1.1 m n k f ∧ SLn t xs
theorem Wrd.pre {p r : List Ln} {m n k f : Int} {xs : List Sl} (h : Wrd (p ++ r) m n k f xs) : ∃ m n k f xs, Wrd p m n k f xs := by
  cases p with
  | nil => exact ⟨0, 0, 0, 0, [], .inl ⟨rfl, rfl, rfl, rfl, rfl, rfl⟩⟩
  | cons y t =>
    rcases h with ⟨h, _⟩ | ⟨x, t', h, h1, h2, h3⟩
    · cases h
    · injection h with e1 e2
      subst e1 e2
      obtain ⟨ys, zs, _, h4, _⟩ := SLn.pre h3
      exact ⟨m, n, k, f, ys, .inr ⟨y, t, rfl, h1, h2, h4⟩⟩
theorem Wrd.len {p : List Ln} {m n k f : Int} {xs : List Sl} (h : Wrd p m n k f xs) : xs.length ≤ p.length := by
  rcases h with ⟨rfl, _, _, _, _, rfl⟩ | ⟨x, t, rfl, _, _, h⟩
  · simp
  · rw [← h.len]; simp

abbrev zM : Array Value := #[.int .i64 0, .int .i64 0, .int .i64 0, .int .i64 0, .slice none 0 0]
/-- While the loop goes. -/
structure RI (w : World) (b : Nat) (pre : List Ln) (W : World) : Prop where
  below : Below w.heap.size w W
  res : W.heap[b]? = some (.cells zM 24 (0, 0))
  err : W.heap[b + 1]? = some (.cells #[.nilIface] 43 (0, 0))
  cnt : W.heap[b + 1 + 1 + 1]? = some (.cells #[.int .i64 pre.length] 3 (0, 0))
  row : ∃ m n k f a cap xs, Wrd pre m n k f xs ∧ W.heap[b + 1 + 1]? = some (.cells #[.int .i64 m, .int .i64 n, .int .i64 k, .int .i64 f, .slice a xs.length cap] 24 (0, 0)) ∧ W.ownsRow w.heap.size 39 7 (.slice a xs.length cap) xs.length (cellsL xs)
/-- Where it stops. -/
structure RX (w : World) (b : Nat) (pre : List Ln) (W : World) : Prop where
  below : Below w.heap.size w W
  res : W.heap[b]? = some (.cells zM 24 (0, 0))
  err : ∃ c v, W.heap[b + 1]? = some (.cells #[.iface 47 (.agg #[.int .i64 c, v])] 43 (0, 0)) ∧ ∃ te ve, v = .iface te ve
  bad : ∀ m n k f xs, ¬ Wrd pre m n k f xs

theorem keep_cells {W W' : World} {row : Option Nat} {k : Nat} {cs : Array Value} {T : Nat} (hg : W.grownBy W' row) (hr : ∀ r, row = some r → ∃ o : Obj, W.heap[r]? = some o ∧ o.isCells = false) (h : W.heap[k]? = some (.cells cs T (0, 0))) : W'.heap[k]? = some (.cells cs T (0, 0)) := by
  refine (hg.block k (Array.getElem?_eq_some_iff.1 h).1 ?_).trans h
  intro e
  obtain ⟨o, ho, hc⟩ := hr k e.symm
  rw [h] at ho
  injection ho with ho
  subst ho
  simp [Obj.isCells] at hc

theorem own_RI (w : World) (b B : Nat) (hB : w.heap.size ≤ B) : OwnFrom B (RI w b) := fun pre W W' row h hg hr =>
  have hr' : ∀ r, row = some r → ∃ o : Obj, W.heap[r]? = some o ∧ o.isCells = false := fun r e => (hr r e).2
  ⟨ownFrom_below (Nat.le_refl _) hB pre W W' row h.below hg hr, keep_cells hg hr' h.res, keep_cells hg hr' h.err, keep_cells hg hr' h.cnt, by
    obtain ⟨m, n, k, f, a, cap, xs, h1, h2, h3⟩ := h.row
    exact ⟨m, n, k, f, a, cap, xs, h1, keep_cells hg hr' h2, own_blocks' h3 fun g cur _ hh => (keep_cells hg hr' hh).trans hh.symm⟩⟩
theorem own_RX (w : World) (b B : Nat) (hB : w.heap.size ≤ B) : OwnFrom B (RX w b) := fun pre W W' row h hg hr =>
  have hr' : ∀ r, row = some r → ∃ o : Obj, W.heap[r]? = some o ∧ o.isCells = false := fun r e => (hr r e).2
  ⟨ownFrom_below (Nat.le_refl _) hB pre W W' row h.below hg hr, keep_cells hg hr' h.res, by
    obtain ⟨c, v, h1, h2⟩ := h.err
    exact ⟨c, v, keep_cells hg hr' h1, h2⟩, h.bad⟩

end Go.Proofs.YtopikapamfmalaaGreatDoor
