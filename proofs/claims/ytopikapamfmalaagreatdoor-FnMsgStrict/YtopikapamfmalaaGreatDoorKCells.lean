/-
  The cells of a row of seals, and one seal more behind a row of one's own: where it lies then.
-/
import Derived.Test.YtopikapamfmalaaGreatDoorBaseJ
import Derived.OwnWalk
import Derived.Maps.AppendAt
namespace Go.Proofs.YtopikapamfmalaaGreatDoor
open Go.RowKit

/-- A seal's cells. -/
def Sl.cs (s : Sl) : List Value := [.int .i64 s.k, .int .i64 s.t, .int .i64 s.a, .int .i64 s.b, .int .i64 s.c, .int .i64 s.d, .int .i64 s.e]
/-- Those of a row. -/
def cellsL (xs : List Sl) : List Value := xs.flatMap Sl.cs
theorem cellsL_length (xs : List Sl) : (cellsL xs).length = xs.length * 7 := by
  induction xs with
  | nil => rfl
  | cons s xs ih => simp only [cellsL, List.flatMap_cons, List.length_append, List.length_cons] at ih ⊢; rw [ih]; simp [Sl.cs]; omega
theorem cellsL_add (xs : List Sl) (s : Sl) : cellsL (xs ++ [s]) = cellsL xs ++ s.cs := by simp [cellsL]
theorem cellsL_at {s : Sl} : ∀ {xs : List Sl} {i : Nat}, xs[i]? = some s → ∀ q, q < 7 → (cellsL xs)[i * 7 + q]? = s.cs[q]?
  | [], i, h, _, _ => by simp at h
  | x :: xs, 0, h, q, hq => by
    simp at h; subst h
    simp only [cellsL, List.flatMap_cons, Nat.zero_mul, Nat.zero_add]
    rw [List.getElem?_append_left (by simp [Sl.cs]; omega)]
  | x :: xs, i + 1, h, q, hq => by
    have ih := cellsL_at (xs := xs) (i := i) (by simpa using h) q hq
    simp only [cellsL, List.flatMap_cons] at ih ⊢
    rw [List.getElem?_append_right (by simp [Sl.cs]; omega), ← ih]
    congr 1; simp [Sl.cs]; omega
/-- A row of one's own is a row of seals. -/
theorem own_row {w : World} {base n : Nat} {v : Value} {xs : List Sl} (h : w.ownsRow base 39 7 v n (cellsL xs)) : ∃ a cap, v = .slice a xs.length cap ∧ xs.length ≤ cap ∧ SRow w a xs ∧ (xs ≠ [] → ∃ g, a = some ⟨g, 0, none⟩ ∧ base ≤ g) := by
  have hn : xs.length = n := by have := h.1; rw [cellsL_length] at this; omega
  have hc := fun g hg => h.cells (g := g) hg
  obtain ⟨_, ⟨rfl, h0⟩ | ⟨g, cap, cur, rfl, hb, hh, hnc, _⟩⟩ := h
  · obtain rfl : xs = [] := List.eq_nil_of_length_eq_zero (by omega)
    exact ⟨none, 0, rfl, Nat.le_refl _, Or.inl rfl, fun hx => absurd rfl hx⟩
  · refine ⟨some ⟨g, 0, none⟩, cap, by rw [hn], by omega, Or.inr ⟨g, 0, rfl, (Array.getElem?_eq_some_iff.1 hh).1, fun i s hs => ?_⟩, fun _ => ⟨g, rfl, hb⟩⟩
    have hg : ∀ q u, q < 7 → s.cs[q]? = some u → w.cell? ⟨g, 0 + i * 7 + q, none⟩ = some u := by
      intro q u hq hu
      have := hc g rfl (i * 7 + q) u (by rw [cellsL_at hs q hq, hu])
      by_cases e : i * 7 + q = 0
      · have e' : 0 + i * 7 + q = 0 := by omega
        rw [e'] ; rw [e] at this; simpa [Addr.add] using this
      · rw [Addr.add, if_neg e] at this
        simpa [Nat.add_assoc] using this
    exact ⟨by simpa using hg 0 _ (by omega) rfl, hg 1 _ (by omega) rfl, hg 2 _ (by omega) rfl, hg 3 _ (by omega) rfl, hg 4 _ (by omega) rfl, hg 5 _ (by omega) rfl, hg 6 _ (by omega) rfl⟩

theorem infoSealM : (Tryz.prog.info? 39).map (fun i => (i.zero, i.size, i.bytes)) = some (some (.agg #[.int .i64 0, .int .i64 0, .int .i64 0, .int .i64 0, .int .i64 0, .int .i64 0, .int .i64 0]), 7, 56) := by kernel_rfl
theorem cs_one (s : Sl) : ∀ u ∈ s.cs, u.oneCell' = true := by
  intro u hu
  simp [Sl.cs] at hu
  rcases hu with rfl | rfl | rfl | rfl | rfl | rfl | rfl <;> rfl
theorem cs_at {w : World} {bk : Nat} {s : Sl} (hat : SealAt w bk 0 s) : ∀ j u, s.cs[j]? = some u → w.cell? ((⟨bk, 0, none⟩ : Addr).add j) = some u := by
  intro j u hu
  have h7 : j < 7 := by have := (List.getElem?_eq_some_iff.1 hu).1; simpa [Sl.cs] using this
  obtain ⟨c0, c1, c2, c3, c4, c5, c6⟩ := hat
  obtain rfl | rfl | rfl | rfl | rfl | rfl | rfl : j = 0 ∨ j = 1 ∨ j = 2 ∨ j = 3 ∨ j = 4 ∨ j = 5 ∨ j = 6 := by omega
  all_goals (simp [Sl.cs] at hu; subst hu; simpa [Addr.add] using (by assumption))
/-- One seal more behind a row of one's own, and where it lies then. -/
theorem app_seal_at {w : World} {o : Oper} {a : Act} {K : Act → World → Prop} {Q : Exit → Act → World → Prop} (d : Nat) (hd : o.dst = some d) (x y : Operand)
    (ho : o.op = .call { callee := .builtin .append, args := #[x, y], argTypes := #[22, 22] }) (base : Nat) (v : Value) (xs : List Sl) (s : Sl) (hx : a.eval x = v) (hown : w.ownsRow base 39 7 v xs.length (cellsL xs))
    (bk : Nat) (hy : a.eval y = .slice (some ⟨bk, 0, none⟩) 1 1) (hat : SealAt w bk 0 s) (hlen : xs.length ≤ 2000000) (hbase : base ≤ w.heap.size)
    (h : ∀ g cap w', w'.ownsRow base 39 7 (.slice (some ⟨g, 0, none⟩) (xs.length + 1) cap) (xs.length + 1) (cellsL xs ++ s.cs) → w.grownBy w' v.ownBlock → (some g = v.ownBlock ∨ g = w.heap.size) → K (a.put (some d) (.slice (some ⟨g, 0, none⟩) (xs.length + 1) cap)) w') : o.wp Tryz.prog a w K Q := by
  obtain ⟨i0, hi, hz0, hz1, hz2⟩ := info_parts infoSealM
  obtain ⟨v', w', hr, h2, h3, h4, h5⟩ := run_append_own_at (P := Tryz.prog) w base 22 o.type 39 i0 (.agg #[.int .i64 0, .int .i64 0, .int .i64 0, .int .i64 0, .int .i64 0, .int .i64 0, .int .i64 0]) 7 56 Tryz.underlying22 hi hz0 hz1 hz2 rfl (by decide) v xs.length (cellsL xs) hown ⟨bk, 0, none⟩ 1 1 s.cs rfl (cs_at hat) (cs_one s) (by unfold maxLen; omega) (by omega) hbase
  have h2' := h2
  obtain ⟨_, ⟨_, h0⟩ | ⟨g, cap, _, rfl, _⟩⟩ := h2'
  · omega
  unfold Oper.wp execOp
  simp only [ho, resolve, invoke, builtin, Sem.run_bind, Sem.run_pure, Result.andThen_ok, List.map_toArray, List.map_cons, List.map_nil, hx, hy, hr]
  have h6 : some g = v.ownBlock ∨ g = w.heap.size := by
    rcases h5 with h | h
    · exact Or.inl h
    · exact Or.inr (by simpa [Value.ownBlock] using h)
  have := h g cap w' h2 h3 h6
  rw [← hd] at this
  exact this

end Go.Proofs.YtopikapamfmalaaGreatDoor
