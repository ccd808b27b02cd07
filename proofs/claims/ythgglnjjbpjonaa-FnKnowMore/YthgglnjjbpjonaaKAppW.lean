/-
  A whole row behind a row of one's own, as an operation by itself: numbers, and seals; the source may be nil.
-/
import Derived.Test.YthgglnjjbpjonaaKnowApp
namespace Go.Proofs.Ythgglnjjbpjonaa
open Go.RowKit

theorem wp_app_ints {w : World} {o : Oper} {a : Act} {K : Act → World → Prop} {Q : Exit → Act → World → Prop} (s x : Operand)
    (ho : o.op = .call { callee := .builtin .append, args := #[s, x], argTypes := #[22, 22] }) (base : Nat) (v : Value) (zs : List Int) (hs : a.eval s = v) (h : OwnI w base v zs) (b : Option Addr) (ks : List Int) (c : Nat) (hx : a.eval x = .slice b ks.length c) (hr : IRow w b ks)
    (hq : zs.length + ks.length ≤ 2000000) (hB : base ≤ w.heap.size)
    (hK : ∀ b' c' w', OwnI w' base (.slice b' (zs ++ ks).length c') (zs ++ ks) → w.grownBy w' v.ownBlock → K (a.put o.dst (.slice b' (zs ++ ks).length c')) w') : Oper.wp Try.prog o a w K Q := by
  obtain ⟨i0, hi, hz0, hz1, hz2⟩ := info_parts infoInt
  obtain ⟨v', w', hrun, h1, h2⟩ := append_row w base 22 o.type 3 i0 (.int .i64 0) 1 8 Try.underlying22 hi hz0 hz1 hz2 rfl (by decide) v zs.length (zs.map (Value.int .i64)) h b ks.length c (ks.map (Value.int .i64)) (by simp)
    (by
      rcases hr with hr | ⟨g, off, rfl, _, hr⟩
      · exact Or.inl (by rw [hr]; rfl)
      · refine Or.inr ⟨_, rfl, fun j u hu => ?_⟩
        rw [List.getElem?_map] at hu
        cases hq : ks[j]? with
        | none => rw [hq] at hu; cases hu
        | some n =>
          rw [hq] at hu
          have hadd : (⟨g, off, none⟩ : Addr).add j = ⟨g, off + j, none⟩ := by unfold Addr.add; split <;> simp_all
          rw [hadd, hr j n hq]
          simpa using hu)
    (by intro u hu; obtain ⟨n, _, rfl⟩ := List.mem_map.1 hu; rfl) (by unfold maxLen; omega) (by omega) hB
  have ho1 : OwnI w' base v' (zs ++ ks) := by simpa [OwnI] using h1
  obtain ⟨b', c', rfl, _⟩ := ho1.row
  unfold Oper.wp execOp
  simp only [ho, resolve, invoke, builtin, Sem.run_bind, Sem.run_pure, Result.andThen_ok, List.map_toArray, List.map_cons, List.map_nil, hs, hx, hrun]
  exact hK b' c' w' ho1 h2

theorem wp_app_seals {w : World} {o : Oper} {a : Act} {K : Act → World → Prop} {Q : Exit → Act → World → Prop} (s x : Operand)
    (ho : o.op = .call { callee := .builtin .append, args := #[s, x], argTypes := #[27, 27] }) (base : Nat) (v : Value) (zs : List Sl) (hs : a.eval s = v) (h : OwnS w base v zs) (b : Option Addr) (xs : List Sl) (c : Nat) (hx : a.eval x = .slice b xs.length c) (hr : SRow w b xs)
    (hq : zs.length + xs.length ≤ 2000000) (hB : base ≤ w.heap.size)
    (hK : ∀ b' c' w', OwnS w' base (.slice b' (zs ++ xs).length c') (zs ++ xs) → w.grownBy w' v.ownBlock → K (a.put o.dst (.slice b' (zs ++ xs).length c')) w') : Oper.wp Try.prog o a w K Q := by
  obtain ⟨i0, hi, hz0, hz1, hz2⟩ := info_parts infoSealM
  obtain ⟨v', w', hrun, h1, h2⟩ := append_row w base 27 o.type 40 i0 (.agg #[.int .i64 0, .int .i64 0, .int .i64 0, .int .i64 0, .int .i64 0, .int .i64 0, .int .i64 0]) 7 56 Try.underlying27 hi hz0 hz1 hz2 rfl (by decide) v zs.length (cellsL zs) h b xs.length c (cellsL xs) (cellsL_length xs)
    (by
      rcases hr with hr | ⟨g, off, rfl, _, hr⟩
      · exact Or.inl (by rw [hr]; rfl)
      · exact Or.inr ⟨_, rfl, SRow.src hr⟩)
    (cellsL_one xs) (by unfold maxLen; omega) (by omega) hB
  have ho1 : OwnS w' base v' (zs ++ xs) := by unfold OwnS; rw [cellsL_app, List.length_append]; exact h1
  obtain ⟨b', c', rfl, _⟩ := own_row ho1
  unfold Oper.wp execOp
  simp only [ho, resolve, invoke, builtin, Sem.run_bind, Sem.run_pure, Result.andThen_ok, List.map_toArray, List.map_cons, List.map_nil, hs, hx, hrun]
  exact hK b' c' w' ho1 h2

theorem OwnI.lo {w : World} {base : Nat} {v : Value} {zs : List Int} (h : OwnI w base v zs) : ∀ k, v.ownBlock = some k → base ≤ k := fun k hk => (World.ownsRow.lt h k hk).1
theorem OwnS.lo {w : World} {base : Nat} {v : Value} {zs : List Sl} (h : OwnS w base v zs) : ∀ k, v.ownBlock = some k → base ≤ k := fun k hk => (World.ownsRow.lt h k hk).1
theorem OwnS.zero (w : World) {base : Nat} (hb : base ≤ w.heap.size) : OwnS (w.alloc (.cells #[] 40)) base (.slice (some ⟨w.heap.size, 0, none⟩) 0 0) [] :=
  ⟨rfl, Or.inr ⟨w.heap.size, 0, #[], rfl, hb, heap_alloc_new _ _, Nat.le_refl _, Nat.zero_le _, rfl, rfl⟩⟩

end Go.Proofs.Ythgglnjjbpjonaa
