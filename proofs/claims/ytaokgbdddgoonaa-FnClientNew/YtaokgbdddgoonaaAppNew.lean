/-
  A row behind a new row: nothing that was in memory is turned.
-/
import Derived.Test.YtaokgbdddgoonaaNRow
import Derived.Test.YtaokgbdddgoonaaSOwn
namespace Go.Proofs.Ytaokgbdddgoonaa
open Go.RowKit

theorem appendN_none {P : Program} (w : World) (t ty e : TypeId) (i : TypeInfo) (ht : P.underlying t = some (.slice e)) (hi : P.info? e = some i) (g c : Nat) (a : Option Addr) :
    (Builtin.append_ #[t, t] ty #[.slice (some ⟨g, 0, none⟩) 0 0, .slice a 0 c]).run P w = .ok (.slice (some ⟨g, 0, none⟩) 0 0) w := by
  cases a with
  | none => simp [Builtin.append_, run_underlying ht, sizeOf, typeInfo, hi, Builtin.lenOf, Builtin.firstCells, storeCells]
  | some a => simp [Builtin.append_, run_underlying ht, sizeOf, typeInfo, hi, Builtin.lenOf, Builtin.firstCells, storeCells, loadCells, loadCellsFrom]

theorem appendN_nil0 {P : Program} (w : World) (t ty e : TypeId) (i : TypeInfo) (ht : P.underlying t = some (.slice e)) (hi : P.info? e = some i) (c : Nat) (a : Option Addr) :
    (Builtin.append_ #[t, t] ty #[.slice none 0 0, .slice a 0 c]).run P w = .ok (.slice none 0 0) w := by
  cases a with
  | none => simp [Builtin.append_, run_underlying ht, sizeOf, typeInfo, hi, Builtin.lenOf, Builtin.firstCells]
  | some a => simp [Builtin.append_, run_underlying ht, sizeOf, typeInfo, hi, Builtin.lenOf, Builtin.firstCells, loadCells, loadCellsFrom]
theorem appendN_fresh {P : Program} (w : World) (base : Nat) (t ty e : TypeId) (i : TypeInfo) (z : Value) (size bytes : Nat) (ht : P.underlying t = some (.slice e)) (hi : P.info? e = some i) (hz : i.zero = some z)
    (hsize : i.size = size) (hby : i.bytes = bytes) (hzs : z.cells.size = size) (hsz : 0 < size) (b : Option Addr) (hown : w.ownsRow base e size (.slice b 0 0) 0 [])
    (a : Option Addr) (m c : Nat) (news : List Value) (hl : news.length = m * size) (hsrc : m = 0 ∨ ∃ ad, a = some ad ∧ ∀ j u, news[j]? = some u → w.cell? (ad.add j) = some u) (h1 : ∀ u ∈ news, u.oneCell' = true)
    (h63 : m ≤ maxLen) (hbytes : m * bytes ≤ 140737488355328) (hbase : base ≤ w.heap.size) :
    ∃ v' w', (Builtin.append_ #[t, t] ty #[.slice b 0 0, .slice a m c]).run P w = .ok v' w' ∧ w'.ownsRow base e size v' m news ∧ Below w.heap.size w w' ∧ (v'.ownBlock = (Value.slice b 0 0).ownBlock ∨ v'.ownBlock = some w.heap.size) := by
  by_cases hm : m = 0
  · subst hm
    have hn : news = [] := List.eq_nil_of_length_eq_zero (by simpa using hl)
    subst hn
    rcases hown.2 with ⟨e0, _⟩ | ⟨g, cap, cur, e0, _⟩
    · cases e0
      exact ⟨.slice none 0 0, w, appendN_nil0 w t ty e i ht hi c a, hown, Below.refl _ _, Or.inl rfl⟩
    · cases e0
      exact ⟨_, w, appendN_none w t ty e i ht hi g c a, hown, Below.refl _ _, Or.inl rfl⟩
  · obtain ⟨ad, rfl, hnews⟩ : ∃ ad, a = some ad ∧ ∀ j u, news[j]? = some u → w.cell? (ad.add j) = some u := by
      rcases hsrc with h | h
      · exact absurd h hm
      · exact h
    rcases hown.2 with ⟨e0, _⟩ | ⟨g, cap, cur, e0, hbg, hg, _⟩
    · cases e0
      obtain ⟨v', w', hr, h2, h3, h4, h5⟩ := run_append_own_at (P := P) w base t ty e i z size bytes ht hi hz hsize hby hzs hsz (.slice none 0 0) 0 [] hown ad m c news hl hnews h1 (by simpa using h63) (by simpa using hbytes) hbase
      exact ⟨v', w', hr, by simpa using h2, ⟨h3.os, h3.tape, h3.output, h3.size, fun k hk => h3.block k hk (by simp [Value.ownBlock])⟩, h5⟩
    · cases e0
      subst hsize hby
      have hr := run_append_grow (P := P) w t ty e i z ht hi hz ⟨g, 0, none⟩ 0 0 [] (by simp) (by simp) ad m c news hl hnews (by omega) (by simp only [maxLen] at h63; omega) (growslice_fits (by omega) (by simpa using hbytes))
      simp only [Nat.zero_add] at hr
      refine ⟨_, _, hr, ⟨hl, .inr ⟨w.heap.size, _, _, rfl, hbase, heap_alloc_new w.drew _, grownCap_ge w m 0 e, grownCap_le_maxLen w m 0 e h63, ?_, ?_⟩⟩, ⟨rfl, rfl, rfl, by simp, fun k hk => heap_alloc_old w.drew _ hk⟩, Or.inr rfl⟩
      · simp only [Array.size_append, List.size_toArray, size_zeroCells, hzs, hl, ← Nat.add_mul, List.length_nil, Nat.zero_add]
        congr 1
        have := grownCap_ge w m 0 e
        omega
      · simp only [Array.toList_append, List.nil_append]
        rw [← hl]
        exact List.take_left

/-- A row behind a new row: what comes of it. -/
theorem wp_app_new {X : Type} (C : Cel X) (P : Program) (T sT bytes : Nat) (z : Value) {w : World} {o : Oper} {a : Act} {K : Act → World → Prop} {Q : Exit → Act → World → Prop} (hu : P.underlying sT = some (.slice T)) (hinf : (P.info? T).map (fun i => (i.zero, i.size, i.bytes)) = some (some z, C.n, bytes)) (hz : z.cells.size = C.n) (hby : bytes ≤ 1000) (s x : Operand)
    (ho : o.op = .call { callee := .builtin .append, args := #[s, x], argTypes := #[sT, sT] }) (base : Nat) (b0 : Option Addr) (hs : a.eval s = .slice b0 0 0) (h : OwnN C T w base (.slice b0 0 0) []) (b : Option Addr) (xs : List X) (c : Nat) (hx : a.eval x = .slice b xs.length c) (hr : NRow C w b xs)
    (hq : xs.length ≤ 2000000) (hB : base ≤ w.heap.size)
    (hK : ∀ b' c' w', OwnN C T w' base (.slice b' xs.length c') xs → Below w.heap.size w w' → ((Value.slice b' xs.length c').ownBlock = (Value.slice b0 0 0).ownBlock ∨ (Value.slice b' xs.length c').ownBlock = some w.heap.size) → K (a.put o.dst (.slice b' xs.length c')) w') : Oper.wp P o a w K Q := by
  obtain ⟨i0, hi, hz0, hz1, hz2⟩ := info_parts hinf
  obtain ⟨v', w', hrun, h1, h2, h3⟩ := appendN_fresh w base sT o.type T i0 z C.n bytes hu hi hz0 hz1 hz2 hz C.pos b0 h b xs.length c (cellsN C xs) (cellsN_length C xs)
    (by
      rcases hr with hr | ⟨g, off, rfl, _, hr⟩
      · exact Or.inl (by rw [hr]; rfl)
      · exact Or.inr ⟨_, rfl, NRow.src hr⟩)
    (cellsN_one C xs) (by unfold maxLen; omega) (by have := Nat.mul_le_mul hq hby; omega) hB
  have ho1 : OwnN C T w' base v' xs := h1
  obtain ⟨b', c', rfl, _⟩ := ho1.rows
  unfold Oper.wp execOp
  simp only [ho, resolve, invoke, builtin, Sem.run_bind, Sem.run_pure, Result.andThen_ok, List.map_toArray, List.map_cons, List.map_nil, hs, hx, hrun]
  exact hK b' c' w' ho1 h2 h3

end Go.Proofs.Ytaokgbdddgoonaa
