/-
  A queue of numbers of the call's own: a row from somewhere in a block; one number more behind it.
-/
import Derived.Test.YthgglnjjbpjonaaKOwn
namespace Go.Proofs.Ythgglnjjbpjonaa
open Go.RowKit

/-- A queue: nothing, or a row from somewhere in a block of the call's own. -/
def QRow (w : World) (B : Nat) (v : Value) (q : List Int) : Prop :=
  (v = .slice none 0 0 ∧ q = []) ∨ ∃ g off cap cur, v = .slice (some ⟨g, off, none⟩) q.length cap ∧ B < g ∧ w.heap[g]? = some (.cells cur 3 (0, 0)) ∧ q.length ≤ cap ∧ cap ≤ maxLen ∧ off + cap ≤ cur.size ∧ ∀ (j : Nat) n, q[j]? = some n → cur[off + j]? = some (.int .i64 n)
theorem QRow.same {w w' : World} {B : Nat} {v : Value} {q : List Int} (h : QRow w B v q) (hs : ∀ g, B < g → g < w.heap.size → w'.heap[g]? = w.heap[g]?) : QRow w' B v q := by
  rcases h with h | ⟨g, off, cap, cur, h1, h2, h3, h4⟩
  · exact Or.inl h
  · exact Or.inr ⟨g, off, cap, cur, h1, h2, (hs g h2 (Array.getElem?_eq_some_iff.1 h3).1).trans h3, h4⟩
theorem QRow.later {w w' : World} {B : Nat} {v : Value} {q : List Int} (h : QRow w B v q) (hb : Below w.heap.size w w') : QRow w' B v q := h.same fun g _ hg => hb.block g hg
theorem QRow.set {w : World} {B o : Nat} {v u : Value} {q : List Int} (h : QRow w B v q) : QRow (w.setCell ⟨B, o, none⟩ u) B v q := by
  refine h.same fun g hg _ => ?_
  simp [World.setCell, Array.getElem?_modify, Nat.ne_of_lt hg]
/-- The first of it. -/
theorem QRow.first {w : World} {B : Nat} {v : Value} {n : Int} {q : List Int} (h : QRow w B v (n :: q)) : ∃ g off cap, v = .slice (some ⟨g, off, none⟩) (q.length + 1) cap ∧ q.length + 1 ≤ cap ∧ w.cell? ⟨g, off, none⟩ = some (.int .i64 n) ∧ QRow w B (.slice (some ⟨g, off + 1, none⟩) q.length (cap - 1)) q ∧ (cap = 1 → QRow w B (.slice (some ⟨g, off, none⟩) 0 0) q) := by
  rcases h with ⟨_, h⟩ | ⟨g, off, cap, cur, h1, h2, h3, h4, h5, h6, h7⟩
  · cases h
  · simp only [List.length_cons] at h1 h4
    refine ⟨g, off, cap, h1, h4, ?_, Or.inr ⟨g, off + 1, cap - 1, cur, rfl, h2, h3, by omega, by omega, by omega, fun j m hm => ?_⟩, fun hc1 => ?_⟩
    · have := h7 0 n rfl
      rw [cell_of_row _ _ _ _ _ _ h3]
      simpa using this
    · have := h7 (j + 1) m (by simpa using hm)
      rw [show off + 1 + j = off + (j + 1) by omega]
      exact this
    · obtain rfl : q = [] := List.length_eq_zero_iff.1 (by omega)
      exact Or.inr ⟨g, off, 0, cur, rfl, h2, h3, Nat.le_refl _, Nat.zero_le _, by omega, fun j m hm => by simp at hm⟩
theorem QRow.len {w : World} {B : Nat} {v : Value} {q : List Int} (h : QRow w B v q) : ∃ a cap, v = .slice a q.length cap := by
  rcases h with ⟨rfl, rfl⟩ | ⟨g, off, cap, cur, rfl, _⟩
  · exact ⟨none, 0, rfl⟩
  · exact ⟨_, cap, rfl⟩

theorem put_at {α : Type} {x : α} : ∀ {l : List α} {o m : Nat}, o < l.length → (l.take o ++ [x] ++ l.drop (o + 1))[m]? = if m = o then some x else l[m]?
  | [], o, m, h => by simp at h
  | y :: l, 0, m, _ => by cases m <;> simp
  | y :: l, o + 1, 0, _ => by simp
  | y :: l, o + 1, m + 1, h => by
    have := put_at (x := x) (l := l) (o := o) (m := m) (by simpa using h)
    simpa using this

set_option maxHeartbeats 1000000 in
/-- One number more. -/
theorem run_append_q {w : World} {B : Nat} {v : Value} {q : List Int} (ty : TypeId) (h : QRow w B v q) (hq : q.length ≤ 1000) (hB : B < w.heap.size) (bk : Nat) (x : Int) (hx : w.cell? ⟨bk, 0, none⟩ = some (.int .i64 x)) :
    ∃ v' w', (Builtin.append_ #[22, 22] ty #[v, .slice (some ⟨bk, 0, none⟩) 1 1]).run Try.prog w = .ok v' w' ∧ QRow w' B v' (q ++ [x]) ∧ Below (B + 1) w w' := by
  obtain ⟨i0, hi, hz0, hz1, hz2⟩ := info_parts infoInt
  have hnews : ∀ (j : Nat) (u : Value), [Value.int .i64 x][j]? = some u → w.cell? ((⟨bk, 0, none⟩ : Addr).add j) = some u := by
    intro j u hj
    match j, hj with
    | 0, hj =>
      simp at hj
      subst hj
      simpa [Addr.add] using hx
  rcases h with ⟨rfl, rfl⟩ | ⟨g, off, cap, cur, rfl, h2, h3, h4, h5, h6, h7⟩
  · obtain ⟨v', w', hr, ho, hg, _, _⟩ := run_append_own_at (P := Try.prog) w (B + 1) 22 ty 3 i0 (.int .i64 0) 1 8 Try.underlying22 hi hz0 hz1 hz2 rfl (by decide) (.slice none 0 0) 0 [] (World.ownsRow_nil _ _ _ _) ⟨bk, 0, none⟩ 1 1 [.int .i64 x] rfl hnews (ints_one .i64 x) (by unfold maxLen; omega) (by omega) (by omega)
    refine ⟨v', w', hr, ?_, ⟨hg.os, hg.tape, hg.output, hg.size, fun k hk => hg.block k (by omega) (by simp [Value.ownBlock])⟩⟩
    obtain ⟨_, ⟨_, h0⟩ | ⟨g, cap, cur, rfl, hb, hh, hn, hc, hcs, ht⟩⟩ := ho
    · omega
    · refine Or.inr ⟨g, 0, cap, cur, rfl, by omega, hh, by simpa using hn, hc, by omega, fun j n hj => ?_⟩
      match j, hj with
      | 0, hj =>
        simp at hj
        subst hj
        have e : cur.toList[0]? = some (.int .i64 x) := by
          have : (cur.toList.take 1)[0]? = some (.int .i64 x) := by
            have ht' : List.take 1 cur.toList = [.int .i64 x] := by simpa using ht
            rw [ht']; rfl
          rwa [List.getElem?_take_of_lt (by omega)] at this
        simpa using e
  · by_cases hroom : q.length + 1 ≤ cap
    · have hf := run_firstCells_some (P := Try.prog) w i0.size 1 ⟨bk, 0, none⟩ 1 1 [.int .i64 x] (by rw [hz1]; rfl) hnews
      have hst := run_storeCells_at Try.prog g (off + q.length * i0.size) 3 [.int .i64 x] 0 cur w h3 (by rw [hz1]; simp; omega) (ints_one .i64 x)
      simp only [Nat.add_zero] at hst
      have hrun : (Builtin.append_ #[22, 22] ty #[.slice (some ⟨g, off, none⟩) q.length cap, .slice (some ⟨bk, 0, none⟩) 1 1]).run Try.prog w = .ok (.slice (some ⟨g, off, none⟩) (q.length + 1) cap) (w.setRow g (cur.toList.take (off + q.length * i0.size) ++ [Value.int .i64 x] ++ cur.toList.drop (off + q.length * i0.size + [Value.int .i64 x].length)).toArray) := by
        simp [Builtin.append_, run_underlying Try.underlying22, sizeOf, typeInfo, hi, Builtin.lenOf, hroom, hf, Addr.add_lit, hst]
      refine ⟨_, _, hrun, ?_, ?_⟩
      · rw [hz1]
        refine Or.inr ⟨g, off, cap, _, by simp, h2, setRow_heap w g cur _ 3 _ h3, by simpa using hroom, h5, ?_, fun j n hj => ?_⟩
        · simp; omega
        · rw [List.getElem?_toArray, Nat.mul_one, List.length_singleton, put_at (by simp; omega)]
          have hjl := (List.getElem?_eq_some_iff.1 hj).1
          simp only [List.length_append, List.length_singleton] at hjl
          by_cases e : j = q.length
          · subst e
            rw [if_pos rfl]
            simp at hj
            rw [hj]
          · rw [if_neg (by omega), List.getElem?_append_left (by omega)] at *
            simpa using h7 j n hj
      · refine ⟨rfl, rfl, rfl, by simp, fun k hk => setRow_other w g k _ (by omega)⟩
    · have holds : ∀ (j : Nat) (u : Value), (q.map (Value.int .i64))[j]? = some u → w.cell? ((⟨g, off, none⟩ : Addr).add j) = some u := by
        intro j u hj
        rw [List.getElem?_map] at hj
        cases hqj : q[j]? with
        | none => rw [hqj] at hj; cases hj
        | some n =>
          rw [hqj] at hj
          simp at hj
          subst hj
          have hadd : (⟨g, off, none⟩ : Addr).add j = ⟨g, off + j, none⟩ := by unfold Addr.add; split <;> simp_all
          rw [hadd, cell_of_row _ _ _ _ _ _ h3]
          exact h7 j n hqj
      have hr := run_append_grow (P := Try.prog) w 22 ty 3 i0 (.int .i64 0) Try.underlying22 hi hz0 ⟨g, off, none⟩ q.length cap (q.map (Value.int .i64)) (by rw [hz1]; simp) holds ⟨bk, 0, none⟩ 1 1 [.int .i64 x] (by rw [hz1]; rfl) hnews (by omega) (by omega) (growslice_fits (by omega) (by rw [hz2]; omega))
      have hge := grownCap_ge w (q.length + 1) cap 3
      have hcm := grownCap_le_maxLen w (q.length + 1) cap 3 (by unfold maxLen; omega)
      refine ⟨_, _, hr, Or.inr ⟨w.heap.size, 0, _, _, by simp, hB, heap_alloc_new w.drew _, by simpa using hge, hcm, ?_, fun j n hj => ?_⟩, ?_⟩
      · rw [Array.size_append, size_zeroCells]
        simp [Value.cells]
        omega
      · have hjl := (List.getElem?_eq_some_iff.1 hj).1
        simp only [List.length_append, List.length_singleton] at hjl
        rw [Nat.zero_add, Array.getElem?_append_left (by simp; omega)]
        have e : (q.map (Value.int .i64)).toArray ++ [Value.int .i64 x].toArray = ((q ++ [x]).map (Value.int .i64)).toArray := by simp
        rw [e, List.getElem?_toArray, List.getElem?_map, hj]
        rfl
      · exact ⟨rfl, rfl, rfl, by simp, fun k hk => Below.heap_alloc w.drew _ k (show k < w.heap.size by omega)⟩

end Go.Proofs.Ythgglnjjbpjonaa
