/-
  A row of 61 truth values in memory, and a row of numbers: what they are, how they stay, and how one value is set.
-/
import Derived.Test.YtepnijocfilgoaaDoorKnowMath
import Derived.Test.YtepnijocfilgoaaDoorKTo
namespace Go.Proofs.YtepnijocfilgoaaDoor
open Go.RowKit

theorem Below.alloc_ (w : World) (o : Obj) : Below w.heap.size w (w.alloc o) := (Below.refl _ _).alloc (Nat.le_refl _) _

/-- A row of numbers. -/
def IRow (w : World) (a : Option Addr) (ks : List Int) : Prop :=
  ks = [] ∨ ∃ b off, a = some ⟨b, off, none⟩ ∧ b < w.heap.size ∧ ∀ (i : Nat) n, ks[i]? = some n → w.cell? ⟨b, off + i, none⟩ = some (.int .i64 n)
theorem IRow.later {w w' : World} {a : Option Addr} {ks : List Int} (h : IRow w a ks) (hb : Below w.heap.size w w') : IRow w' a ks := by
  rcases h with h | ⟨b, off, ha, hl, h⟩
  · exact Or.inl h
  · exact Or.inr ⟨b, off, ha, Nat.lt_of_lt_of_le hl hb.size, fun i n hn => ((bcell hb).1 _ _ hl).trans (h i n hn)⟩

/-- A row of 61 truth values at a block's begin. -/
structure Bits (w : World) (B : Nat) (H : List Bool) : Prop where
  len : H.length = 61
  blk : ∃ cur t, w.heap[B]? = some (.cells cur t (0, 0))
  cell : ∀ n, n < 61 → w.cell? ⟨B, n, none⟩ = some (.bool (H.getD n false))
theorem Bits.lt {w : World} {B : Nat} {H : List Bool} (h : Bits w B H) : B < w.heap.size := by
  obtain ⟨cur, t, hc⟩ := h.blk
  exact (Array.getElem?_eq_some_iff.1 hc).1
theorem Bits.free {w : World} {B : Nat} {H : List Bool} (h : Bits w B H) (n : Nat) : w.frozen? ⟨B, n, none⟩ = false := by
  obtain ⟨cur, t, hc⟩ := h.blk
  simp [World.frozen?, hc]
theorem Bits.same {w w' : World} {B : Nat} {H : List Bool} (h : Bits w B H) (e : w'.heap[B]? = w.heap[B]?) : Bits w' B H :=
  ⟨h.len, by rw [e]; exact h.blk, fun n hn => (World.cell?_of_block (a := ⟨B, n, none⟩) e).trans (h.cell n hn)⟩
theorem Bits.later {w w' : World} {B : Nat} {H : List Bool} (h : Bits w B H) (hb : Below w.heap.size w w') : Bits w' B H := h.same (hb.block _ h.lt)
theorem blk_set {w : World} {B b o : Nat} {v : Value} (h : ∃ cur t, w.heap[B]? = some (.cells cur t (0, 0))) : ∃ cur t, (w.setCell ⟨b, o, none⟩ v).heap[B]? = some (.cells cur t (0, 0)) := by
  obtain ⟨cur, t, hc⟩ := h
  by_cases e : b = B
  · subst e
    exact ⟨cur.setIfInBounds o v, t, by simp [World.setCell, Array.getElem?_modify, hc]⟩
  · exact ⟨cur, t, by simp [World.setCell, Array.getElem?_modify, hc, e]⟩
theorem Bits.other {w : World} {B b o : Nat} {H : List Bool} {v : Value} (h : Bits w B H) (hn : b ≠ B ∨ 61 ≤ o) : Bits (w.setCell ⟨b, o, none⟩ v) B H :=
  ⟨h.len, blk_set h.blk, fun n hn' => (cell_else (by omega)).trans (h.cell n hn')⟩
theorem Bits.put {w : World} {B n : Nat} {H : List Bool} (h : Bits w B H) (hn : n < 61) : Bits (w.setCell ⟨B, n, none⟩ (.bool true)) B (H.set n true) := by
  refine ⟨by rw [List.length_set]; exact h.len, blk_set h.blk, fun m hm => ?_⟩
  rw [set_getD H n m (by rw [h.len]; exact hn)]
  by_cases e : m = n
  · subst e
    rw [if_pos rfl]
    exact cell_same ⟨_, h.cell m hn⟩
  · rw [if_neg e, cell_else (by omega)]
    exact h.cell m hm

/-- How many truth values of a row are false, by the memory itself. -/
def isF : Option Value → Bool
  | some (.bool false) => true
  | _ => false
def falsesW (w : World) (B : Nat) : Nat := (List.range 61).countP (fun n => isF (w.cell? ⟨B, n, none⟩))
theorem countP_range : ∀ (m : Nat) (H : List Bool), H.length = m → (List.range m).countP (fun n => !H.getD n false) = H.count false
  | 0, H, h => by
    have : H = [] := List.length_eq_zero_iff.1 h
    subst this
    rfl
  | m + 1, H, h => by
    obtain ⟨H', b, rfl⟩ : ∃ H' b, H = H' ++ [b] := by
      rcases List.eq_nil_or_concat H with e | ⟨H', b, e⟩
      · subst e; simp at h
      · exact ⟨H', b, by simpa using e⟩
    have hl : H'.length = m := by simpa using h
    rw [List.range_succ, List.countP_append, List.count_append]
    have e1 : (List.range m).countP (fun n => !(H' ++ [b]).getD n false) = H'.count false := by
      rw [← countP_range m H' hl]
      apply List.countP_congr
      intro n hn
      have : n < H'.length := by rw [hl]; exact List.mem_range.1 hn
      simp [List.getElem?_append_left this]
    rw [e1]
    congr 1
    subst hl
    cases b <;> simp
theorem Bits.falses {w : World} {B : Nat} {H : List Bool} (h : Bits w B H) : falsesW w B = H.count false := by
  unfold falsesW
  rw [← countP_range 61 H h.len]
  apply List.countP_congr
  intro n hn
  rw [h.cell n (List.mem_range.1 hn)]
  cases H.getD n false <;> simp [isF]

end Go.Proofs.YtepnijocfilgoaaDoor
