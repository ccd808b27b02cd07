/-
  What one has on the way, and what comes of a key that is learnt, or taken out of the queue; 61 truth values by value.
-/
import Derived.Test.YtepnijocfilgoaaDoorKnowLearn
import Derived.Test.YtepnijocfilgoaaDoorKnowHold
import Derived.Deep.MidRow
namespace Go.Proofs.YtepnijocfilgoaaDoor
open Go.RowKit

/-- 61 truth values as cells. -/
def bl (H : List Bool) : List Value := H.map Value.bool
theorem bl_len {H : List Bool} (h : H.length = 61) : (bl H).length = 61 := by rw [bl, List.length_map, h]
theorem bl_one (H : List Bool) : ∀ u ∈ bl H, u.oneCell' = true := by
  intro u hu
  obtain ⟨b, _, rfl⟩ := List.mem_map.1 hu
  rfl
theorem Bits.range {w : World} {B : Nat} {H : List Bool} (h : Bits w B H) : w.rangeAt B 0 (bl H) := by
  intro j v hv
  have hj : j < 61 := by have := (List.getElem?_eq_some_iff.1 hv).1; rw [bl_len h.len] at this; exact this
  rw [Nat.zero_add, h.cell j hj]
  unfold bl at hv
  rw [List.getElem?_map] at hv
  rw [List.getD_eq_getElem?_getD]
  cases hq : H[j]? with
  | none => rw [hq] at hv; cases hv
  | some b => rw [hq] at hv; simpa using hv
theorem infoArr : (Tryd.prog.info? 57).map (·.size) = some 61 := by kernel_rfl
theorem infoArr' {H : List Bool} (h : H.length = 61) : (Tryd.prog.info? 57).map (·.size) = some (bl H).length := by rw [bl_len h]; exact infoArr
theorem run_idx (H : List Bool) (hl : H.length = 61) (j : Nat) (hj : j < 61) (w : World) : (Instr.index 57 (.agg (bl H).toArray) (.int .i64 j)).run Tryd.prog w = .ok (.bool (H.getD j false)) w := by
  have e : (bl H)[j]? = some (.bool (H.getD j false)) := by
    unfold bl
    rw [List.getElem?_map, List.getElem?_eq_getElem (by omega), List.getD_eq_getElem?_getD, List.getElem?_eq_getElem (by omega)]
    rfl
  have hu : (underlying 57).run Tryd.prog w = .ok (.array 61 4) w := run_underlying Tryd.underlying57 w
  have hs : (sizeOf 4).run Tryd.prog w = .ok 1 w := by kernel_rfl
  simp [Instr.index, asIntOf, hu, hs, part, e]
  intro h
  omega

/-- On the way: who comes to keys; so many keys are gone through; one key is pending. -/
structure Cq (W : World) (ks : List Int) (xs : List Sl) (jk : Nat) (p : Int) (H : List Bool) (v : Value) (q : List Int) (w : World) : Prop where
  who : Who w W.heap.size H v q
  below : Below W.heap.size W w
  sound : ∀ n : Nat, n < 61 → H.getD n false = true → Come ks xs n
  had : ∀ (i : Nat) n, i < jk → ks[i]? = some n → 1 ≤ n → n ≤ 60 → H.getD n.toNat false = true
  wait : ∀ n : Nat, n < 61 → H.getD n false = true → (n : Int) ∈ q ∨ (n : Int) = p ∨ ∀ s ∈ xs, s.inn ≠ 0 → s.k = n → H.getD s.inn.toNat false = true
  rng : ∀ n ∈ q, 1 ≤ n ∧ n ≤ 60 ∧ Come ks xs n
  cost : 2 * H.count false + q.length ≤ 122
section
variable {W : World} {ks : List Int} {xs : List Sl} {jk : Nat} {p : Int} {H : List Bool} {v : Value} {q : List Int} {w : World}
theorem Cq.later {w' : World} (h : Cq W ks xs jk p H v q w) (hb : Below w.heap.size w w') : Cq W ks xs jk p H v q w' :=
  ⟨h.who.later hb, h.below.trans (hb.mono h.below.size), h.sound, h.had, h.wait, h.rng, h.cost⟩
theorem Cq.learn {w' : World} {H' : List Bool} {v' : Value} {q' : List Int} {key : Int} (h : Cq W ks xs jk p H v q w) (hw : Who w' W.heap.size H' v' q') (hL : Lr key H q H' q') (hb : Below W.heap.size w w') (hc : 1 ≤ key → key ≤ 60 → Come ks xs key) :
    Cq W ks xs jk p H' v' q' w' := by
  have hl := h.who.bits.len
  refine ⟨hw, h.below.trans hb, fun n hn hh => ?_, fun i n hi hn h1 h2 => hL.keep hl (h.had i n hi hn h1 h2), fun n hn hh => ?_, fun n hn => ?_, Nat.le_trans (hL.cost hl) h.cost⟩
  · rcases hL.only hl hh with q1 | ⟨q1, q2, q3⟩
    · exact h.sound n hn q1
    · subst q1
      exact hc q2 q3
  · rcases hL.new hl hh with q1 | q1
    · rcases h.wait n hn q1 with q2 | q2 | q2
      · exact Or.inl (hL.wait q2)
      · exact Or.inr (Or.inl q2)
      · exact Or.inr (Or.inr fun s hs h1 h2 => hL.keep hl (q2 s hs h1 h2))
    · exact Or.inl q1
  · rcases hL.memc hn with q1 | ⟨q1, q2, q3⟩
    · exact h.rng n q1
    · subst q3
      exact ⟨q1, q2, hc q1 q2⟩
theorem Cq.gone {key : Int} (h : Cq W ks xs jk p H v q w) (hk : ks[jk]? = some key) (hh : 1 ≤ key → key ≤ 60 → H.getD key.toNat false = true) : Cq W ks xs (jk + 1) p H v q w :=
  ⟨h.who, h.below, h.sound, fun i n hi hn h1 h2 => by
    by_cases e : i = jk
    · subst e
      obtain rfl : key = n := Option.some.inj (hk.symm.trans hn)
      exact hh h1 h2
    · exact h.had i n (by omega) hn h1 h2, h.wait, h.rng, h.cost⟩
theorem Cq.next {w' : World} {v' : Value} {k : Int} (h : Cq W ks xs jk 0 H v (k :: q) w) (hw : Who w' W.heap.size H v' q) (hb : Below W.heap.size w w') : Cq W ks xs jk k H v' q w' := by
  refine ⟨hw, h.below.trans hb, h.sound, h.had, fun n hn hh => ?_, fun n hn => h.rng n (List.mem_cons_of_mem _ hn), by have := h.cost; simp at this; omega⟩
  rcases h.wait n hn hh with q1 | q1 | q1
  · rcases List.mem_cons.1 q1 with q2 | q2
    · exact Or.inr (Or.inl q2)
    · exact Or.inl q2
  · have := (h.sound n hn hh).range
    omega
  · exact Or.inr (Or.inr q1)
theorem Cq.through (h : Cq W ks xs jk p H v q w) (hd : ∀ s ∈ xs, s.inn ≠ 0 → s.k = p → H.getD s.inn.toNat false = true) : Cq W ks xs jk 0 H v q w :=
  ⟨h.who, h.below, h.sound, h.had, fun n hn hh => by
    rcases h.wait n hn hh with q1 | q1 | q1
    · exact Or.inl q1
    · exact Or.inr (Or.inr fun s hs h1 h2 => hd s hs h1 (by omega))
    · exact Or.inr (Or.inr q1), h.rng, h.cost⟩
theorem Cq.right (h : Cq W ks xs ks.length 0 H v [] w) : Right ks xs H := by
  refine Right.of h.who.bits.len h.sound (fun n hn h1 h2 => ?_) (fun s hs hi hk => ?_)
  · obtain ⟨i, hi, he⟩ := List.mem_iff_getElem.1 hn
    exact h.had i n hi (by rw [List.getElem?_eq_getElem hi, he]) h1 h2
  · obtain ⟨k1, k2⟩ := s.key_of_inn hi
    rcases h.wait s.k.toNat (by omega) hk with q1 | q1 | q1
    · simp at q1
    · omega
    · exact q1 s hs hi (by omega)
end
/-- How much is left to do at most, by the memory itself. -/
def qlen : Option Value → Nat
  | some (.slice _ n _) => n
  | _ => 0
def leftW (w : World) (B : Nat) : Nat := 2 * falsesW w B + qlen (w.cell? ⟨B, 61, none⟩)
theorem Who.left {w : World} {B : Nat} {H : List Bool} {v : Value} {q : List Int} (h : Who w B H v q) : leftW w B = 2 * H.count false + q.length := by
  obtain ⟨a, c, rfl⟩ := h.que.len
  unfold leftW
  rw [h.bits.falses, h.cell]
  rfl

end Go.Proofs.YtepnijocfilgoaaDoor
