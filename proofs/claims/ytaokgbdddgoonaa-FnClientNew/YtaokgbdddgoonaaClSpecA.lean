/-
  The specification's ClientOk: as the plain mathematics says; nothing that was in memory is turned.
-/
import Derived.Test.YtaokgbdddgoonaaCaIndex
import Derived.Test.YtaokgbdddgoonaaClOkJ
import Derived.Test.YtaokgbdddgoonaaClientTo
import Derived.Test.YtaokgbdddgoonaaSpServ
namespace Go.Proofs.Ytaokgbdddgoonaa
open Go.RowKit
attribute [local go_sem ↓] Go.wp_at_zero Go.wp_at_succ

/-- Where what one has for somebody stands. -/
def credAt (k : Int) (cs : List Cd) : Int := match firstC k cs with
  | none => -1
  | some j => j
theorem firstC_lt {k : Int} : ∀ {xs : List Cd} {j : Nat}, (∃ y ∈ xs.take j, y.s = k) → ∃ i, i < j ∧ firstC k xs = some i
  | [], j, h => by obtain ⟨y, hy, _⟩ := h; simp at hy
  | x :: xs, 0, h => by obtain ⟨y, hy, _⟩ := h; simp at hy
  | x :: xs, j + 1, h => by
    simp only [firstC]
    by_cases e : x.s = k
    · exact ⟨0, by omega, by simp [e]⟩
    · obtain ⟨y, hy, he⟩ := h
      simp only [List.take_succ_cons, List.mem_cons] at hy
      rcases hy with rfl | hy
      · exact absurd he e
      · obtain ⟨i, hi, hf⟩ := firstC_lt (xs := xs) (j := j) ⟨y, hy, he⟩
        exact ⟨i + 1, by omega, by simp [e, hf]⟩
theorem credAt_iff {cs : List Cd} {j : Nat} {x : Cd} (h : cs[j]? = some x) : credAt x.s cs = (j : Int) ↔ ¬ x.s ∈ (cs.take j).map (·.s) := by
  constructor
  · intro e hm
    obtain ⟨y, hy, he⟩ := List.mem_map.1 hm
    obtain ⟨i, hi, hf⟩ := firstC_lt (k := x.s) (xs := cs) (j := j) ⟨y, hy, he⟩
    unfold credAt at e
    rw [hf] at e
    simp at e
    omega
  · intro hn
    have e := firstC_some h rfl (fun y hy he => hn (List.mem_map.2 ⟨y, hy, he⟩))
    unfold credAt
    rw [e]

/-- A call, of a number that was told. -/
def okCa (num : Int) (x : Ca) : Bool := inB x.p 4 5 && inB x.k 10 60 && inB x.t 0 100 && inB x.n 1 num
end Go.Proofs.Ytaokgbdddgoonaa
