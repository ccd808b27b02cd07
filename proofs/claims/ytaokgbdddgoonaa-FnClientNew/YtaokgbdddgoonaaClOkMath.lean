/-
  When a user is ok, in plain mathematics.
-/
import Derived.Test.YtaokgbdddgoonaaClRow
namespace Go.Proofs.Ytaokgbdddgoonaa

/-- What is waited for: for whom one can ask, with numbers that ascend. -/
def okWs (num : Int) : Int → List Wn → Bool
  | _, [] => true
  | last, x :: xs => inB x.s 4 6 && decide (last < x.n) && decide (x.n ≤ num) && okWs num x.n xs
/-- Calls of numbers that ascend. -/
def okSs (num : Int) : Int → List Ca → Bool
  | _, [] => true
  | last, x :: xs => inB x.p 4 5 && inB x.k 10 60 && inB x.t 0 100 && decide (last < x.n) && decide (x.n ≤ num) && okSs num x.n xs
/-- What one has is such. -/
def okCd (x : Cd) : Bool := inB x.s 4 6 && inB x.k 10 60 && inB x.u 0 100 && x.x.ok
/-- Two calls are the same. -/
def sameC (x y : Ca) : Bool := x.p == y.p && x.k == y.k && x.t == y.t && x.n == y.n
/-- A call is among calls. -/
def inC (x : Ca) (xs : List Ca) : Bool := xs.any (sameC x)
/-- Each is among those, once. -/
def okMs (ss : List Ca) : List Ca → List Ca → Bool
  | _, [] => true
  | pre, x :: xs => inC x ss && !inC x pre && okMs ss (pre ++ [x]) xs
/-- For whom, in the order in which they came. -/
def ordS : List Int → List Cd → List Int
  | o, [] => o
  | o, x :: xs => ordS (if x.s ∈ o then o else o ++ [x.s]) xs
/-- Each is for another one. -/
def dupB : List Int → List Cd → Bool
  | _, [] => true
  | o, x :: xs => !decide (x.s ∈ o) && dupB (o ++ [x.s]) xs
/-- A user is ok. -/
def clientB (i n : Int) (ws : List Wn) (cs : List Cd) (ss ms : List Ca) : Bool :=
  inB i 1 3 && inB n 0 60 && okWs n 0 ws && (cs.all okCd && dupB [] cs) && okSs n 0 ss && okMs ss [] ms

theorem ca_eq {s u : Ca} (h : s.p = u.p ∧ s.k = u.k ∧ s.t = u.t ∧ s.n = u.n) : s = u := by
  obtain ⟨h1, h2, h3, h4⟩ := h
  cases s; cases u; simp_all
theorem sameC_iff {s u : Ca} : sameC s u = true ↔ s = u := by
  constructor
  · intro h
    simp only [sameC, Bool.and_eq_true, beq_iff_eq] at h
    obtain ⟨⟨⟨h1, h2⟩, h3⟩, h4⟩ := h
    exact ca_eq ⟨h1, h2, h3, h4⟩
  · rintro rfl
    simp [sameC]
theorem inC_iff {s : Ca} {xs : List Ca} : inC s xs = true ↔ s ∈ xs := by
  unfold inC
  rw [List.any_eq_true]
  constructor
  · rintro ⟨u, hu, h⟩
    rw [sameC_iff.1 h]; exact hu
  · intro h
    exact ⟨s, h, sameC_iff.2 rfl⟩
theorem inC_true {s : Ca} {xs : List Ca} (h : s ∈ xs) : inC s xs = true := inC_iff.2 h
theorem inC_false {s : Ca} {xs : List Ca} (h : ¬ s ∈ xs) : inC s xs = false := by
  cases e : inC s xs
  · rfl
  · exact absurd (inC_iff.1 e) h
theorem notC_take {xs : List Ca} {j : Nat} {s u : Ca} (hu : xs[j]? = some u) (h : ¬ s ∈ xs.take j) (hne : ¬ u = s) : ¬ s ∈ xs.take (j + 1) := by
  rw [List.take_add_one, hu, Option.toList_some, List.mem_append, List.mem_singleton]
  rintro (q | q)
  · exact h q
  · exact hne q.symm
theorem drop_at {X : Type} {xs : List X} {j : Nat} {x : X} (h : xs[j]? = some x) : xs.drop j = x :: xs.drop (j + 1) := by
  obtain ⟨hlt, rfl⟩ := List.getElem?_eq_some_iff.1 h
  exact List.drop_eq_getElem_cons hlt
theorem take_at {X : Type} {xs : List X} {j : Nat} {x : X} (h : xs[j]? = some x) : xs.take (j + 1) = xs.take j ++ [x] := by
  rw [List.take_add_one, h, Option.toList_some]

theorem ordS_len : ∀ (xs : List Cd) (o : List Int), (ordS o xs).length ≤ o.length + xs.length
  | [], o => by simp [ordS]
  | x :: xs, o => by
    simp only [ordS, List.length_cons]
    by_cases h : x.s ∈ o
    · have := ordS_len xs o
      simp only [h, if_true]
      omega
    · have := ordS_len xs (o ++ [x.s])
      simp only [h, if_false]
      simp only [List.length_append, List.length_cons, List.length_nil] at this
      omega
theorem ordS_dup : ∀ (xs : List Cd) (o : List Int), decide ((ordS o xs).length = o.length + xs.length) = dupB o xs
  | [], o => by simp [ordS, dupB]
  | x :: xs, o => by
    simp only [ordS, dupB, List.length_cons]
    by_cases h : x.s ∈ o
    · have := ordS_len xs o
      simp only [h, if_true, decide_true, Bool.not_true, Bool.false_and, decide_eq_false_iff_not]
      omega
    · have ih := ordS_dup xs (o ++ [x.s])
      simp only [h, if_false, decide_false, Bool.not_false, Bool.true_and]
      rw [← ih]
      congr 1
      simp only [List.length_append, List.length_cons, List.length_nil, eq_iff_iff]
      omega
/-- The first place of one for somebody. -/
def firstC (k : Int) : List Cd → Option Nat
  | [] => none
  | x :: xs => if x.s = k then some 0 else (firstC k xs).map (· + 1)
theorem firstC_none {k : Int} : ∀ {xs : List Cd}, firstC k xs = none ↔ ∀ x ∈ xs, x.s ≠ k
  | [] => by simp [firstC]
  | x :: xs => by
    simp only [firstC]
    split
    · rename_i h
      simp [h]
    · rename_i h
      simp only [Option.map_eq_none_iff, firstC_none, List.mem_cons, forall_eq_or_imp]
      exact ⟨fun q => ⟨h, q⟩, fun q => q.2⟩
theorem firstC_some {k : Int} : ∀ {xs : List Cd} {j : Nat} {x : Cd}, xs[j]? = some x → x.s = k → (∀ y ∈ xs.take j, y.s ≠ k) → firstC k xs = some j
  | [], _, _, h, _, _ => by simp at h
  | y :: ys, 0, x, h, he, _ => by
    simp at h; subst h
    simp [firstC, he]
  | y :: ys, j + 1, x, h, he, hn => by
    have h1 : y.s ≠ k := hn y (by simp)
    have ih := firstC_some (xs := ys) (j := j) (by simpa using h) he (fun z hz => hn z (by simp [hz]))
    simp [firstC, h1, ih]

end Go.Proofs.Ytaokgbdddgoonaa
