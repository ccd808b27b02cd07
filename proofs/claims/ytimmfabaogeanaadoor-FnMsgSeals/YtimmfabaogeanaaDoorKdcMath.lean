/-
  What may be remembered, and what is remembered then: plain mathematics.
-/
import Derived.Test.YtimmfabaogeanaaDoorSlEq
namespace Go.Proofs.YtimmfabaogeanaaDoor

/-- What is told of oneself, and ok. -/
def Sl.auth (s : Sl) : Bool := (s.t == 3) && s.ok
/-- It is fresh at a time. -/
def freshB (t now : Int) : Bool := decide (t ≤ now) && decide (now - t ≤ 3)
/-- Of the first so many each is told of oneself, and not there ahead. -/
def goodB (xs : List Sl) : Nat → Bool
  | 0 => true
  | j + 1 => goodB xs j && (match xs[j]? with | some s => s.auth && !inS s (xs.take j) | none => true)
/-- It may be what is remembered. -/
def cacheB (xs : List Sl) : Bool := goodB xs xs.length && decide (xs.length ≤ 20)
/-- What is fresh of it. -/
def keep (now : Int) (xs : List Sl) : List Sl := xs.filter (fun s => freshB s.b now)
/-- One more can be remembered. -/
def takes (now : Int) (xs : List Sl) (a : Sl) : Bool := freshB a.b now && !inS a (keep now xs) && !((keep now xs).length == 20)
/-- What is remembered then. -/
def withL (now : Int) (xs : List Sl) (a : Sl) : List Sl := if takes now xs a then keep now xs ++ [a] else keep now xs
/-- All arguments are ok. -/
def askB (now : Int) (xs : List Sl) (a : Sl) : Bool := cacheB xs && a.auth && inB now 0 100
/-- CacheWith: the list. -/
def cwL (now : Int) (xs : List Sl) (a : Sl) : List Sl := if askB now xs a then withL now xs a else []
/-- CacheWith: whether. -/
def cwB (now : Int) (xs : List Sl) (a : Sl) : Bool := askB now xs a && takes now xs a

theorem goodB_succ {xs : List Sl} {j : Nat} {s : Sl} (h : xs[j]? = some s) : goodB xs (j + 1) = (goodB xs j && (s.auth && !inS s (xs.take j))) := by
  simp [goodB, h]
theorem goodB_less {xs : List Sl} {j n : Nat} (h : goodB xs n = true) (hj : j ≤ n) : goodB xs j = true := by
  induction n with
  | zero => obtain rfl : j = 0 := by omega
            exact h
  | succ n ih =>
    by_cases e : j = n + 1
    · subst e; exact h
    · refine ih ?_ (by omega)
      simp only [goodB, Bool.and_eq_true] at h
      exact h.1
theorem goodB_false {xs : List Sl} {j n : Nat} (h : goodB xs j = false) (hj : j ≤ n) : goodB xs n = false := by
  cases e : goodB xs n
  · rfl
  · rw [goodB_less e hj] at h; cases h
theorem goodB_at {xs : List Sl} {j : Nat} {s : Sl} (h : goodB xs xs.length = true) (hs : xs[j]? = some s) : s.auth = true ∧ inS s (xs.take j) = false := by
  have hj := (List.getElem?_eq_some_iff.1 hs).1
  have := goodB_less h (show j + 1 ≤ xs.length by omega)
  rw [goodB_succ hs] at this
  simpa using (Bool.and_eq_true_iff.1 this).2
theorem cacheB_auth {xs : List Sl} (h : cacheB xs = true) : ∀ s ∈ xs, s.auth = true := by
  intro s hs
  obtain ⟨j, hj⟩ := List.getElem?_of_mem hs
  exact (goodB_at (by simp only [cacheB, Bool.and_eq_true] at h; exact h.1) hj).1
theorem cacheB_len {xs : List Sl} (h : cacheB xs = true) : xs.length ≤ 20 := by
  simp only [cacheB, Bool.and_eq_true, decide_eq_true_eq] at h
  exact h.2
theorem auth_parts {s : Sl} (h : s.auth = true) : s.t = 3 ∧ s.ok = true ∧ 10 ≤ s.k ∧ s.k ≤ 60 ∧ 1 ≤ s.a ∧ s.a ≤ 3 ∧ 0 ≤ s.b ∧ s.b ≤ 100 ∧ 1 ≤ s.c ∧ s.c ≤ 60 ∧ s.d = 0 ∧ s.e = 0 := by
  simp only [Sl.auth, Bool.and_eq_true, beq_iff_eq] at h
  obtain ⟨h1, h2⟩ := h
  refine ⟨h1, h2, ?_⟩
  simp only [Sl.ok, okB, h1] at h2
  simp [ok3, inB] at h2
  omega
theorem auth_of {s : Sl} (h1 : s.t = 3) (h2 : 10 ≤ s.k ∧ s.k ≤ 60) (h3 : 1 ≤ s.a ∧ s.a ≤ 3) (h4 : 0 ≤ s.b ∧ s.b ≤ 100) (h5 : 1 ≤ s.c ∧ s.c ≤ 60) (h6 : s.d = 0) (h7 : s.e = 0) : s.auth = true := by
  simp [Sl.auth, Sl.ok, okB, h1, ok3, inB, h2, h3, h4, h5, h6, h7]
theorem keep_len (now : Int) (xs : List Sl) : (keep now xs).length ≤ xs.length := List.length_filter_le _ _
theorem withL_len (now : Int) (xs : List Sl) (a : Sl) : (withL now xs a).length ≤ xs.length + 1 := by
  have := keep_len now xs
  unfold withL
  split
  · simp; omega
  · omega
theorem cwL_len (now : Int) (xs : List Sl) (a : Sl) : (cwL now xs a).length ≤ xs.length + 1 := by
  have := withL_len now xs a
  unfold cwL
  split
  · omega
  · simp
theorem inB_is {n lo hi : Int} : inB n lo hi = true ↔ lo ≤ n ∧ n ≤ hi := by simp [inB]
theorem freshB_iff {t now : Int} : freshB t now = true ↔ t ≤ now ∧ now - t ≤ 3 := by simp [freshB]
theorem askB_parts {now : Int} {xs : List Sl} {a : Sl} (h : askB now xs a = true) : cacheB xs = true ∧ a.auth = true ∧ 0 ≤ now ∧ now ≤ 100 := by
  simp only [askB, Bool.and_eq_true, inB_is] at h
  exact ⟨h.1.1, h.1.2, h.2.1, h.2.2⟩
/-- On the way: of the first so many what is fresh. -/
theorem keep_take {now : Int} {xs : List Sl} {j : Nat} {s : Sl} (h : xs[j]? = some s) : keep now (xs.take (j + 1)) = keep now (xs.take j) ++ (if freshB s.b now then [s] else []) := by
  unfold keep
  rw [List.take_add_one, h, Option.toList_some, List.filter_append]
  congr 1
  cases hb : freshB s.b now
  · rw [List.filter_cons_of_neg (by rw [hb]; decide)]; rfl
  · rw [List.filter_cons_of_pos (by exact hb)]; rfl

/-- One who gives tickets is ok. -/
def kdcB (n : Int) (xs : List Sl) : Bool := inB n 10 61 && cacheB xs

end Go.Proofs.YtimmfabaogeanaaDoor
