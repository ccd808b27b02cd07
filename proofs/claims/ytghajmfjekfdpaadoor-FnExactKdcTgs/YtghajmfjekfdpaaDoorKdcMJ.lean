/-
  What may be remembered, and what is remembered then: plain mathematics.
-/
import Derived.Test.YtghajmfjekfdpaaDoorSlEq
namespace Go.Proofs.YtghajmfjekfdpaaDoor

/-- What is told of oneself, and ok. -/
def Sl.auth (s : Sl) : Bool := (s.t == 3) && s.ok
/-- It is fresh at a time. -/
def freshB (t now : Int) : Bool := decide (t ≤ now) && decide (now - t ≤ 3)
/-- Of the first so many each is told of oneself, and not there ahead. -/
def goodB (xs : List Sl) : Nat → Bool
  | 0 => true
  | j + 1 => goodB xs j && (match xs[j]? with | some s => s.auth && !inS s (xs.take j) | none => true)
/-- It may be what is remembered. -/
def cacheB (xs : List Sl) : Bool := goodB xs xs.length && decide (xs.length ≤ 20)
/-- What is fresh of it. -/
def keep (now : Int) (xs : List Sl) : List Sl := xs.filter (fun s => freshB s.b now)
/-- One more can be remembered. -/
def takes (now : Int) (xs : List Sl) (a : Sl) : Bool := freshB a.b now && !inS a (keep now xs) && !((keep now xs).length == 20)
/-- What is remembered then. -/
def withL (now : Int) (xs : List Sl) (a : Sl) : List Sl := if takes now xs a then keep now xs ++ [a] else keep now xs
/-- All arguments are ok. -/
def askB (now : Int) (xs : List Sl) (a : Sl) : Bool := cacheB xs && a.auth && inB now 0 100
/-- CacheWith: the list. -/
def cwL (now : Int) (xs : List Sl) (a : Sl) : List Sl := if askB now xs a then withL now xs a else []
/-- CacheWith: whether. -/
def cwB (now : Int) (xs : List Sl) (a : Sl) : Bool := askB now xs a && takes now xs a

theorem goodB_succ {xs : List Sl} {j : Nat} {s : Sl} (h : xs[j]? = some s) : goodB xs (j + 1) = (goodB xs j && (s.auth && !inS s (xs.take j))) := by
  simp [goodB, h]
theorem goodB_less {xs : List Sl} {j n : Nat} (h : goodB xs n = true) (hj : j ≤ n) : goodB xs j = true := by
  induction n with
  | zero => obtain rfl : j = 0 := by omega
            exact h
  | succ n ih =>
    by_cases e : j = n + 1
    · subst e; exact h
    · refine ih ?_ (by omega)
      simp only [goodB, Bool.and_eq_true] at h
      exact h.1
theorem goodB_false {xs : List Sl} {j n : Nat} (h : goodB xs j = false) (hj : j ≤ n) : goodB xs n = false := by
  cases e : goodB xs n
  · rfl
  · rw [goodB_less e hj] at h; cases h
theorem goodB_at {xs : List Sl} {j : Nat} {s : Sl} (h : goodB xs xs.length = true) (hs : xs[j]? = some s) : s.auth = true ∧ inS s (xs.take j) = false := by
  have hj := (List.getElem?_eq_some_iff.1 hs).1
  have := goodB_less h (show j + 1 ≤ xs.length by omega)
  rw [goodB_succ hs] at this
  simpa using (Bool.and_eq_true_iff.1 this).2
theorem cacheB_auth {xs : List Sl} (h : cacheB xs = true) : ∀ s ∈ xs, s.auth = true := by
  intro s hs
  obtain ⟨j, hj⟩ := List.getElem?_of_mem hs
  exact (goodB_at (by simp only [cacheB, Bool.and_eq_true] at h; exact h.1) hj).1
theorem cacheB_len {xs : List Sl} (h : cacheB xs = true) : xs.length ≤ 20 := by
  simp only [cacheB, Bool.and_eq_true, decide_eq_true_eq] at h
  exact h.2
theorem auth_parts {s : Sl} (h : s.auth = true) : s.t = 3 ∧ s.ok = true ∧ 10 ≤ s.k ∧ s.k ≤ 60 ∧ 1 ≤ s.a ∧ s.a ≤ 3 ∧ 0 ≤ s.b ∧ s.b ≤ 100 ∧ 1 ≤ s.c ∧ s.c ≤ 60 ∧ s.d = 0 ∧ s.e = 0 := by
  simp only [Sl.auth, Bool.and_eq_true, beq_iff_eq] at h
  obtain ⟨h1, h2⟩ := h
  refine ⟨h1, h2, ?_⟩
  simp only [Sl.ok, okB, h1] at h2
  simp [ok3, inB] at h2
  omega
theorem auth_of {s : Sl} (h1 : s.t = 3) (h2 : 10 ≤ s.k ∧ s.k ≤ 60) (h3 : 1 ≤ s.a ∧ s.a ≤ 3) (h4 : 0 ≤ s.b ∧ s.b ≤ 100) (h5 : 1 ≤ s.c ∧ s.c ≤ 60) (h6 : s.d = 0) (h7 : s.e = 0) : s.auth = true := by
  simp [Sl.auth, Sl.ok, okB, h1, ok3, inB, h2, h3, h4, h5, h6, h7]
theorem keep_len (now : Int) (xs : List Sl) : (keep now xs).length ≤ xs.length := List.length_filter_le _ _
theorem withL_len (now : Int) (xs : List Sl) (a : Sl) : (withL now xs a).length ≤ xs.length + 1 := by
  have := keep_len now xs
  unfold withL
  split
  · simp; omega
  · omega
theorem cwL_len (now : Int) (xs : List Sl) (a : Sl) : (cwL now xs a).length ≤ xs.length + 1 := by
  have := withL_len now xs a
  unfold cwL
  split
  · omega
  · simp
theorem inB_is {n lo hi : Int} : inB n lo hi = true ↔ lo ≤ n ∧ n ≤ hi := by simp [inB]
theorem freshB_iff {t now : Int} : freshB t now = true ↔ t ≤ now ∧ now - t ≤ 3 := by simp [freshB]
theorem askB_parts {now : Int} {xs : List Sl} {a : Sl} (h : askB now xs a = true) : cacheB xs = true ∧ a.auth = true ∧ 0 ≤ now ∧ now ≤ 100 := by
  simp only [askB, Bool.and_eq_true, inB_is] at h
  exact ⟨h.1.1, h.1.2, h.2.1, h.2.2⟩
/-- On the way: of the first so many what is fresh. -/
theorem keep_take {now : Int} {xs : List Sl} {j : Nat} {s : Sl} (h : xs[j]? = some s) : keep now (xs.take (j + 1)) = keep now (xs.take j) ++ (if freshB s.b now then [s] else []) := by
  unfold keep
  rw [List.take_add_one, h, Option.toList_some, List.filter_append]
  congr 1
  cases hb : freshB s.b now
  · rw [List.filter_cons_of_neg (by rw [hb]; decide)]; rfl
  · rw [List.filter_cons_of_pos (by exact hb)]; rfl

/-- One who gives tickets is ok. -/
def kdcB (n : Int) (xs : List Sl) : Bool := inB n 10 61 && cacheB xs

end Go.Proofs.YtghajmfjekfdpaaDoor

namespace Go.Proofs.YtghajmfjekfdpaaDoor

theorem auth_at {s : Sl} (h : s.auth = true) {b : Int} (h0 : 0 ≤ b) (h1 : b ≤ 100) : (⟨s.k, s.t, s.a, b, s.c, s.d, s.e⟩ : Sl).auth = true := by
  obtain ⟨p1, _, p3, p4, p5, p6, _, _, p9, p10, p11, p12⟩ := auth_parts h
  exact auth_of p1 ⟨p3, p4⟩ ⟨p5, p6⟩ ⟨h0, h1⟩ ⟨p9, p10⟩ p11 p12
theorem auth_one {s : Sl} (h : s.auth = true) : (⟨s.k, s.t, s.a, s.b, 1, s.d, s.e⟩ : Sl).auth = true := by
  obtain ⟨p1, _, p3, p4, p5, p6, p7, p8, _, _, p11, p12⟩ := auth_parts h
  exact auth_of p1 ⟨p3, p4⟩ ⟨p5, p6⟩ ⟨p7, p8⟩ ⟨by show (1 : Int) ≤ 1; omega, by show (1 : Int) ≤ 60; omega⟩ p11 p12
theorem goodB_all {xs : List Sl} : ∀ {n : Nat}, goodB xs n = true ↔ ∀ (j : Nat) s, j < n → xs[j]? = some s → s.auth = true ∧ inS s (xs.take j) = false
  | 0 => by simp [goodB]
  | n + 1 => by
    constructor
    · intro h j s hj hs
      simp only [goodB, Bool.and_eq_true] at h
      by_cases e : j = n
      · subst e
        have h2 := h.2
        rw [hs] at h2
        simpa using h2
      · exact goodB_all.1 h.1 j s (by omega) hs
    · intro h
      simp only [goodB, Bool.and_eq_true]
      refine ⟨goodB_all.2 fun j s hj hs => h j s (by omega) hs, ?_⟩
      cases hs : xs[n]? with
      | none => rfl
      | some s =>
        have := h n s (by omega) hs
        simp [this.1, this.2]
theorem mem_take {xs : List Sl} {j : Nat} {s : Sl} : s ∈ xs.take j ↔ ∃ i, i < j ∧ xs[i]? = some s := by
  rw [List.mem_iff_getElem?]
  constructor
  · rintro ⟨i, hi⟩
    rw [List.getElem?_take] at hi
    split at hi
    · exact ⟨i, by assumption, hi⟩
    · cases hi
  · rintro ⟨i, hi, hs⟩
    exact ⟨i, by rw [List.getElem?_take, if_pos hi]; exact hs⟩
theorem good_iff {xs : List Sl} : goodB xs xs.length = true ↔ (∀ s ∈ xs, s.auth = true) ∧ xs.Pairwise (fun a b => a ≠ b) := by
  rw [goodB_all]
  constructor
  · intro h
    refine ⟨fun s hs => ?_, List.pairwise_iff_getElem.2 fun i j hi hj hij e => ?_⟩
    · obtain ⟨j, hj⟩ := List.getElem?_of_mem hs
      exact (h j s (List.getElem?_eq_some_iff.1 hj).1 hj).1
    · have h2 := (h j xs[j] hj (List.getElem?_eq_getElem hj)).2
      rw [inS_true (mem_take.2 ⟨i, hij, by rw [← e]; exact List.getElem?_eq_getElem hi⟩)] at h2
      cases h2
  · rintro ⟨h1, h2⟩ j s hj hs
    refine ⟨h1 s (List.mem_of_getElem? hs), inS_false fun hm => ?_⟩
    obtain ⟨i, hij, hi⟩ := mem_take.1 hm
    obtain ⟨a1, a2⟩ := List.getElem?_eq_some_iff.1 hi
    obtain ⟨b1, b2⟩ := List.getElem?_eq_some_iff.1 hs
    exact List.pairwise_iff_getElem.1 h2 i j a1 b1 hij (a2.trans b2.symm)
theorem cache_iff {xs : List Sl} : cacheB xs = true ↔ (∀ s ∈ xs, s.auth = true) ∧ xs.Pairwise (fun a b => a ≠ b) ∧ xs.length ≤ 20 := by
  rw [cacheB, Bool.and_eq_true, good_iff, decide_eq_true_eq]
  exact and_assoc
theorem keep_cache {now : Int} {xs : List Sl} (h : cacheB xs = true) : cacheB (keep now xs) = true := by
  obtain ⟨h1, h2, h3⟩ := cache_iff.1 h
  exact cache_iff.2 ⟨fun s hs => h1 s ((List.mem_filter.1 hs).1), h2.filter _, Nat.le_trans (keep_len now xs) h3⟩
theorem with_cache {now : Int} {xs : List Sl} {a : Sl} (h : cacheB xs = true) (ha : a.auth = true) : cacheB (withL now xs a) = true := by
  unfold withL
  cases ht : takes now xs a
  · simpa using keep_cache h
  · obtain ⟨h1, h2, h3⟩ := cache_iff.1 (keep_cache (now := now) h)
    simp only [takes, Bool.and_eq_true, Bool.not_eq_true', beq_eq_false_iff_ne] at ht
    rw [if_pos rfl]
    refine cache_iff.2 ⟨fun s hs => ?_, ?_, by simp; omega⟩
    · rcases List.mem_append.1 hs with q | q
      · exact h1 s q
      · rw [List.mem_singleton.1 q]; exact ha
    · refine List.pairwise_append.2 ⟨h2, List.pairwise_singleton _ _, fun u hu v hv e => ?_⟩
      rw [List.mem_singleton.1 hv] at e
      subst e
      rw [inS_true hu] at ht
      exact absurd ht.1.2 (by decide)
theorem cwB_parts {now : Int} {xs : List Sl} {a : Sl} (h : cwB now xs a = true) : cacheB xs = true ∧ a.auth = true ∧ 0 ≤ now ∧ now ≤ 100 ∧ takes now xs a = true ∧ cwL now xs a = keep now xs ++ [a] ∧ cacheB (keep now xs ++ [a]) = true := by
  simp only [cwB, Bool.and_eq_true] at h
  obtain ⟨q1, q2, q3, q4⟩ := askB_parts h.1
  have e : withL now xs a = keep now xs ++ [a] := by simp [withL, h.2]
  exact ⟨q1, q2, q3, q4, h.2, by rw [cwL, h.1, if_pos rfl, e], e ▸ with_cache q1 q2⟩
theorem takes_parts {now : Int} {xs : List Sl} {a : Sl} (h : takes now xs a = true) : a.b ≤ now ∧ now - a.b ≤ 3 ∧ ¬ a ∈ keep now xs ∧ (keep now xs).length ≠ 20 := by
  simp only [takes, Bool.and_eq_true, Bool.not_eq_true', beq_eq_false_iff_ne] at h
  obtain ⟨q1, q2⟩ := freshB_iff.1 h.1.1
  refine ⟨q1, q2, fun hm => ?_, h.2⟩
  rw [inS_true hm] at h
  exact absurd h.1.2 (by decide)
theorem mem_keep {now : Int} {xs : List Sl} {u : Sl} : u ∈ keep now xs ↔ u ∈ xs ∧ u.b ≤ now ∧ now - u.b ≤ 3 := by
  unfold keep
  rw [List.mem_filter, freshB_iff]
theorem not_in {now : Int} {xs : List Sl} {a : Sl} (h : takes now xs a = true) : inS a xs = false := by
  obtain ⟨q1, q2, q3, _⟩ := takes_parts h
  exact inS_false fun hm => q3 (mem_keep.2 ⟨hm, q1, q2⟩)
/-- What is in the list then. -/
theorem cwL_mem {now : Int} {xs : List Sl} {a u : Sl} (h : u ∈ cwL now xs a) : (u = a ∨ u ∈ xs) ∧ u.b ≤ now ∧ now - u.b ≤ 3 ∧ 0 ≤ now ∧ now ≤ 100 ∧ 0 ≤ u.b ∧ u.b ≤ 100 := by
  unfold cwL at h
  cases hq : askB now xs a
  · rw [hq] at h; simp at h
  · rw [hq, if_pos rfl] at h
    obtain ⟨q1, q2, q3, q4⟩ := askB_parts hq
    have key : (u = a ∨ u ∈ xs) ∧ u.b ≤ now ∧ now - u.b ≤ 3 := by
      unfold withL at h
      cases ht : takes now xs a
      · rw [ht] at h
        have := mem_keep.1 (by simpa using h)
        exact ⟨Or.inr this.1, this.2⟩
      · rw [ht, if_pos rfl] at h
        rcases List.mem_append.1 h with q | q
        · have := mem_keep.1 q
          exact ⟨Or.inr this.1, this.2⟩
        · rw [List.mem_singleton.1 q]
          obtain ⟨r1, r2, _⟩ := takes_parts ht
          exact ⟨Or.inl rfl, r1, r2⟩
    have ha : u.auth = true := by
      rcases key.1 with rfl | q
      · exact q2
      · exact cacheB_auth q1 u q
    have := auth_parts ha
    exact ⟨key.1, key.2.1, key.2.2, q3, q4, by omega, by omega⟩
theorem cwL_short (now : Int) (xs : List Sl) (a : Sl) : (cwL now xs a).length ≤ 20 := by
  unfold cwL
  cases hq : askB now xs a
  · simp
  · obtain ⟨q1, q2, _⟩ := askB_parts hq
    simpa using (cache_iff.1 (with_cache (now := now) q1 q2)).2.2
/-- Once more the same, at that time or later: it is not taken, and what is remembered is what was, as far as it is fresh. -/
theorem again {later : Int} {xs : List Sl} {a : Sl} (h : a ∈ xs) : takes later xs a = false := by
  cases ht : takes later xs a
  · rfl
  · have := not_in ht
    rw [inS_true h] at this
    cases this
theorem cw_again {later : Int} {xs : List Sl} {a : Sl} (h : a ∈ xs) : cwB later xs a = false := by
  rw [cwB, again h, Bool.and_false]
theorem cw_third {later : Int} {xs : List Sl} {a : Sl} (h : a ∈ xs) (hq : askB later xs a = true) : cwB later (cwL later xs a) a = false := by
  have e : cwL later xs a = keep later xs := by rw [cwL, hq, if_pos rfl, withL, again h]; rfl
  rw [e]
  cases hc : cwB later (keep later xs) a
  · rfl
  · obtain ⟨_, _, _, _, q5, _⟩ := cwB_parts hc
    obtain ⟨r1, r2, _⟩ := takes_parts q5
    have := not_in q5
    rw [inS_true (mem_keep.2 ⟨h, r1, r2⟩)] at this
    cases this
/-- Later all is forgotten, and just what is told then is remembered. -/
theorem cw_later {now : Int} {xs : List Sl} {y : Sl} (h : cacheB xs = true) (ho : ∀ u ∈ xs, u.b ≤ now) (hy : y.auth = true) (hb : y.b = now + 3 + 1) (h0 : 0 ≤ now) (h1 : now + 3 + 1 ≤ 100) : cwB (now + 3 + 1) xs y = true ∧ cwL (now + 3 + 1) xs y = [y] := by
  have hk : keep (now + 3 + 1) xs = [] := by
    unfold keep
    rw [List.filter_eq_nil_iff]
    intro u hu
    have := ho u hu
    rw [freshB_iff]
    omega
  have ht : takes (now + 3 + 1) xs y = true := by
    unfold takes
    rw [hk]
    have : freshB y.b (now + 3 + 1) = true := freshB_iff.2 ⟨by omega, by omega⟩
    rw [this]
    rfl
  have hq : askB (now + 3 + 1) xs y = true := by
    unfold askB
    rw [h, hy, inB_is.2 ⟨by omega, h1⟩]
    rfl
  refine ⟨by rw [cwB, hq, ht]; rfl, ?_⟩
  rw [cwL, hq, if_pos rfl, withL, ht, if_pos rfl, hk]
  rfl
/-- Twenty seals, told at a time. -/
def fullL (now : Int) (j : Nat) : List Sl := (List.range j).map fun i : Nat => ⟨10 + (i : Int), 3, 1, now, 60, 0, 0⟩
theorem fullL_len (now : Int) (j : Nat) : (fullL now j).length = j := by simp [fullL]
theorem fullL_succ (now : Int) (j : Nat) : fullL now (j + 1) = fullL now j ++ [⟨10 + (j : Int), 3, 1, now, 60, 0, 0⟩] := by
  simp [fullL, List.range_succ]
theorem fullL_mem {now : Int} {j : Nat} {u : Sl} (h : u ∈ fullL now j) : u.b = now ∧ u.c = 60 ∧ ∃ i, i < j ∧ u = ⟨10 + (i : Int), 3, 1, now, 60, 0, 0⟩ := by
  unfold fullL at h
  obtain ⟨i, hi, rfl⟩ := List.mem_map.1 h
  exact ⟨rfl, rfl, i, List.mem_range.1 hi, rfl⟩
theorem full_cache {now : Int} (h0 : 0 ≤ now) (h1 : now ≤ 100) : cacheB (fullL now 20) = true := by
  refine cache_iff.2 ⟨fun s hs => ?_, ?_, by rw [fullL_len]; omega⟩
  · obtain ⟨_, _, i, hi, rfl⟩ := fullL_mem hs
    exact auth_of rfl ⟨by simp; omega, by simp; omega⟩ ⟨by simp, by simp⟩ ⟨h0, h1⟩ ⟨by simp, by simp⟩ rfl rfl
  · unfold fullL
    rw [List.pairwise_map]
    refine List.Pairwise.imp ?_ (List.pairwise_lt_range (n := 20))
    intro i j hij e
    have : (10 : Int) + i = 10 + j := congrArg Sl.k e
    omega
theorem keep_all {now : Int} {xs : List Sl} (h : ∀ u ∈ xs, u.b = now) : keep now xs = xs := by
  unfold keep
  rw [List.filter_eq_self]
  intro u hu
  have := h u hu
  exact freshB_iff.2 ⟨by omega, by omega⟩
theorem cw_full {now : Int} {y : Sl} (hy : y.auth = true) (h0 : 0 ≤ now) (h1 : now ≤ 100) : cwB now (fullL now 20) y = false ∧ cwL now (fullL now 20) y = fullL now 20 := by
  have hk := keep_all (now := now) (xs := fullL now 20) fun u hu => (fullL_mem hu).1
  have ht : takes now (fullL now 20) y = false := by
    unfold takes
    rw [hk, fullL_len]
    simp
  have hq : askB now (fullL now 20) y = true := by
    unfold askB
    rw [full_cache h0 h1, hy, inB_is.2 ⟨h0, h1⟩]
    rfl
  refine ⟨by rw [cwB, ht, Bool.and_false], ?_⟩
  rw [cwL, hq, if_pos rfl, withL, ht, hk]
  rfl

end Go.Proofs.YtghajmfjekfdpaaDoor
