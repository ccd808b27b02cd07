/-
  What is given, and to whom: plain mathematics.
-/
import Derived.Test.YtghajmfjekfdpaaDoorMarksJ
import Derived.Test.YtghajmfjekfdpaaDoorMsgJ
import Derived.Test.YtghajmfjekfdpaaDoorNRowJ
import Derived.Test.YtghajmfjekfdpaaDoorBaseJ
namespace Go.Proofs.YtghajmfjekfdpaaDoor

/-- A word in form asks so, and there is a key left. -/
def canB (kind n m cl sv nc : Int) (ys : List Sl) : Bool := (m == kind) && msgB m cl sv nc ys && decide (n ≤ 60)
/-- A ticket. -/
def tick (user peer held since until_ : Int) : Sl := ⟨peer, 1, user, peer, held, since, until_⟩
/-- A part. -/
def part (key peer held num until_ : Int) : Sl := ⟨key, 2, peer, held, num, until_, 0⟩
/-- A first ticket lasts so long. -/
def untilA (now : Int) : Int := if now + 12 < 100 then now + 12 else 100
/-- All arguments are ok. -/
def okA (n : Int) (xs : List Sl) (now : Int) : Bool := kdcB n xs && inB now 0 100
/-- KdcAs: whether. -/
def asB (n : Int) (xs : List Sl) (m cl sv nc : Int) (ys : List Sl) (now : Int) : Bool := okA n xs now && canB 1 n m cl sv nc ys
/-- KdcAs: the next key. -/
def asN (n : Int) (xs : List Sl) (m cl sv nc : Int) (ys : List Sl) (now : Int) : Int := if okA n xs now then (if canB 1 n m cl sv nc ys then n + 1 else n) else 0
/-- KdcAs: what is remembered. -/
def asX (n : Int) (xs : List Sl) (now : Int) : List Sl := if okA n xs now then xs else []
/-- KdcAs: the word's seals. -/
def asY (n : Int) (xs : List Sl) (m cl sv nc : Int) (ys : List Sl) (now : Int) : List Sl := if asB n xs m cl sv nc ys now then [tick cl 6 n now (untilA now), part cl 6 n nc (untilA now)] else []
/-- A number, if it is so. -/
def ifN (b : Bool) (n : Int) : Int := if b then n else 0

/-- One more, if it is so. -/
def upN (b : Bool) (n : Int) : Int := if b then n + 1 else n
/-- A list, if it is so. -/
def ifL (b : Bool) (l : List Sl) : List Sl := if b then l else []

end Go.Proofs.YtghajmfjekfdpaaDoor

namespace Go.Proofs.YtghajmfjekfdpaaDoor

theorem auth_at {s : Sl} (h : s.auth = true) {b : Int} (h0 : 0 ≤ b) (h1 : b ≤ 100) : (⟨s.k, s.t, s.a, b, s.c, s.d, s.e⟩ : Sl).auth = true := by
  obtain ⟨p1, _, p3, p4, p5, p6, _, _, p9, p10, p11, p12⟩ := auth_parts h
  exact auth_of p1 ⟨p3, p4⟩ ⟨p5, p6⟩ ⟨h0, h1⟩ ⟨p9, p10⟩ p11 p12
theorem auth_one {s : Sl} (h : s.auth = true) : (⟨s.k, s.t, s.a, s.b, 1, s.d, s.e⟩ : Sl).auth = true := by
  obtain ⟨p1, _, p3, p4, p5, p6, p7, p8, _, _, p11, p12⟩ := auth_parts h
  exact auth_of p1 ⟨p3, p4⟩ ⟨p5, p6⟩ ⟨p7, p8⟩ ⟨by show (1 : Int) ≤ 1; omega, by show (1 : Int) ≤ 60; omega⟩ p11 p12
theorem goodB_all {xs : List Sl} : ∀ {n : Nat}, goodB xs n = true ↔ ∀ (j : Nat) s, j < n → xs[j]? = some s → s.auth = true ∧ inS s (xs.take j) = false
  | 0 => by simp [goodB]
  | n + 1 => by
    constructor
    · intro h j s hj hs
      simp only [goodB, Bool.and_eq_true] at h
      by_cases e : j = n
      · subst e
        have h2 := h.2
        rw [hs] at h2
        simpa using h2
      · exact goodB_all.1 h.1 j s (by omega) hs
    · intro h
      simp only [goodB, Bool.and_eq_true]
      refine ⟨goodB_all.2 fun j s hj hs => h j s (by omega) hs, ?_⟩
      cases hs : xs[n]? with
      | none => rfl
      | some s =>
        have := h n s (by omega) hs
        simp [this.1, this.2]
theorem mem_take {xs : List Sl} {j : Nat} {s : Sl} : s ∈ xs.take j ↔ ∃ i, i < j ∧ xs[i]? = some s := by
  rw [List.mem_iff_getElem?]
  constructor
  · rintro ⟨i, hi⟩
    rw [List.getElem?_take] at hi
    split at hi
    · exact ⟨i, by assumption, hi⟩
    · cases hi
  · rintro ⟨i, hi, hs⟩
    exact ⟨i, by rw [List.getElem?_take, if_pos hi]; exact hs⟩
theorem good_iff {xs : List Sl} : goodB xs xs.length = true ↔ (∀ s ∈ xs, s.auth = true) ∧ xs.Pairwise (fun a b => a ≠ b) := by
  rw [goodB_all]
  constructor
  · intro h
    refine ⟨fun s hs => ?_, List.pairwise_iff_getElem.2 fun i j hi hj hij e => ?_⟩
    · obtain ⟨j, hj⟩ := List.getElem?_of_mem hs
      exact (h j s (List.getElem?_eq_some_iff.1 hj).1 hj).1
    · have h2 := (h j xs[j] hj (List.getElem?_eq_getElem hj)).2
      rw [inS_true (mem_take.2 ⟨i, hij, by rw [← e]; exact List.getElem?_eq_getElem hi⟩)] at h2
      cases h2
  · rintro ⟨h1, h2⟩ j s hj hs
    refine ⟨h1 s (List.mem_of_getElem? hs), inS_false fun hm => ?_⟩
    obtain ⟨i, hij, hi⟩ := mem_take.1 hm
    obtain ⟨a1, a2⟩ := List.getElem?_eq_some_iff.1 hi
    obtain ⟨b1, b2⟩ := List.getElem?_eq_some_iff.1 hs
    exact List.pairwise_iff_getElem.1 h2 i j a1 b1 hij (a2.trans b2.symm)
theorem cache_iff {xs : List Sl} : cacheB xs = true ↔ (∀ s ∈ xs, s.auth = true) ∧ xs.Pairwise (fun a b => a ≠ b) ∧ xs.length ≤ 20 := by
  rw [cacheB, Bool.and_eq_true, good_iff, decide_eq_true_eq]
  exact and_assoc
theorem keep_cache {now : Int} {xs : List Sl} (h : cacheB xs = true) : cacheB (keep now xs) = true := by
  obtain ⟨h1, h2, h3⟩ := cache_iff.1 h
  exact cache_iff.2 ⟨fun s hs => h1 s ((List.mem_filter.1 hs).1), h2.filter _, Nat.le_trans (keep_len now xs) h3⟩
theorem with_cache {now : Int} {xs : List Sl} {a : Sl} (h : cacheB xs = true) (ha : a.auth = true) : cacheB (withL now xs a) = true := by
  unfold withL
  cases ht : takes now xs a
  · simpa using keep_cache h
  · obtain ⟨h1, h2, h3⟩ := cache_iff.1 (keep_cache (now := now) h)
    simp only [takes, Bool.and_eq_true, Bool.not_eq_true', beq_eq_false_iff_ne] at ht
    rw [if_pos rfl]
    refine cache_iff.2 ⟨fun s hs => ?_, ?_, by simp; omega⟩
    · rcases List.mem_append.1 hs with q | q
      · exact h1 s q
      · rw [List.mem_singleton.1 q]; exact ha
    · refine List.pairwise_append.2 ⟨h2, List.pairwise_singleton _ _, fun u hu v hv e => ?_⟩
      rw [List.mem_singleton.1 hv] at e
      subst e
      rw [inS_true hu] at ht
      exact absurd ht.1.2 (by decide)
theorem cwB_parts {now : Int} {xs : List Sl} {a : Sl} (h : cwB now xs a = true) : cacheB xs = true ∧ a.auth = true ∧ 0 ≤ now ∧ now ≤ 100 ∧ takes now xs a = true ∧ cwL now xs a = keep now xs ++ [a] ∧ cacheB (keep now xs ++ [a]) = true := by
  simp only [cwB, Bool.and_eq_true] at h
  obtain ⟨q1, q2, q3, q4⟩ := askB_parts h.1
  have e : withL now xs a = keep now xs ++ [a] := by simp [withL, h.2]
  exact ⟨q1, q2, q3, q4, h.2, by rw [cwL, h.1, if_pos rfl, e], e ▸ with_cache q1 q2⟩
theorem takes_parts {now : Int} {xs : List Sl} {a : Sl} (h : takes now xs a = true) : a.b ≤ now ∧ now - a.b ≤ 3 ∧ ¬ a ∈ keep now xs ∧ (keep now xs).length ≠ 20 := by
  simp only [takes, Bool.and_eq_true, Bool.not_eq_true', beq_eq_false_iff_ne] at h
  obtain ⟨q1, q2⟩ := freshB_iff.1 h.1.1
  refine ⟨q1, q2, fun hm => ?_, h.2⟩
  rw [inS_true hm] at h
  exact absurd h.1.2 (by decide)
theorem mem_keep {now : Int} {xs : List Sl} {u : Sl} : u ∈ keep now xs ↔ u ∈ xs ∧ u.b ≤ now ∧ now - u.b ≤ 3 := by
  unfold keep
  rw [List.mem_filter, freshB_iff]
theorem not_in {now : Int} {xs : List Sl} {a : Sl} (h : takes now xs a = true) : inS a xs = false := by
  obtain ⟨q1, q2, q3, _⟩ := takes_parts h
  exact inS_false fun hm => q3 (mem_keep.2 ⟨hm, q1, q2⟩)
/-- What is in the list then. -/
theorem cwL_mem {now : Int} {xs : List Sl} {a u : Sl} (h : u ∈ cwL now xs a) : (u = a ∨ u ∈ xs) ∧ u.b ≤ now ∧ now - u.b ≤ 3 ∧ 0 ≤ now ∧ now ≤ 100 ∧ 0 ≤ u.b ∧ u.b ≤ 100 := by
  unfold cwL at h
  cases hq : askB now xs a
  · rw [hq] at h; simp at h
  · rw [hq, if_pos rfl] at h
    obtain ⟨q1, q2, q3, q4⟩ := askB_parts hq
    have key : (u = a ∨ u ∈ xs) ∧ u.b ≤ now ∧ now - u.b ≤ 3 := by
      unfold withL at h
      cases ht : takes now xs a
      · rw [ht] at h
        have := mem_keep.1 (by simpa using h)
        exact ⟨Or.inr this.1, this.2⟩
      · rw [ht, if_pos rfl] at h
        rcases List.mem_append.1 h with q | q
        · have := mem_keep.1 q
          exact ⟨Or.inr this.1, this.2⟩
        · rw [List.mem_singleton.1 q]
          obtain ⟨r1, r2, _⟩ := takes_parts ht
          exact ⟨Or.inl rfl, r1, r2⟩
    have ha : u.auth = true := by
      rcases key.1 with rfl | q
      · exact q2
      · exact cacheB_auth q1 u q
    have := auth_parts ha
    exact ⟨key.1, key.2.1, key.2.2, q3, q4, by omega, by omega⟩
theorem cwL_short (now : Int) (xs : List Sl) (a : Sl) : (cwL now xs a).length ≤ 20 := by
  unfold cwL
  cases hq : askB now xs a
  · simp
  · obtain ⟨q1, q2, _⟩ := askB_parts hq
    simpa using (cache_iff.1 (with_cache (now := now) q1 q2)).2.2
/-- Once more the same, at that time or later: it is not taken, and what is remembered is what was, as far as it is fresh. -/
theorem again {later : Int} {xs : List Sl} {a : Sl} (h : a ∈ xs) : takes later xs a = false := by
  cases ht : takes later xs a
  · rfl
  · have := not_in ht
    rw [inS_true h] at this
    cases this
theorem cw_again {later : Int} {xs : List Sl} {a : Sl} (h : a ∈ xs) : cwB later xs a = false := by
  rw [cwB, again h, Bool.and_false]
theorem cw_third {later : Int} {xs : List Sl} {a : Sl} (h : a ∈ xs) (hq : askB later xs a = true) : cwB later (cwL later xs a) a = false := by
  have e : cwL later xs a = keep later xs := by rw [cwL, hq, if_pos rfl, withL, again h]; rfl
  rw [e]
  cases hc : cwB later (keep later xs) a
  · rfl
  · obtain ⟨_, _, _, _, q5, _⟩ := cwB_parts hc
    obtain ⟨r1, r2, _⟩ := takes_parts q5
    have := not_in q5
    rw [inS_true (mem_keep.2 ⟨h, r1, r2⟩)] at this
    cases this
/-- Later all is forgotten, and just what is told then is remembered. -/
theorem cw_later {now : Int} {xs : List Sl} {y : Sl} (h : cacheB xs = true) (ho : ∀ u ∈ xs, u.b ≤ now) (hy : y.auth = true) (hb : y.b = now + 3 + 1) (h0 : 0 ≤ now) (h1 : now + 3 + 1 ≤ 100) : cwB (now + 3 + 1) xs y = true ∧ cwL (now + 3 + 1) xs y = [y] := by
  have hk : keep (now + 3 + 1) xs = [] := by
    unfold keep
    rw [List.filter_eq_nil_iff]
    intro u hu
    have := ho u hu
    rw [freshB_iff]
    omega
  have ht : takes (now + 3 + 1) xs y = true := by
    unfold takes
    rw [hk]
    have : freshB y.b (now + 3 + 1) = true := freshB_iff.2 ⟨by omega, by omega⟩
    rw [this]
    rfl
  have hq : askB (now + 3 + 1) xs y = true := by
    unfold askB
    rw [h, hy, inB_is.2 ⟨by omega, h1⟩]
    rfl
  refine ⟨by rw [cwB, hq, ht]; rfl, ?_⟩
  rw [cwL, hq, if_pos rfl, withL, ht, if_pos rfl, hk]
  rfl
/-- Twenty seals, told at a time. -/
def fullL (now : Int) (j : Nat) : List Sl := (List.range j).map fun i : Nat => ⟨10 + (i : Int), 3, 1, now, 60, 0, 0⟩
theorem fullL_len (now : Int) (j : Nat) : (fullL now j).length = j := by simp [fullL]
theorem fullL_succ (now : Int) (j : Nat) : fullL now (j + 1) = fullL now j ++ [⟨10 + (j : Int), 3, 1, now, 60, 0, 0⟩] := by
  simp [fullL, List.range_succ]
theorem fullL_mem {now : Int} {j : Nat} {u : Sl} (h : u ∈ fullL now j) : u.b = now ∧ u.c = 60 ∧ ∃ i, i < j ∧ u = ⟨10 + (i : Int), 3, 1, now, 60, 0, 0⟩ := by
  unfold fullL at h
  obtain ⟨i, hi, rfl⟩ := List.mem_map.1 h
  exact ⟨rfl, rfl, i, List.mem_range.1 hi, rfl⟩
theorem full_cache {now : Int} (h0 : 0 ≤ now) (h1 : now ≤ 100) : cacheB (fullL now 20) = true := by
  refine cache_iff.2 ⟨fun s hs => ?_, ?_, by rw [fullL_len]; omega⟩
  · obtain ⟨_, _, i, hi, rfl⟩ := fullL_mem hs
    exact auth_of rfl ⟨by simp; omega, by simp; omega⟩ ⟨by simp, by simp⟩ ⟨h0, h1⟩ ⟨by simp, by simp⟩ rfl rfl
  · unfold fullL
    rw [List.pairwise_map]
    refine List.Pairwise.imp ?_ (List.pairwise_lt_range (n := 20))
    intro i j hij e
    have : (10 : Int) + i = 10 + j := congrArg Sl.k e
    omega
theorem keep_all {now : Int} {xs : List Sl} (h : ∀ u ∈ xs, u.b = now) : keep now xs = xs := by
  unfold keep
  rw [List.filter_eq_self]
  intro u hu
  have := h u hu
  exact freshB_iff.2 ⟨by omega, by omega⟩
theorem cw_full {now : Int} {y : Sl} (hy : y.auth = true) (h0 : 0 ≤ now) (h1 : now ≤ 100) : cwB now (fullL now 20) y = false ∧ cwL now (fullL now 20) y = fullL now 20 := by
  have hk := keep_all (now := now) (xs := fullL now 20) fun u hu => (fullL_mem hu).1
  have ht : takes now (fullL now 20) y = false := by
    unfold takes
    rw [hk, fullL_len]
    simp
  have hq : askB now (fullL now 20) y = true := by
    unfold askB
    rw [full_cache h0 h1, hy, inB_is.2 ⟨h0, h1⟩]
    rfl
  refine ⟨by rw [cwB, ht, Bool.and_false], ?_⟩
  rw [cwL, hq, if_pos rfl, withL, ht, hk]
  rfl

end Go.Proofs.YtghajmfjekfdpaaDoor

namespace Go.Proofs.YtghajmfjekfdpaaDoor
open Go.RowKit
attribute [local go_sem ↓] Go.wp_at_zero Go.wp_at_succ

/-- The ring at a block: from a place on, these seals. -/
structure Ring (w : World) (R f : Nat) (xs : List Sl) : Prop where
  blk : ∃ cur, w.heap[R]? = some (.cells cur 125 (0, 0)) ∧ cur.size = 142
  hf : f < 20
  len : xs.length ≤ 20
  first : w.cell? ⟨R, 140, none⟩ = some (.int .i64 f)
  count : w.cell? ⟨R, 141, none⟩ = some (.int .i64 xs.length)
  seals : ∀ (i : Nat) s, xs[i]? = some s → SealAt w R ((f + i) % 20 * 7) s
theorem Ring.lt {w : World} {R f : Nat} {xs : List Sl} (h : Ring w R f xs) : R < w.heap.size := by
  obtain ⟨cur, hc, _⟩ := h.blk
  exact (Array.getElem?_eq_some_iff.1 hc).1
theorem Ring.cell {w : World} {R f : Nat} {xs : List Sl} (h : Ring w R f xs) {o : Nat} (ho : o < 142) : (∃ v, w.cell? ⟨R, o, none⟩ = some v) ∧ w.frozen? ⟨R, o, none⟩ = false := by
  obtain ⟨cur, hc, hn⟩ := h.blk
  have ho' : o < cur.size := by omega
  exact ⟨⟨cur[o], by simp [World.cell?, hc, ho']⟩, by simp [World.frozen?, hc]⟩
theorem Ring.same {w w' : World} {R f : Nat} {xs : List Sl} (h : Ring w R f xs) (e : w'.heap[R]? = w.heap[R]?) : Ring w' R f xs := by
  have hc : ∀ o, w'.cell? ⟨R, o, none⟩ = w.cell? ⟨R, o, none⟩ := fun o => World.cell?_of_block (a := ⟨R, o, none⟩) e
  refine ⟨by rw [e]; exact h.blk, h.hf, h.len, (hc _).trans h.first, (hc _).trans h.count, fun i s hs => ?_⟩
  have d := h.seals i s hs
  exact ⟨(hc _).trans d.c0, (hc _).trans d.c1, (hc _).trans d.c2, (hc _).trans d.c3, (hc _).trans d.c4, (hc _).trans d.c5, (hc _).trans d.c6⟩
theorem Ring.later {w w' : World} {R f : Nat} {xs : List Sl} (h : Ring w R f xs) (hb : Below w.heap.size w w') : Ring w' R f xs := h.same (hb.block _ h.lt)

theorem cells7r {w : World} {B t : Nat} {a0 a1 a2 a3 a4 a5 a6 : Value} (h : w.heap[B]? = some (.cells #[a0, a1, a2, a3, a4, a5, a6] t (0, 0))) :
    w.cell? ⟨B, 0, none⟩ = some a0 ∧ w.cell? ⟨B, 1, none⟩ = some a1 ∧ w.cell? ⟨B, 2, none⟩ = some a2 ∧ w.cell? ⟨B, 3, none⟩ = some a3 ∧ w.cell? ⟨B, 4, none⟩ = some a4 ∧ w.cell? ⟨B, 5, none⟩ = some a5 ∧ w.cell? ⟨B, 6, none⟩ = some a6 ∧ (∀ i, w.frozen? ⟨B, i, none⟩ = false) := by
  refine ⟨?_, ?_, ?_, ?_, ?_, ?_, ?_, fun i => ?_⟩
  all_goals simp [World.cell?, World.frozen?, h]
theorem set_grown {W w : World} {b o : Nat} {v : Value} (g : W.grownBy w (some b)) : W.grownBy (w.setCell ⟨b, o, none⟩ v) (some b) :=
  ⟨g.os, g.tape, g.output, by simpa using g.size, fun k hk hne => by
    rw [← g.block k hk hne]
    have : ¬ b = k := fun e => hne (by rw [e])
    simp [World.setCell, Array.getElem?_modify, this]⟩
theorem put7_grown {W w : World} {b o : Nat} {s : Sl} (g : W.grownBy w (some b)) : W.grownBy (put7 w b o s) (some b) :=
  set_grown (set_grown (set_grown (set_grown (set_grown (set_grown (set_grown g))))))
theorem put7_aside {W w : World} {b o : Nat} {s : Sl} {r : Option Nat} (g : W.grownBy w r) (hb : W.heap.size ≤ b) : W.grownBy (put7 w b o s) r :=
  have hh : Below b w (put7 w b o s) := put7_below (Below.refl _ _) (Nat.le_refl _)
  ⟨hh.os.trans g.os, hh.tape.trans g.tape, hh.output.trans g.output, Nat.le_trans g.size hh.size, fun k hk hne => (put7_heap (show b ≠ k by omega)).trans (g.block k hk hne)⟩
theorem Ring.free {w : World} {R f : Nat} {xs : List Sl} (h : Ring w R f xs) {i : Nat} (hi : i < xs.length) (hl : xs.length < 20) : (f + i) % 20 ≠ (f + xs.length) % 20 := by
  have := h.hf
  omega
theorem Ring.put {w : World} {R f J : Nat} {xs : List Sl} (h : Ring w R f xs) (hl : xs.length < 20) (hJ : J = (f + xs.length) % 20) (s : Sl) : Ring (put7 w R (J * 7) s) R f xs ∧ SealAt (put7 w R (J * 7) s) R (J * 7) s := by
  have hJ20 : J < 20 := by omega
  refine ⟨⟨put7_row h.blk, h.hf, h.len, (put7_else (by omega)).trans h.first, (put7_else (by omega)).trans h.count, fun i u hu => ?_⟩, put7_at fun q hq => (h.cell (by omega)).1⟩
  have hi := (List.getElem?_eq_some_iff.1 hu).1
  have hne := h.free hi hl
  have d := h.seals i u hu
  have hlt : (f + i) % 20 < 20 := Nat.mod_lt _ (by decide)
  generalize (f + i) % 20 = I at d hne hlt ⊢
  exact ⟨(put7_else (by omega)).trans d.c0, (put7_else (by omega)).trans d.c1, (put7_else (by omega)).trans d.c2, (put7_else (by omega)).trans d.c3, (put7_else (by omega)).trans d.c4, (put7_else (by omega)).trans d.c5, (put7_else (by omega)).trans d.c6⟩
theorem SealAt.side {w : World} {b o b' o' : Nat} {v : Value} {s : Sl} (d : SealAt w b o s) (h : b' ≠ b ∨ o' < o ∨ o + 6 < o') : SealAt (w.setCell ⟨b', o', none⟩ v) b o s :=
  ⟨(cell_else (by omega)).trans d.c0, (cell_else (by omega)).trans d.c1, (cell_else (by omega)).trans d.c2, (cell_else (by omega)).trans d.c3, (cell_else (by omega)).trans d.c4, (cell_else (by omega)).trans d.c5, (cell_else (by omega)).trans d.c6⟩
theorem Ring.more {w : World} {R f J : Nat} {xs : List Sl} {s : Sl} (h : Ring w R f xs) (hl : xs.length < 20) (hJ : J = (f + xs.length) % 20) (hs : SealAt w R (J * 7) s) : Ring (w.setCell ⟨R, 141, none⟩ (.int .i64 ((xs.length : Int) + 1))) R f (xs ++ [s]) := by
  refine ⟨row_set h.blk, h.hf, by simp; omega, (cell_else (by omega)).trans h.first, ?_, fun i u hu => ?_⟩
  · rw [cell_same ⟨_, h.count⟩]; simp
  · by_cases e : i < xs.length
    · rw [List.getElem?_append_left e] at hu
      exact (h.seals i u hu).side (by omega)
    · rw [List.getElem?_append_right (by omega)] at hu
      have e2 : i = xs.length := by
        have := (List.getElem?_eq_some_iff.1 hu).1
        simp at this; omega
      subst e2
      simp at hu
      subst hu
      rw [← hJ]
      exact hs.side (by omega)

set_option maxHeartbeats 2000000 in
set_option maxRecDepth 100000 in
theorem push_any (R f : Nat) (xs : List Sl) (s : Sl) (w : World) (h : Ring w R f xs) (hl : xs.length < 20) :
    Calls Tryd.prog 93 #[.pointer (some ⟨R, 0, none⟩), .agg #[.int .i64 s.k, .int .i64 s.t, .int .i64 s.a, .int .i64 s.b, .int .i64 s.c, .int .i64 s.d, .int .i64 s.e]] w fun r w' => r = .returned (.tuple #[]) ∧ Ring w' R f (xs ++ [s]) ∧ w.grownBy w' (some R) := by
  go_enter Tryd.func93, Tryd.ntmps93
  obtain ⟨J, hJ⟩ : ∃ J, J = (f + xs.length) % 20 := ⟨_, rfl⟩
  have hJ20 : J < 20 := by omega
  have HJ : Hid (J = (f + xs.length) % 20) := hJ
  have hf := h.hf
  clear hJ
  obtain ⟨WD, hWD⟩ : ∃ WD, WD = (w.alloc (.cells #[.int .i64 s.k, .int .i64 s.t, .int .i64 s.a, .int .i64 s.b, .int .i64 s.c, .int .i64 s.d, .int .i64 s.e] 64)).drew := ⟨_, rfl⟩
  have HS : WD.cell? ⟨R, 140, none⟩ = some (.int .i64 f) ∧ WD.cell? ⟨R, 141, none⟩ = some (.int .i64 xs.length) ∧ SealAt WD w.heap.size 0 s ∧ Ring WD R f xs ∧ w.grownBy WD (some R) := by
    subst hWD
    have hb : Below w.heap.size w (w.alloc (.cells #[.int .i64 s.k, .int .i64 s.t, .int .i64 s.a, .int .i64 s.b, .int .i64 s.c, .int .i64 s.d, .int .i64 s.e] 64)).drew := (Below.alloc_ _ _).drew
    have hr := h.later hb
    exact ⟨hr.first, hr.count, ⟨by go_simp, by go_simp, by go_simp, by go_simp, by go_simp, by go_simp, by go_simp⟩, hr, hb.os, hb.tape, hb.output, hb.size, fun k hk _ => hb.block k hk⟩
  have hlt := h.lt
  clear h
  go_wp2_with fail
  refine wp_region_held_drew (S := fun w' => w'.cell? ⟨R, 140, none⟩ = some (.int .i64 f) ∧ w'.cell? ⟨R, 141, none⟩ = some (.int .i64 xs.length) ∧ SealAt w' w.heap.size 0 s ∧ Ring w' R f xs ∧ w.grownBy w' (some R)) (by kernel_rfl) (by rw [← hWD]; exact HS) (fun hS => ?_)
  rw [← hWD] at hS ⊢
  clear hWD
  refine take1 0 4 (Value.pointer (some ⟨R, 0, none⟩)) rfl rfl (by kernel_rfl) (by kernel_rfl) (by kernel_rfl) (by rfl) (fun _ _ _ h => h) hS (fun w' hS' => ?_) ?_
  · (go_simp) <;> (intro hx9; omega)
  simp only [Act.put, List.setIfInBounds_toArray, List.set_cons_zero, List.set_cons_succ]
  refine take1 1 5 (Value.pointer (some ⟨R, 0, none⟩)) rfl rfl (by kernel_rfl) (by kernel_rfl) (by kernel_rfl) (by rfl) (fun _ _ _ h => h) hS (fun w' hS' => ?_) ?_
  · (go_simp) <;> (intro hx9; omega)
  simp only [Act.put, List.setIfInBounds_toArray, List.set_cons_zero, List.set_cons_succ]
  refine take1 2 6 (Value.pointer (some ⟨R, 0, none⟩)) rfl rfl (by kernel_rfl) (by kernel_rfl) (by kernel_rfl) (by rfl) (fun _ _ _ h => h) hS (fun w' hS' => ?_) ?_
  · (go_simp) <;> (intro hx9; omega)
  simp only [Act.put, List.setIfInBounds_toArray, List.set_cons_zero, List.set_cons_succ]
  refine take1 3 7 (Value.pointer (some ⟨R, 140, none⟩)) rfl rfl (by kernel_rfl) (by kernel_rfl) (by kernel_rfl) (by rfl) (fun _ _ _ h => h) hS (fun w' hS' => ?_) ?_
  · (go_simp) <;> (intro hx9; omega)
  simp only [Act.put, List.setIfInBounds_toArray, List.set_cons_zero, List.set_cons_succ]
  refine take1 4 8 (.int .i64 (f : Int)) rfl rfl (by kernel_rfl) (by kernel_rfl) (by kernel_rfl) (by rfl) (fun _ _ _ h => h) hS (fun w' hS' => ?_) ?_
  · obtain ⟨e0, e1, _⟩ := hS'; (go_simp) <;> (intro hx9; omega)
  simp only [Act.put, List.setIfInBounds_toArray, List.set_cons_zero, List.set_cons_succ]
  refine take1 5 9 (Value.pointer (some ⟨R, 0, none⟩)) rfl rfl (by kernel_rfl) (by kernel_rfl) (by kernel_rfl) (by rfl) (fun _ _ _ h => h) hS (fun w' hS' => ?_) ?_
  · (go_simp) <;> (intro hx9; omega)
  simp only [Act.put, List.setIfInBounds_toArray, List.set_cons_zero, List.set_cons_succ]
  refine take1 6 10 (Value.pointer (some ⟨R, 0, none⟩)) rfl rfl (by kernel_rfl) (by kernel_rfl) (by kernel_rfl) (by rfl) (fun _ _ _ h => h) hS (fun w' hS' => ?_) ?_
  · (go_simp) <;> (intro hx9; omega)
  simp only [Act.put, List.setIfInBounds_toArray, List.set_cons_zero, List.set_cons_succ]
  refine take1 7 11 (Value.pointer (some ⟨R, 141, none⟩)) rfl rfl (by kernel_rfl) (by kernel_rfl) (by kernel_rfl) (by rfl) (fun _ _ _ h => h) hS (fun w' hS' => ?_) ?_
  · (go_simp) <;> (intro hx9; omega)
  simp only [Act.put, List.setIfInBounds_toArray, List.set_cons_zero, List.set_cons_succ]
  refine take1 8 12 (.int .i64 (xs.length : Int)) rfl rfl (by kernel_rfl) (by kernel_rfl) (by kernel_rfl) (by rfl) (fun _ _ _ h => h) hS (fun w' hS' => ?_) ?_
  · obtain ⟨e0, e1, _⟩ := hS'; (go_simp) <;> (intro hx9; omega)
  simp only [Act.put, List.setIfInBounds_toArray, List.set_cons_zero, List.set_cons_succ]
  refine take1 9 13 (.int .i64 ((f : Int) + xs.length)) rfl rfl (by kernel_rfl) (by kernel_rfl) (by kernel_rfl) (by rfl) (fun _ _ _ h => h) hS (fun w' hS' => ?_) ?_
  · have hw9 : IntKind.i64.wrap ((f : Int) + (xs.length : Int)) = (f : Int) + xs.length := wrapM (by omega) (by omega)
    (go_simp) <;> (intro hx9; omega)
  simp only [Act.put, List.setIfInBounds_toArray, List.set_cons_zero, List.set_cons_succ]
  refine take1 10 14 (.int .i64 (J : Int)) rfl rfl (by kernel_rfl) (by kernel_rfl) (by kernel_rfl) (by rfl) (fun _ _ _ h => h) hS (fun w' hS' => ?_) ?_
  · have hw9 : ((f : Int) + xs.length).tmod 20 = (J : Int) := by rw [HJ.out, Int.tmod_eq_emod_of_nonneg (by omega)]; omega
    (go_simp) <;> (intro hx9; omega)
  simp only [Act.put, List.setIfInBounds_toArray, List.set_cons_zero, List.set_cons_succ]
  refine take1 11 15 (Value.agg #[.int .i64 s.k, .int .i64 s.t, .int .i64 s.a, .int .i64 s.b, .int .i64 s.c, .int .i64 s.d, .int .i64 s.e]) rfl rfl (by kernel_rfl) (by kernel_rfl) (by kernel_rfl) (by rfl) (fun _ _ _ h => h) hS (fun w' hS' => ?_) ?_
  · obtain ⟨_, _, ⟨c0, c1, c2, c3, c4, c5, c6⟩, _⟩ := hS'
    simp only [Nat.zero_add] at c1 c2 c3 c4 c5 c6
    (go_simp) <;> (intro hx9; omega)
  simp only [Act.put, List.setIfInBounds_toArray, List.set_cons_zero, List.set_cons_succ]
  refine take1 12 16 (Value.pointer (some ⟨R, 0, none⟩)) rfl rfl (by kernel_rfl) (by kernel_rfl) (by kernel_rfl) (by rfl) (fun _ _ _ h => h) hS (fun w' hS' => ?_) ?_
  · (go_simp) <;> (intro hx9; omega)
  simp only [Act.put, List.setIfInBounds_toArray, List.set_cons_zero, List.set_cons_succ]
  refine take1 13 17 (Value.pointer (some ⟨R, 0, none⟩)) rfl rfl (by kernel_rfl) (by kernel_rfl) (by kernel_rfl) (by rfl) (fun _ _ _ h => h) hS (fun w' hS' => ?_) ?_
  · (go_simp) <;> (intro hx9; omega)
  simp only [Act.put, List.setIfInBounds_toArray, List.set_cons_zero, List.set_cons_succ]
  refine take1 14 18 (Value.pointer (some ⟨R, J * 7, none⟩)) rfl rfl (by kernel_rfl) (by kernel_rfl) (by kernel_rfl) (by rfl) (fun _ _ _ h => h) hS (fun w' hS' => ?_) ?_
  · (go_simp) <;> (intro hx9; omega)
  simp only [Act.put, List.setIfInBounds_toArray, List.set_cons_zero, List.set_cons_succ]

  refine wpAnyH_ready (rs := [15]) (by kernel_rfl) (by simp) ?_
  refine AllReadyH.cons rfl (fun K hK => ?_) AllReadyH.nil
  obtain ⟨⟨v0, d0⟩, f0⟩ := hS.2.2.2.1.cell (o := J * 7) (by omega)
  obtain ⟨⟨v1, d1⟩, f1⟩ := hS.2.2.2.1.cell (o := J * 7 + 1) (by omega)
  obtain ⟨⟨v2, d2⟩, f2⟩ := hS.2.2.2.1.cell (o := J * 7 + 2) (by omega)
  obtain ⟨⟨v3, d3⟩, f3⟩ := hS.2.2.2.1.cell (o := J * 7 + 3) (by omega)
  obtain ⟨⟨v4, d4⟩, f4⟩ := hS.2.2.2.1.cell (o := J * 7 + 4) (by omega)
  obtain ⟨⟨v5, d5⟩, f5⟩ := hS.2.2.2.1.cell (o := J * 7 + 5) (by omega)
  obtain ⟨⟨v6, d6⟩, f6⟩ := hS.2.2.2.1.cell (o := J * 7 + 6) (by omega)
  have HG : Hid (SealAt WD w.heap.size 0 s ∧ Ring WD R f xs ∧ w.grownBy WD (some R)) := hS.2.2
  clear hS HS
  go_simp
  have HP : Ring (put7 WD R (J * 7) s) R f xs ∧ SealAt (put7 WD R (J * 7) s) R (J * 7) s := HG.out.2.1.put hl HJ.out s
  have d := HG.out.1
  have HE : SealAt (put7 WD R (J * 7) s) w.heap.size 0 s := ⟨(put7_else (by omega)).trans d.c0, (put7_else (by omega)).trans d.c1, (put7_else (by omega)).trans d.c2, (put7_else (by omega)).trans d.c3, (put7_else (by omega)).trans d.c4, (put7_else (by omega)).trans d.c5, (put7_else (by omega)).trans d.c6⟩
  have HB : w.grownBy (put7 WD R (J * 7) s) (some R) := put7_grown HG.out.2.2
  clear d HG d0 d1 d2 d3 d4 d5 d6 f0 f1 f2 f3 f4 f5 f6
  change K _ (put7 WD R (J * 7) s)
  generalize put7 WD R (J * 7) s = WP at HP HE HB ⊢
  have S2 : WP.cell? ⟨R, 140, none⟩ = some (.int .i64 f) ∧ WP.cell? ⟨R, 141, none⟩ = some (.int .i64 xs.length) ∧ SealAt WP w.heap.size 0 s ∧ Ring WP R f xs ∧ w.grownBy WP (some R) := ⟨HP.1.first, HP.1.count, HE, HP.1, HB⟩
  refine hK.out _ _ S2 (fun hS => ?_)
  refine wpAnyH_done (by kernel_rfl) ?_ _
  clear hK K hS S2 HE
  have q0 := HP.1.count
  have qf := (HP.1.cell (o := 141) (by omega)).2
  have HQ : Hid (Ring WP R f xs ∧ SealAt WP R (J * 7) s ∧ w.grownBy WP (some R)) := ⟨HP.1, HP.2, HB⟩
  clear HP HB
  go_wp2_with fail
  exact bodyPost_end (v := .tuple #[]) (by simp [results, Tryd.results93, go_sem]) rfl ⟨rfl, HQ.out.1.more hl HJ.out HQ.out.2.1, set_grown HQ.out.2.2⟩

theorem Ring.less {w : World} {R f J : Nat} {xs : List Sl} {s : Sl} (h : Ring w R f (s :: xs)) (hJ : J = (f + 1) % 20) : Ring ((w.setCell ⟨R, 140, none⟩ (.int .i64 J)).setCell ⟨R, 141, none⟩ (.int .i64 xs.length)) R J xs := by
  have hl := h.len
  simp only [List.length_cons] at hl
  refine ⟨row_set (row_set h.blk), by omega, by omega, ?_, ?_, fun i u hu => ?_⟩
  · rw [cell_else (by omega), cell_same ⟨_, h.first⟩]
  · rw [cell_same ⟨_, (cell_else (by omega)).trans h.count⟩]
  · have d := h.seals (i + 1) u (by simpa using hu)
    rw [show (f + (i + 1)) % 20 = (J + i) % 20 by omega] at d
    have : (J + i) % 20 < 20 := Nat.mod_lt _ (by decide)
    exact (d.side (by omega)).side (by omega)

set_option maxHeartbeats 2000000 in
set_option maxRecDepth 100000 in
theorem pop_any (R f : Nat) (xs : List Sl) (s : Sl) (w : World) (h : Ring w R f (s :: xs)) :
    Calls Tryd.prog 94 #[.pointer (some ⟨R, 0, none⟩)] w fun r w' => r = .returned (.agg #[.int .i64 s.k, .int .i64 s.t, .int .i64 s.a, .int .i64 s.b, .int .i64 s.c, .int .i64 s.d, .int .i64 s.e]) ∧ Ring w' R ((f + 1) % 20) xs ∧ w.grownBy w' (some R) := by
  go_enter Tryd.func94, Tryd.ntmps94
  have hf := h.hf
  obtain ⟨J, hJ⟩ : ∃ J, J = (f + 1) % 20 := ⟨_, rfl⟩
  rw [← hJ]
  have hJ20 : J < 20 := by omega
  have HJ : Hid (J = (f + 1) % 20) := hJ
  clear hJ
  have hlt := h.lt
  obtain ⟨WD, hWD⟩ : ∃ WD, WD = (w.alloc (.cells #[.int .i64 0, .int .i64 0, .int .i64 0, .int .i64 0, .int .i64 0, .int .i64 0, .int .i64 0] 64)).drew := ⟨_, rfl⟩
  have HS : WD.cell? ⟨R, 140, none⟩ = some (.int .i64 f) ∧ WD.cell? ⟨R, 141, none⟩ = some (.int .i64 (s :: xs).length) ∧ SealAt WD R (f * 7) s ∧ Ring WD R f (s :: xs) ∧ w.grownBy WD (some R) ∧ WD.heap[w.heap.size]? = some (.cells #[.int .i64 0, .int .i64 0, .int .i64 0, .int .i64 0, .int .i64 0, .int .i64 0, .int .i64 0] 64 (0, 0)) := by
    subst hWD
    have hb : Below w.heap.size w (w.alloc (.cells #[.int .i64 0, .int .i64 0, .int .i64 0, .int .i64 0, .int .i64 0, .int .i64 0, .int .i64 0] 64)).drew := (Below.alloc_ _ _).drew
    have hr := h.later hb
    have hd := hr.seals 0 s rfl
    rw [Nat.add_zero, Nat.mod_eq_of_lt hf] at hd
    exact ⟨hr.first, hr.count, hd, hr, ⟨hb.os, hb.tape, hb.output, hb.size, fun k hk _ => hb.block k hk⟩, heap_alloc_new _ _⟩
  have hsz : w.heap.size < WD.heap.size := by rw [hWD]; simp
  clear h
  go_wp2_with fail
  refine wp_region_held_drew (S := fun w' => w'.cell? ⟨R, 140, none⟩ = some (.int .i64 f) ∧ w'.cell? ⟨R, 141, none⟩ = some (.int .i64 (s :: xs).length) ∧ SealAt w' R (f * 7) s ∧ Ring w' R f (s :: xs) ∧ w.grownBy w' (some R) ∧ w'.heap[w.heap.size]? = some (.cells #[.int .i64 0, .int .i64 0, .int .i64 0, .int .i64 0, .int .i64 0, .int .i64 0, .int .i64 0] 64 (0, 0))) (by kernel_rfl) (by rw [← hWD]; exact HS) (fun hS => ?_)
  rw [← hWD] at hS ⊢
  clear hWD
  refine take1 0 4 (Value.pointer (some ⟨R, 0, none⟩)) rfl rfl (by kernel_rfl) (by kernel_rfl) (by kernel_rfl) (by rfl) (fun _ _ _ h => h) hS (fun w' hS' => ?_) ?_
  · (go_simp) <;> (intro hx9; omega)
  simp only [Act.put, List.setIfInBounds_toArray, List.set_cons_zero, List.set_cons_succ]
  refine take1 1 5 (Value.pointer (some ⟨R, 0, none⟩)) rfl rfl (by kernel_rfl) (by kernel_rfl) (by kernel_rfl) (by rfl) (fun _ _ _ h => h) hS (fun w' hS' => ?_) ?_
  · (go_simp) <;> (intro hx9; omega)
  simp only [Act.put, List.setIfInBounds_toArray, List.set_cons_zero, List.set_cons_succ]
  refine take1 2 6 (Value.pointer (some ⟨R, 0, none⟩)) rfl rfl (by kernel_rfl) (by kernel_rfl) (by kernel_rfl) (by rfl) (fun _ _ _ h => h) hS (fun w' hS' => ?_) ?_
  · (go_simp) <;> (intro hx9; omega)
  simp only [Act.put, List.setIfInBounds_toArray, List.set_cons_zero, List.set_cons_succ]
  refine take1 3 7 (Value.pointer (some ⟨R, 140, none⟩)) rfl rfl (by kernel_rfl) (by kernel_rfl) (by kernel_rfl) (by rfl) (fun _ _ _ h => h) hS (fun w' hS' => ?_) ?_
  · (go_simp) <;> (intro hx9; omega)
  simp only [Act.put, List.setIfInBounds_toArray, List.set_cons_zero, List.set_cons_succ]
  refine take1 4 8 (.int .i64 (f : Int)) rfl rfl (by kernel_rfl) (by kernel_rfl) (by kernel_rfl) (by rfl) (fun _ _ _ h => h) hS (fun w' hS' => ?_) ?_
  · obtain ⟨e0, e1, _⟩ := hS'; (go_simp) <;> (intro hx9; omega)
  simp only [Act.put, List.setIfInBounds_toArray, List.set_cons_zero, List.set_cons_succ]
  refine take1 5 9 (Value.pointer (some ⟨R, 0, none⟩)) rfl rfl (by kernel_rfl) (by kernel_rfl) (by kernel_rfl) (by rfl) (fun _ _ _ h => h) hS (fun w' hS' => ?_) ?_
  · (go_simp) <;> (intro hx9; omega)
  simp only [Act.put, List.setIfInBounds_toArray, List.set_cons_zero, List.set_cons_succ]
  refine take1 6 10 (Value.pointer (some ⟨R, 0, none⟩)) rfl rfl (by kernel_rfl) (by kernel_rfl) (by kernel_rfl) (by rfl) (fun _ _ _ h => h) hS (fun w' hS' => ?_) ?_
  · (go_simp) <;> (intro hx9; omega)
  simp only [Act.put, List.setIfInBounds_toArray, List.set_cons_zero, List.set_cons_succ]
  refine take1 7 11 (Value.pointer (some ⟨R, f * 7, none⟩)) rfl rfl (by kernel_rfl) (by kernel_rfl) (by kernel_rfl) (by rfl) (fun _ _ _ h => h) hS (fun w' hS' => ?_) ?_
  · (go_simp) <;> (intro hx9; omega)
  simp only [Act.put, List.setIfInBounds_toArray, List.set_cons_zero, List.set_cons_succ]
  refine take1 8 12 (Value.agg #[.int .i64 s.k, .int .i64 s.t, .int .i64 s.a, .int .i64 s.b, .int .i64 s.c, .int .i64 s.d, .int .i64 s.e]) rfl rfl (by kernel_rfl) (by kernel_rfl) (by kernel_rfl) (by rfl) (fun _ _ _ h => h) hS (fun w' hS' => ?_) ?_
  · obtain ⟨_, _, ⟨c0, c1, c2, c3, c4, c5, c6⟩, _⟩ := hS'
    (go_simp) <;> (intro hx9; omega)
  simp only [Act.put, List.setIfInBounds_toArray, List.set_cons_zero, List.set_cons_succ]
  refine wpAnyH_ready (rs := [9]) (by kernel_rfl) (by simp) ?_
  refine AllReadyH.cons rfl (fun K hK => ?_) AllReadyH.nil
  have HG : Hid (Ring WD R f (s :: xs) ∧ w.grownBy WD (some R) ∧ WD.heap[w.heap.size]? = some (.cells #[.int .i64 0, .int .i64 0, .int .i64 0, .int .i64 0, .int .i64 0, .int .i64 0, .int .i64 0] 64 (0, 0))) := hS.2.2.2
  clear hS HS
  go_simp
  have hRW : R ≠ WD.heap.size := by have := HG.out.1.lt; omega
  have HA : Ring (WD.alloc (.cells #[.int .i64 0, .int .i64 0, .int .i64 0, .int .i64 0, .int .i64 0, .int .i64 0, .int .i64 0] 64)) R f (s :: xs) ∧ w.grownBy (WD.alloc (.cells #[.int .i64 0, .int .i64 0, .int .i64 0, .int .i64 0, .int .i64 0, .int .i64 0, .int .i64 0] 64)) (some R) ∧ (WD.alloc (.cells #[.int .i64 0, .int .i64 0, .int .i64 0, .int .i64 0, .int .i64 0, .int .i64 0, .int .i64 0] 64)).heap[w.heap.size]? = some (.cells #[.int .i64 0, .int .i64 0, .int .i64 0, .int .i64 0, .int .i64 0, .int .i64 0, .int .i64 0] 64 (0, 0)) ∧ (WD.alloc (.cells #[.int .i64 0, .int .i64 0, .int .i64 0, .int .i64 0, .int .i64 0, .int .i64 0, .int .i64 0] 64)).heap[WD.heap.size]? = some (.cells #[.int .i64 0, .int .i64 0, .int .i64 0, .int .i64 0, .int .i64 0, .int .i64 0, .int .i64 0] 64 (0, 0)) :=
    ⟨HG.out.1.later (Below.alloc_ _ _), HG.out.2.1.trans (World.grownBy_alloc _ _ _), (Below.heap_alloc _ _ _ hsz).trans HG.out.2.2, heap_alloc_new _ _⟩
  generalize WD.alloc (.cells #[.int .i64 0, .int .i64 0, .int .i64 0, .int .i64 0, .int .i64 0, .int .i64 0, .int .i64 0] 64) = WA at HA ⊢
  have S2 : WA.cell? ⟨R, 140, none⟩ = some (.int .i64 f) ∧ WA.cell? ⟨R, 141, none⟩ = some (.int .i64 (s :: xs).length) ∧ SealAt WA R (f * 7) s ∧ Ring WA R f (s :: xs) ∧ w.grownBy WA (some R) ∧ WA.heap[w.heap.size]? = some (.cells #[.int .i64 0, .int .i64 0, .int .i64 0, .int .i64 0, .int .i64 0, .int .i64 0, .int .i64 0] 64 (0, 0)) := by
    have hd := HA.1.seals 0 s rfl
    rw [Nat.add_zero, Nat.mod_eq_of_lt hf] at hd
    exact ⟨HA.1.first, HA.1.count, hd, HA.1, HA.2.1, HA.2.2.1⟩
  refine hK.out _ _ S2 (fun hS => ?_)
  clear hK K hS S2 HG
  refine wpAnyH_ready (rs := [10]) (by kernel_rfl) (by simp) ?_
  refine AllReadyH.cons rfl (fun K hK => ?_) AllReadyH.nil
  obtain ⟨B, hB⟩ : ∃ B, B = WD.heap.size := ⟨_, rfl⟩
  rw [← hB] at HA hRW hsz ⊢
  clear hB
  obtain ⟨d0, d1, d2, d3, d4, d5, d6, df⟩ := cells7r HA.2.2.2
  have fz : ∀ o, WA.frozen? ⟨B, o, none⟩ = false := fun o => by simp [World.frozen?, HA.2.2.2]
  have f0 := fz 0
  have f1 := fz 1
  have f2 := fz 2
  have f3 := fz 3
  have f4 := fz 4
  have f5 := fz 5
  have f6 := fz 6
  have HG : Hid (Ring WA R f (s :: xs) ∧ w.grownBy WA (some R) ∧ WA.heap[w.heap.size]? = some (.cells #[.int .i64 0, .int .i64 0, .int .i64 0, .int .i64 0, .int .i64 0, .int .i64 0, .int .i64 0] 64 (0, 0)) ∧ WA.heap[B]? = some (.cells #[.int .i64 0, .int .i64 0, .int .i64 0, .int .i64 0, .int .i64 0, .int .i64 0, .int .i64 0] 64 (0, 0))) := HA
  clear HA fz
  go_simp
  have HP : Ring (put7 WA B 0 s) R f (s :: xs) ∧ w.grownBy (put7 WA B 0 s) (some R) ∧ (put7 WA B 0 s).heap[w.heap.size]? = some (.cells #[.int .i64 0, .int .i64 0, .int .i64 0, .int .i64 0, .int .i64 0, .int .i64 0, .int .i64 0] 64 (0, 0)) ∧ SealAt (put7 WA B 0 s) B 0 s :=
    ⟨HG.out.1.same (put7_heap (Ne.symm hRW)), put7_aside HG.out.2.1 (by omega), (put7_heap (by omega)).trans HG.out.2.2.1, put7_at fun q hq => by
      obtain rfl | rfl | rfl | rfl | rfl | rfl | rfl : q = 0 ∨ q = 1 ∨ q = 2 ∨ q = 3 ∨ q = 4 ∨ q = 5 ∨ q = 6 := by omega
      all_goals first | exact ⟨_, d0⟩ | exact ⟨_, d1⟩ | exact ⟨_, d2⟩ | exact ⟨_, d3⟩ | exact ⟨_, d4⟩ | exact ⟨_, d5⟩ | exact ⟨_, d6⟩⟩
  change K _ (put7 WA B 0 s)
  clear d0 d1 d2 d3 d4 d5 d6 df f0 f1 f2 f3 f4 f5 f6 HG
  generalize put7 WA B 0 s = WP at HP ⊢
  have S2 : WP.cell? ⟨R, 140, none⟩ = some (.int .i64 f) ∧ WP.cell? ⟨R, 141, none⟩ = some (.int .i64 (s :: xs).length) ∧ SealAt WP R (f * 7) s ∧ Ring WP R f (s :: xs) ∧ w.grownBy WP (some R) ∧ WP.heap[w.heap.size]? = some (.cells #[.int .i64 0, .int .i64 0, .int .i64 0, .int .i64 0, .int .i64 0, .int .i64 0, .int .i64 0] 64 (0, 0)) := by
    have hd := HP.1.seals 0 s rfl
    rw [Nat.add_zero, Nat.mod_eq_of_lt hf] at hd
    exact ⟨HP.1.first, HP.1.count, hd, HP.1, HP.2.1, HP.2.2.1⟩
  refine hK.out _ _ S2 (fun hS => ?_)
  clear hK K hS S2
  refine wpAnyH_done (by kernel_rfl) ?_ _
  have q0 := HP.1.first
  have q1 := HP.1.count
  have g0 := (HP.1.cell (o := 140) (by omega)).2
  have g1 := (HP.1.cell (o := 141) (by omega)).2
  obtain ⟨c0, c1, c2, c3, c4, c5, c6⟩ := id HP.2.2.2
  obtain ⟨z0, z1, z2, z3, z4, z5, z6, zf⟩ := cells7r HP.2.2.1
  have hx := HP.1.len
  simp only [List.length_cons] at hx q1
  simp only [Nat.zero_add] at c1 c2 c3 c4 c5 c6
  have HQ : Hid (Ring WP R f (s :: xs) ∧ w.grownBy WP (some R)) := ⟨HP.1, HP.2.1⟩
  have hw1 : IntKind.i64.wrap ((f : Int) + 1) = (f : Int) + 1 := wrapM (by omega) (by omega)
  have hw2 : ((f : Int) + 1).tmod 20 = (J : Int) := by rw [HJ.out, Int.tmod_eq_emod_of_nonneg (by omega)]; omega
  have hw3 : IntKind.i64.wrap (((xs.length + 1 : Nat) : Int) - 1) = (xs.length : Int) := by rw [wrapM (by omega) (by omega)]; simp
  clear HP
  go_wp2_with fail
  have HW : Ring ((WP.setCell ⟨R, 140, none⟩ (.int .i64 J)).setCell ⟨R, 141, none⟩ (.int .i64 xs.length)) R J xs := HQ.out.1.less HJ.out
  have HV : w.grownBy ((WP.setCell ⟨R, 140, none⟩ (.int .i64 J)).setCell ⟨R, 141, none⟩ (.int .i64 xs.length)) (some R) := set_grown (set_grown HQ.out.2)
  have HC : ∀ q, q < 7 → ∃ u, ((WP.setCell ⟨R, 140, none⟩ (.int .i64 J)).setCell ⟨R, 141, none⟩ (.int .i64 xs.length)).cell? ⟨w.heap.size, 0 + q, none⟩ = some u := by
    intro q hq
    rw [cell_else (by omega), cell_else (by omega)]
    obtain rfl | rfl | rfl | rfl | rfl | rfl | rfl : q = 0 ∨ q = 1 ∨ q = 2 ∨ q = 3 ∨ q = 4 ∨ q = 5 ∨ q = 6 := by omega
    all_goals first | exact ⟨_, z0⟩ | exact ⟨_, z1⟩ | exact ⟨_, z2⟩ | exact ⟨_, z3⟩ | exact ⟨_, z4⟩ | exact ⟨_, z5⟩ | exact ⟨_, z6⟩
  change bodyPost _ _ _ _ _ (put7 ((WP.setCell ⟨R, 140, none⟩ (.int .i64 J)).setCell ⟨R, 141, none⟩ (.int .i64 xs.length)) w.heap.size 0 s)
  clear c0 c1 c2 c3 c4 c5 c6 z0 z1 z2 z3 z4 z5 z6 zf q0 q1 g0 g1 HQ
  generalize (WP.setCell ⟨R, 140, none⟩ (.int .i64 J)).setCell ⟨R, 141, none⟩ (.int .i64 xs.length) = WQ at HW HV HC ⊢
  have hp := put7_at (s := s) HC
  have hr : Ring (put7 WQ w.heap.size 0 s) R J xs := HW.same (put7_heap (by omega))
  have hg : w.grownBy (put7 WQ w.heap.size 0 s) (some R) := put7_aside HV (Nat.le_refl _)
  generalize put7 WQ w.heap.size 0 s = WZ at hp hr hg ⊢
  obtain ⟨c0, c1, c2, c3, c4, c5, c6⟩ := hp
  simp only [Nat.zero_add] at c1 c2 c3 c4 c5 c6
  exact bodyPost_ret (v := .agg #[.int .i64 s.k, .int .i64 s.t, .int .i64 s.a, .int .i64 s.b, .int .i64 s.c, .int .i64 s.d, .int .i64 s.e]) (by simp [results, Tryd.results94, go_sem, c0, c1, c2, c3, c4, c5, c6]) rfl ⟨rfl, hr, hg⟩

end Go.Proofs.YtghajmfjekfdpaaDoor

namespace Go.Proofs.YtghajmfjekfdpaaDoor
open Go.RowKit
attribute [local go_sem ↓] Go.wp_at_zero Go.wp_at_succ

set_option maxHeartbeats 2000000 in
set_option maxRecDepth 100000 in
theorem index_any (a : Option Addr) (cap : Nat) (xs : List Sl) (s : Sl) (w : World) (h : SRow w a xs) (hx : xs.length ≤ 2000000) :
    Calls Tryd.prog 100 #[.slice a xs.length cap, .agg #[.int .i64 s.k, .int .i64 s.t, .int .i64 s.a, .int .i64 s.b, .int .i64 s.c, .int .i64 s.d, .int .i64 s.e]] w fun r w' => (∃ n : Int, r = .returned (.int .i64 n) ∧ decide (0 ≤ n) = inS s xs) ∧ Below w.heap.size w w' := by
  go_enter Tryd.func100, Tryd.ntmps100
  have T0 : Hid (Below w.heap.size w (w.alloc (.cells #[.int .i64 s.k, .int .i64 s.t, .int .i64 s.a, .int .i64 s.b, .int .i64 s.c, .int .i64 s.d, .int .i64 s.e] 64)) ∧ SealAt (w.alloc (.cells #[.int .i64 s.k, .int .i64 s.t, .int .i64 s.a, .int .i64 s.b, .int .i64 s.c, .int .i64 s.d, .int .i64 s.e] 64)) w.heap.size 0 s ∧ w.heap.size < (w.alloc (.cells #[.int .i64 s.k, .int .i64 s.t, .int .i64 s.a, .int .i64 s.b, .int .i64 s.c, .int .i64 s.d, .int .i64 s.e] 64)).heap.size) :=
    ⟨(Below.refl _ _).alloc (Nat.le_refl _) _, ⟨by go_simp, by go_simp, by go_simp, by go_simp, by go_simp, by go_simp, by go_simp⟩, by simp⟩
  go_wp2_with fail
  go_loopw [8] (fun i wr => ∃ (j : Nat), j ≤ xs.length ∧ i = .int .i64 j ∧ Hid (Below w.heap.size w wr ∧ SealAt wr w.heap.size 0 s ∧ w.heap.size < wr.heap.size ∧ ¬ s ∈ xs.take j)) (fun i _ => xs.length - (intOf i).toNat)
  case atStart => exact ⟨0, Nat.zero_le _, rfl, T0.out.1, T0.out.2.1, T0.out.2.2, by simp⟩
  case round =>
    clear T0
    obtain ⟨j, hj, rfl, C⟩ := hrel
    by_cases hlt : j < xs.length
    · obtain ⟨u, hu⟩ : ∃ u, xs[j]? = some u := ⟨xs[j], List.getElem?_eq_getElem hlt⟩
      rcases h with h | ⟨b, off, rfl, hl, h⟩
      · simp [h] at hlt
      have hS0 : SealAt wr.drew b (off + j * 7) u ∧ SealAt wr.drew w.heap.size 0 s := ⟨(h j u hu).later C.out.1.drew hl, C.out.2.1.later (Below.refl _ _).drew C.out.2.2.1⟩
      have C2 : Hid (Below w.heap.size w wr.drew ∧ SealAt wr.drew w.heap.size 0 s ∧ w.heap.size < wr.drew.heap.size ∧ ¬ s ∈ xs.take j) := ⟨C.out.1.drew, hS0.2, C.out.2.2.1, C.out.2.2.2⟩
      have HU : Hid (xs[j]? = some u) := hu
      clear h hu C
      go_wp2_with fail
      refine wp_region_held_drew (S := fun w' => SealAt w' b (off + j * 7) u ∧ SealAt w' w.heap.size 0 s) (by kernel_rfl) hS0 (fun hS => ?_)
      refine take1 0 11 (Value.agg #[.int .i64 s.k, .int .i64 s.t, .int .i64 s.a, .int .i64 s.b, .int .i64 s.c, .int .i64 s.d, .int .i64 s.e]) rfl rfl (by kernel_rfl) (by kernel_rfl) (by kernel_rfl) (by rfl) (fun _ _ _ h => h) hS (fun w' hS' => ?_) ?_
      · obtain ⟨_, ⟨c0, c1, c2, c3, c4, c5, c6⟩⟩ := hS'
        simp only [Nat.zero_add] at c1 c2 c3 c4 c5 c6
        (go_simp) <;> (intro hx9; omega)
      simp only [Act.put, List.setIfInBounds_toArray, List.set_cons_zero, List.set_cons_succ]
      refine take1 1 12 (.slice (some ⟨b, off, none⟩) xs.length cap) rfl rfl (by kernel_rfl) (by kernel_rfl) (by kernel_rfl) (by rfl) (fun _ _ _ h => h) hS (fun w' hS' => ?_) ?_
      · (go_simp) <;> (intro hx9; omega)
      simp only [Act.put, List.setIfInBounds_toArray, List.set_cons_zero, List.set_cons_succ]
      refine take1 2 13 (.int .i64 j) rfl rfl (by kernel_rfl) (by kernel_rfl) (by kernel_rfl) (by rfl) (fun _ _ _ h => h) hS (fun w' hS' => ?_) ?_
      · (go_simp) <;> (intro hx9; omega)
      simp only [Act.put, List.setIfInBounds_toArray, List.set_cons_zero, List.set_cons_succ]
      refine take1 3 14 (.pointer (some ⟨b, off + j * 7, none⟩)) rfl rfl (by kernel_rfl) (by kernel_rfl) (by kernel_rfl) (by rfl) (fun _ _ _ h => h) hS (fun w' hS' => ?_) ?_
      · (go_simp) <;> (intro hx9; omega)
      simp only [Act.put, List.setIfInBounds_toArray, List.set_cons_zero, List.set_cons_succ]
      refine take1 4 15 (Value.agg #[.int .i64 u.k, .int .i64 u.t, .int .i64 u.a, .int .i64 u.b, .int .i64 u.c, .int .i64 u.d, .int .i64 u.e]) rfl rfl (by kernel_rfl) (by kernel_rfl) (by kernel_rfl) (by rfl) (fun _ _ _ h => h) hS (fun w' hS' => ?_) ?_
      · obtain ⟨⟨c0, c1, c2, c3, c4, c5, c6⟩, _⟩ := hS'
        (go_simp) <;> (intro hx9; omega)
      simp only [Act.put, List.setIfInBounds_toArray, List.set_cons_zero, List.set_cons_succ]
      by_cases hsu : u = s
      · subst hsu
        refine take1 5 16 (.bool true) rfl rfl (by kernel_rfl) (by kernel_rfl) (by kernel_rfl) (by rfl) (fun _ _ _ h => h) hS (fun w' hS' => ?_) ?_
        · go_simp
        simp only [Act.put, List.setIfInBounds_toArray, List.set_cons_zero, List.set_cons_succ]
        refine wpAnyH_done (by kernel_rfl) ?_ _
        clear hS hS0
        go_wp2_with fail
        go_ret
        exact ⟨⟨j, rfl, by rw [inS_true (List.mem_of_getElem? HU.out)]; exact decide_eq_true (by omega)⟩, C2.out.1⟩
      · have HN : Hid (¬ u = s) := hsu
        clear hsu
        refine take1 5 16 (.bool false) rfl rfl (by kernel_rfl) (by kernel_rfl) (by kernel_rfl) (by rfl) (fun _ _ _ h => h) hS (fun w' hS' => ?_) ?_
        · go_simp
          exact fun h1 h2 h3 h4 h5 h6 h7 => HN.out (sl_eq ⟨h1.symm, h2.symm, h3.symm, h4.symm, h5.symm, h6.symm, h7.symm⟩)
        simp only [Act.put, List.setIfInBounds_toArray, List.set_cons_zero, List.set_cons_succ]
        refine wpAnyH_done (by kernel_rfl) ?_ _
        clear hS hS0
        have C3 : Hid (Below w.heap.size w wr.drew ∧ SealAt wr.drew w.heap.size 0 s ∧ w.heap.size < wr.drew.heap.size ∧ ¬ s ∈ xs.take (j + 1)) := ⟨C2.out.1, C2.out.2.1, C2.out.2.2.1, not_in_take HU.out C2.out.2.2.2 HN.out⟩
        clear C2 HU
        go_wp2_with fail
        go_roundw
        case rel => exact ⟨j + 1, by omega, by go_num, C3⟩
        case measure => simp [intOf]; omega
    · obtain rfl : j = xs.length := by omega
      have HN : Hid (¬ s ∈ xs) := by have := C.out.2.2.2; rwa [List.take_length] at this
      clear h
      go_wp2_with fail
      go_ret
      exact ⟨⟨-1, rfl, by rw [inS_false HN.out]; rfl⟩, C.out.1⟩

set_option maxHeartbeats 1000000 in
set_option maxRecDepth 100000 in
theorem hasSeal_any (a : Option Addr) (cap : Nat) (xs : List Sl) (s : Sl) (w : World) (h : SRow w a xs) (hx : xs.length ≤ 2000000) :
    Calls Tryd.prog 87 #[.slice a xs.length cap, .agg #[.int .i64 s.k, .int .i64 s.t, .int .i64 s.a, .int .i64 s.b, .int .i64 s.c, .int .i64 s.d, .int .i64 s.e]] w fun r w' => r = .returned (.bool (inS s xs)) ∧ Below w.heap.size w w' := by
  go_enter Tryd.func87, Tryd.ntmps87
  go_wp2_with fail
  refine (index_any a cap xs s _ (h.later ((Below.refl _ _).alloc (Nat.le_refl _) _)) hx).mono ?_
  rintro r w2 ⟨⟨n, rfl, hn⟩, b2⟩
  go_wp2_with fail
  go_ret
  exact ⟨rfl, ((Below.refl _ _).alloc (Nat.le_refl _) _).trans (b2.mono (by simp))⟩

end Go.Proofs.YtghajmfjekfdpaaDoor

namespace Go.Proofs.YtghajmfjekfdpaaDoor
open Go.RowKit

theorem skip1 {P : Program} {md : Region.Mode} {ops : Array Oper} {Q : Exit → Act → World → Prop} {S : World → Prop} (i d : Nat) {oi : Oper} {fuel : Nat} {listed : Array Bool} {a : Act} {w : World}
    (hi : ops[i]? = some oi) (hd : oi.dst = some d) (hs : Region.noSelect ops = true) (hf : Region.free md ops listed i = true) (hr : (Region.ready md ops listed).contains i = true)
    (hw : Region.wanted oi (yielded ops a.tmps) = false) (hQ : ∀ c a w, Q (.panic c) (a.put oi.dst undef) w → Q (.panic c) a w) (hS : S w)
    (h : wpAnyH P md ops Q S fuel (listed.setIfInBounds i true) (a.put (some d) undef) w) : wpAnyH P md ops Q S (fuel + 1) listed a w :=
  wpAnyH_take hi hs hf hr hQ (Or.inr ⟨hw, rfl⟩) hS (hd ▸ h)

end Go.Proofs.YtghajmfjekfdpaaDoor

namespace Go.Proofs.YtghajmfjekfdpaaDoor
open Go.RowKit
attribute [local go_sem ↓] Go.wp_at_zero Go.wp_at_succ

theorem freshS (w : World) (s : Sl) : Below w.heap.size w (w.alloc (.cells #[.int .i64 s.k, .int .i64 s.t, .int .i64 s.a, .int .i64 s.b, .int .i64 s.c, .int .i64 s.d, .int .i64 s.e] 64)) ∧ SealAt (w.alloc (.cells #[.int .i64 s.k, .int .i64 s.t, .int .i64 s.a, .int .i64 s.b, .int .i64 s.c, .int .i64 s.d, .int .i64 s.e] 64)) w.heap.size 0 s ∧ w.heap.size < (w.alloc (.cells #[.int .i64 s.k, .int .i64 s.t, .int .i64 s.a, .int .i64 s.b, .int .i64 s.c, .int .i64 s.d, .int .i64 s.e] 64)).heap.size :=
  ⟨Below.alloc_ _ _, ⟨by go_simp, by go_simp, by go_simp, by go_simp, by go_simp, by go_simp, by go_simp⟩, by simp⟩
theorem SRow.take {w : World} {a : Option Addr} {xs : List Sl} {j : Nat} (h : SRow w a xs) : SRow w a (xs.take j) := by
  rcases h with h | ⟨b, off, ha, hl, h⟩
  · exact Or.inl (by rw [h]; simp)
  · refine Or.inr ⟨b, off, ha, hl, fun i s hs => h i s ?_⟩
    rw [List.getElem?_take] at hs
    split at hs
    · exact hs
    · cases hs

theorem isFresh_any (s : Sl) (now : Int) (w : World) (ht : 0 ≤ s.b ∧ s.b ≤ 101) (hn : 0 ≤ now ∧ now ≤ 100) :
    Calls Tryd.prog 79 #[.agg #[.int .i64 s.k, .int .i64 s.t, .int .i64 s.a, .int .i64 s.b, .int .i64 s.c, .int .i64 s.d, .int .i64 s.e], .int .i64 now] w fun r w' => r = .returned (.bool (freshB s.b now)) ∧ Below w.heap.size w w' := by
  have hw : IntKind.i64.wrap (now - s.b) = now - s.b := wrapM (by omega) (by omega)
  go_enter Tryd.func79, Tryd.ntmps79
  by_cases y : s.b ≤ now
  · go_wp2_with fail
    go_ret
    exact ⟨ret_bool (by simp [freshB, y]), Below.alloc_ _ _⟩
  · have y2 : freshB s.b now = false := by simp [freshB]; omega
    go_wp2_with fail
    go_ret
    exact ⟨ret_bool (by first | rfl | exact y2.symm), Below.alloc_ _ _⟩

set_option maxHeartbeats 1000000 in
theorem isAuth_any (s : Sl) (w : World) :
    Calls Tryd.prog 66 #[.agg #[.int .i64 s.k, .int .i64 s.t, .int .i64 s.a, .int .i64 s.b, .int .i64 s.c, .int .i64 s.d, .int .i64 s.e]] w fun r w' => r = .returned (.bool s.auth) ∧ Below w.heap.size w w' := by
  go_enter Tryd.func66, Tryd.ntmps66
  by_cases y : s.t = 3
  · go_wp2_with fail
    refine (implOk_any _ _ _ _ _ _ _ _).mono ?_
    rintro r w1 ⟨rfl, b1⟩
    go_wp2_with fail
    go_ret
    exact ⟨ret_bool (by simp [Sl.auth, Sl.ok, y]), (Below.alloc_ _ _).trans (b1.mono (by simp))⟩
  · go_wp2_with fail
    go_ret
    exact ⟨ret_bool (by simp [Sl.auth, y]), Below.alloc_ _ _⟩

set_option maxHeartbeats 4000000 in
set_option maxRecDepth 100000 in
theorem isCache_any (a : Option Addr) (cap : Nat) (xs : List Sl) (w : World) (h : SRow w a xs) (hc : xs.length ≤ cap) :
    Calls Tryd.prog 61 #[.slice a xs.length cap] w fun r w' => r = .returned (.bool (cacheB xs)) ∧ Below w.heap.size w w' := by
  go_enter Tryd.func61, Tryd.ntmps61
  by_cases hl : xs.length ≤ 20
  · go_wp2_with fail
    go_loopw [10] (fun i wr => ∃ (j : Nat), j ≤ xs.length ∧ i = .int .i64 j ∧ Hid (Below w.heap.size w wr ∧ goodB xs j = true)) (fun i _ => xs.length - (intOf i).toNat)
    case atStart => exact ⟨0, Nat.zero_le _, rfl, Below.refl _ _, rfl⟩
    case round =>
      obtain ⟨j, hj, rfl, C⟩ := hrel
      by_cases hlt : j < xs.length
      · obtain ⟨s, hs⟩ : ∃ s, xs[j]? = some s := ⟨xs[j], List.getElem?_eq_getElem hlt⟩
        have hrow := h.later C.out.1
        rcases id hrow with hz | ⟨b, off, rfl, hlb, hat⟩
        · simp [hz] at hlt
        obtain ⟨c0, c1, c2, c3, c4, c5, c6⟩ := hat j s hs
        have HS : Hid (xs[j]? = some s) := hs
        have HC : Hid (Below w.heap.size w wr ∧ goodB xs j = true) := C
        have HROW0 : Hid (SRow wr (some ⟨b, off, none⟩) xs) := hrow
        clear h hrow hat hs C
        go_wp2_with fail
        obtain ⟨F1, F2, F3⟩ := freshS wr s
        generalize (wr.alloc (.cells #[.int .i64 s.k, .int .i64 s.t, .int .i64 s.a, .int .i64 s.b, .int .i64 s.c, .int .i64 s.d, .int .i64 s.e] 64)) = W3 at F1 F2 F3 ⊢
        have HLT := F3
        have HAT : Hid (SealAt W3 wr.heap.size 0 s) := F2
        have HROW : Hid (SRow W3 (some ⟨b, off, none⟩) xs) := HROW0.out.later F1
        have HB3 : Hid (Below w.heap.size w W3) := HC.out.1.trans (F1.mono HC.out.1.size)
        clear F1 F2 F3 HROW0 c0 c1 c2 c3 c4 c5 c6
        refine wp_region_held_drew (S := fun w' => Below W3.heap.size W3 w') (by kernel_rfl) (Below.refl _ _).drew (fun hS => ?_)
        generalize W3.drew = W4 at hS ⊢
        cases hsa : s.auth
        ·

          refine take1 0 15 (Value.agg #[.int .i64 s.k, .int .i64 s.t, .int .i64 s.a, .int .i64 s.b, .int .i64 s.c, .int .i64 s.d, .int .i64 s.e]) rfl rfl (by kernel_rfl) (by kernel_rfl) (by kernel_rfl) (by rfl) (fun _ _ _ h => h) hS (fun w' hS' => ?_) ?_
          · obtain ⟨c0, c1, c2, c3, c4, c5, c6⟩ := HAT.out.later hS' HLT
            simp only [Nat.zero_add] at c1 c2 c3 c4 c5 c6
            (go_simp) <;> (intro hx9; omega)
          simp only [Act.put, List.setIfInBounds_toArray, List.set_cons_zero, List.set_cons_succ]
          refine wpAnyH_ready (rs := [1]) (by kernel_rfl) (by simp) ?_
          refine AllReadyH.cons rfl (fun K hK => ?_) AllReadyH.nil
          go_simp
          refine (isAuth_any s _).mono ?_
          rintro r w4 ⟨rfl, b4⟩
          rw [hsa]
          have S4 : Below W3.heap.size W3 w4 := hS.trans (b4.mono hS.size)
          refine hK.out _ _ S4 (fun hS => ?_)
          clear hK K b4 S4
          refine take1 2 17 (.bool true) rfl rfl (by kernel_rfl) (by kernel_rfl) (by kernel_rfl) (by rfl) (fun _ _ _ h => h) hS (fun w' hS' => ?_) ?_
          · (go_simp) <;> (intro hx9; omega)
          simp only [Act.put, List.setIfInBounds_toArray, List.set_cons_zero, List.set_cons_succ]
          refine take1 3 18 (.bool true) rfl rfl (by kernel_rfl) (by kernel_rfl) (by kernel_rfl) (by rfl) (fun _ _ _ h => h) hS (fun w' hS' => ?_) ?_
          · (go_simp) <;> (intro hx9; omega)
          simp only [Act.put, List.setIfInBounds_toArray, List.set_cons_zero, List.set_cons_succ]
          refine skip1 4 19 rfl rfl (by kernel_rfl) (by kernel_rfl) (by kernel_rfl) (by rfl) (fun _ _ _ h => h) hS ?_
          simp only [Act.put, List.setIfInBounds_toArray, List.set_cons_zero, List.set_cons_succ]
          refine skip1 5 20 rfl rfl (by kernel_rfl) (by kernel_rfl) (by kernel_rfl) (by rfl) (fun _ _ _ h => h) hS ?_
          simp only [Act.put, List.setIfInBounds_toArray, List.set_cons_zero, List.set_cons_succ]
          refine skip1 6 21 rfl rfl (by kernel_rfl) (by kernel_rfl) (by kernel_rfl) (by rfl) (fun _ _ _ h => h) hS ?_
          simp only [Act.put, List.setIfInBounds_toArray, List.set_cons_zero, List.set_cons_succ]
          refine skip1 7 22 rfl rfl (by kernel_rfl) (by kernel_rfl) (by kernel_rfl) (by rfl) (fun _ _ _ h => h) hS ?_
          simp only [Act.put, List.setIfInBounds_toArray, List.set_cons_zero, List.set_cons_succ]
          refine skip1 8 23 rfl rfl (by kernel_rfl) (by kernel_rfl) (by kernel_rfl) (by rfl) (fun _ _ _ h => h) hS ?_
          simp only [Act.put, List.setIfInBounds_toArray, List.set_cons_zero, List.set_cons_succ]
          refine take1 9 24 (.bool true) rfl rfl (by kernel_rfl) (by kernel_rfl) (by kernel_rfl) (by rfl) (fun _ _ _ h => h) hS (fun w' hS' => ?_) ?_
          · (go_simp) <;> (intro hx9; omega)
          simp only [Act.put, List.setIfInBounds_toArray, List.set_cons_zero, List.set_cons_succ]
          refine wpAnyH_done (by kernel_rfl) ?_ _
          have HE : Hid (Below w.heap.size w w4) := HB3.out.trans (hS.mono HB3.out.size)
          have hcb : cacheB xs = false := by
            have : goodB xs (j + 1) = false := by rw [goodB_succ HS.out, hsa]; simp
            simp [cacheB, goodB_false (n := xs.length) this (by omega)]
          clear hS HB3 HAT HROW
          go_wp2_with fail
          go_ret
          exact ⟨ret_bool hcb.symm, HE.out⟩
        · cases hsb : inS s (xs.take j)
          ·
            refine take1 0 15 (Value.agg #[.int .i64 s.k, .int .i64 s.t, .int .i64 s.a, .int .i64 s.b, .int .i64 s.c, .int .i64 s.d, .int .i64 s.e]) rfl rfl (by kernel_rfl) (by kernel_rfl) (by kernel_rfl) (by rfl) (fun _ _ _ h => h) hS (fun w' hS' => ?_) ?_
            · obtain ⟨c0, c1, c2, c3, c4, c5, c6⟩ := HAT.out.later hS' HLT
              simp only [Nat.zero_add] at c1 c2 c3 c4 c5 c6
              (go_simp) <;> (intro hx9; omega)
            simp only [Act.put, List.setIfInBounds_toArray, List.set_cons_zero, List.set_cons_succ]
            refine wpAnyH_ready (rs := [1]) (by kernel_rfl) (by simp) ?_
            refine AllReadyH.cons rfl (fun K hK => ?_) AllReadyH.nil
            go_simp
            refine (isAuth_any s _).mono ?_
            rintro r w4 ⟨rfl, b4⟩
            rw [hsa]
            have S4 : Below W3.heap.size W3 w4 := hS.trans (b4.mono hS.size)
            refine hK.out _ _ S4 (fun hS => ?_)
            clear hK K b4 S4
            refine take1 2 17 (.bool false) rfl rfl (by kernel_rfl) (by kernel_rfl) (by kernel_rfl) (by rfl) (fun _ _ _ h => h) hS (fun w' hS' => ?_) ?_
            · (go_simp) <;> (intro hx9; omega)
            simp only [Act.put, List.setIfInBounds_toArray, List.set_cons_zero, List.set_cons_succ]
            refine take1 3 18 (.bool false) rfl rfl (by kernel_rfl) (by kernel_rfl) (by kernel_rfl) (by rfl) (fun _ _ _ h => h) hS (fun w' hS' => ?_) ?_
            · (go_simp) <;> (intro hx9; omega)
            simp only [Act.put, List.setIfInBounds_toArray, List.set_cons_zero, List.set_cons_succ]
            refine take1 4 19 (.slice (some ⟨b, off, none⟩) xs.length cap) rfl rfl (by kernel_rfl) (by kernel_rfl) (by kernel_rfl) (by rfl) (fun _ _ _ h => h) hS (fun w' hS' => ?_) ?_
            · (go_simp) <;> (intro hx9; omega)
            simp only [Act.put, List.setIfInBounds_toArray, List.set_cons_zero, List.set_cons_succ]
            refine take1 5 20 (.int .i64 (j : Int)) rfl rfl (by kernel_rfl) (by kernel_rfl) (by kernel_rfl) (by rfl) (fun _ _ _ h => h) hS (fun w' hS' => ?_) ?_
            · (go_simp) <;> (intro hx9; omega)
            simp only [Act.put, List.setIfInBounds_toArray, List.set_cons_zero, List.set_cons_succ]
            refine take1 6 21 (.slice (some ⟨b, off, none⟩) j cap) rfl rfl (by kernel_rfl) (by kernel_rfl) (by kernel_rfl) (by rfl) (fun _ _ _ h => h) hS (fun w' hS' => ?_) ?_
            · (go_simp) <;> (intro hx9; omega)
            simp only [Act.put, List.setIfInBounds_toArray, List.set_cons_zero, List.set_cons_succ]
            refine take1 7 22 (Value.agg #[.int .i64 s.k, .int .i64 s.t, .int .i64 s.a, .int .i64 s.b, .int .i64 s.c, .int .i64 s.d, .int .i64 s.e]) rfl rfl (by kernel_rfl) (by kernel_rfl) (by kernel_rfl) (by rfl) (fun _ _ _ h => h) hS (fun w' hS' => ?_) ?_
            · obtain ⟨c0, c1, c2, c3, c4, c5, c6⟩ := HAT.out.later hS' HLT
              simp only [Nat.zero_add] at c1 c2 c3 c4 c5 c6
              (go_simp) <;> (intro hx9; omega)
            simp only [Act.put, List.setIfInBounds_toArray, List.set_cons_zero, List.set_cons_succ]
            refine wpAnyH_ready (rs := [8]) (by kernel_rfl) (by simp) ?_
            refine AllReadyH.cons rfl (fun K hK => ?_) AllReadyH.nil
            go_simp
            have hlj : (xs.take j).length = j := by simp; omega
            have hh := hasSeal_any (some ⟨b, off, none⟩) cap (xs.take j) s w4 (SRow.take (HROW.out.later hS)) (by simp; omega)
            rw [hlj] at hh
            refine hh.mono ?_
            clear hh hlj
            rintro r w5 ⟨rfl, b5⟩
            rw [hsb]
            have S5 : Below W3.heap.size W3 w5 := hS.trans (b5.mono hS.size)
            refine hK.out _ _ S5 (fun hS => ?_)
            clear hK K b5 S5
            refine take1 9 24 (.bool false) rfl rfl (by kernel_rfl) (by kernel_rfl) (by kernel_rfl) (by rfl) (fun _ _ _ h => h) hS (fun w' hS' => ?_) ?_
            · (go_simp) <;> (intro hx9; omega)
            simp only [Act.put, List.setIfInBounds_toArray, List.set_cons_zero, List.set_cons_succ]
            refine wpAnyH_done (by kernel_rfl) ?_ _
            have HE : Hid (Below w.heap.size w w5 ∧ goodB xs (j + 1) = true) := ⟨HB3.out.trans (hS.mono HB3.out.size), by rw [goodB_succ HS.out, HC.out.2, hsa, hsb]; rfl⟩
            clear hS HB3 HAT HROW
            go_wp2_with fail
            go_roundw
            case rel => exact ⟨j + 1, by omega, by go_num, HE⟩
            case measure => simp [intOf]; omega
          ·
            refine take1 0 15 (Value.agg #[.int .i64 s.k, .int .i64 s.t, .int .i64 s.a, .int .i64 s.b, .int .i64 s.c, .int .i64 s.d, .int .i64 s.e]) rfl rfl (by kernel_rfl) (by kernel_rfl) (by kernel_rfl) (by rfl) (fun _ _ _ h => h) hS (fun w' hS' => ?_) ?_
            · obtain ⟨c0, c1, c2, c3, c4, c5, c6⟩ := HAT.out.later hS' HLT
              simp only [Nat.zero_add] at c1 c2 c3 c4 c5 c6
              (go_simp) <;> (intro hx9; omega)
            simp only [Act.put, List.setIfInBounds_toArray, List.set_cons_zero, List.set_cons_succ]
            refine wpAnyH_ready (rs := [1]) (by kernel_rfl) (by simp) ?_
            refine AllReadyH.cons rfl (fun K hK => ?_) AllReadyH.nil
            go_simp
            refine (isAuth_any s _).mono ?_
            rintro r w4 ⟨rfl, b4⟩
            rw [hsa]
            have S4 : Below W3.heap.size W3 w4 := hS.trans (b4.mono hS.size)
            refine hK.out _ _ S4 (fun hS => ?_)
            clear hK K b4 S4
            refine take1 2 17 (.bool false) rfl rfl (by kernel_rfl) (by kernel_rfl) (by kernel_rfl) (by rfl) (fun _ _ _ h => h) hS (fun w' hS' => ?_) ?_
            · (go_simp) <;> (intro hx9; omega)
            simp only [Act.put, List.setIfInBounds_toArray, List.set_cons_zero, List.set_cons_succ]
            refine take1 3 18 (.bool false) rfl rfl (by kernel_rfl) (by kernel_rfl) (by kernel_rfl) (by rfl) (fun _ _ _ h => h) hS (fun w' hS' => ?_) ?_
            · (go_simp) <;> (intro hx9; omega)
            simp only [Act.put, List.setIfInBounds_toArray, List.set_cons_zero, List.set_cons_succ]
            refine take1 4 19 (.slice (some ⟨b, off, none⟩) xs.length cap) rfl rfl (by kernel_rfl) (by kernel_rfl) (by kernel_rfl) (by rfl) (fun _ _ _ h => h) hS (fun w' hS' => ?_) ?_
            · (go_simp) <;> (intro hx9; omega)
            simp only [Act.put, List.setIfInBounds_toArray, List.set_cons_zero, List.set_cons_succ]
            refine take1 5 20 (.int .i64 (j : Int)) rfl rfl (by kernel_rfl) (by kernel_rfl) (by kernel_rfl) (by rfl) (fun _ _ _ h => h) hS (fun w' hS' => ?_) ?_
            · (go_simp) <;> (intro hx9; omega)
            simp only [Act.put, List.setIfInBounds_toArray, List.set_cons_zero, List.set_cons_succ]
            refine take1 6 21 (.slice (some ⟨b, off, none⟩) j cap) rfl rfl (by kernel_rfl) (by kernel_rfl) (by kernel_rfl) (by rfl) (fun _ _ _ h => h) hS (fun w' hS' => ?_) ?_
            · (go_simp) <;> (intro hx9; omega)
            simp only [Act.put, List.setIfInBounds_toArray, List.set_cons_zero, List.set_cons_succ]
            refine take1 7 22 (Value.agg #[.int .i64 s.k, .int .i64 s.t, .int .i64 s.a, .int .i64 s.b, .int .i64 s.c, .int .i64 s.d, .int .i64 s.e]) rfl rfl (by kernel_rfl) (by kernel_rfl) (by kernel_rfl) (by rfl) (fun _ _ _ h => h) hS (fun w' hS' => ?_) ?_
            · obtain ⟨c0, c1, c2, c3, c4, c5, c6⟩ := HAT.out.later hS' HLT
              simp only [Nat.zero_add] at c1 c2 c3 c4 c5 c6
              (go_simp) <;> (intro hx9; omega)
            simp only [Act.put, List.setIfInBounds_toArray, List.set_cons_zero, List.set_cons_succ]
            refine wpAnyH_ready (rs := [8]) (by kernel_rfl) (by simp) ?_
            refine AllReadyH.cons rfl (fun K hK => ?_) AllReadyH.nil
            go_simp
            have hlj : (xs.take j).length = j := by simp; omega
            have hh := hasSeal_any (some ⟨b, off, none⟩) cap (xs.take j) s w4 (SRow.take (HROW.out.later hS)) (by simp; omega)
            rw [hlj] at hh
            refine hh.mono ?_
            clear hh hlj
            rintro r w5 ⟨rfl, b5⟩
            rw [hsb]
            have S5 : Below W3.heap.size W3 w5 := hS.trans (b5.mono hS.size)
            refine hK.out _ _ S5 (fun hS => ?_)
            clear hK K b5 S5
            refine take1 9 24 (.bool true) rfl rfl (by kernel_rfl) (by kernel_rfl) (by kernel_rfl) (by rfl) (fun _ _ _ h => h) hS (fun w' hS' => ?_) ?_
            · (go_simp) <;> (intro hx9; omega)
            simp only [Act.put, List.setIfInBounds_toArray, List.set_cons_zero, List.set_cons_succ]
            refine wpAnyH_done (by kernel_rfl) ?_ _
            have HE : Hid (Below w.heap.size w w5) := HB3.out.trans (hS.mono HB3.out.size)
            have hcb : cacheB xs = false := by
              have : goodB xs (j + 1) = false := by rw [goodB_succ HS.out, hsb]; simp
              simp [cacheB, goodB_false (n := xs.length) this (by omega)]
            clear hS HB3 HAT HROW
            go_wp2_with fail
            go_ret
            exact ⟨ret_bool hcb.symm, HE.out⟩
      · obtain rfl : j = xs.length := by omega
        have hcb : cacheB xs = true := by simp [cacheB, C.out.2, hl]
        have HE : Hid (Below w.heap.size w wr) := C.out.1
        clear C
        go_wp2_with fail
        go_ret
        exact ⟨ret_bool hcb.symm, HE.out⟩
  · have hcb : cacheB xs = false := by simp [cacheB, hl]
    have hl2 : (20 : Int) < xs.length := by omega
    go_wp2_with fail
    go_ret
    exact ⟨ret_bool hcb.symm, Below.refl _ _⟩

end Go.Proofs.YtghajmfjekfdpaaDoor
