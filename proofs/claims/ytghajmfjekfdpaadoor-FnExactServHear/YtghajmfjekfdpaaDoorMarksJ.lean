/-
  Two seals are the same, or not.
-/
import Derived.Test.YtghajmfjekfdpaaDoorBaseJ
import Derived.Test.YtghajmfjekfdpaaDoorNRowJ
import Derived.OwnWalk
import Derived.Maps.AppendAt
namespace Go.Proofs.YtghajmfjekfdpaaDoor

/-- Two seals have the same seven numbers. -/
def sameS (s u : Sl) : Bool := s.k == u.k && s.t == u.t && s.a == u.a && s.b == u.b && s.c == u.c && s.d == u.d && s.e == u.e
/-- A seal is among seals. -/
def inS (s : Sl) (xs : List Sl) : Bool := xs.any (sameS s)
/-- Two rows of seals are the same. -/
def eqS : List Sl → List Sl → Bool
  | [], [] => true
  | s :: xs, u :: ys => sameS s u && eqS xs ys
  | [], _ :: _ => false
  | _ :: _, [] => false

theorem sl_eq {s u : Sl} (h : s.k = u.k ∧ s.t = u.t ∧ s.a = u.a ∧ s.b = u.b ∧ s.c = u.c ∧ s.d = u.d ∧ s.e = u.e) : s = u := by
  obtain ⟨h1, h2, h3, h4, h5, h6, h7⟩ := h
  cases s; cases u; simp_all
theorem sameS_iff {s u : Sl} : sameS s u = true ↔ s = u := by
  constructor
  · intro h
    simp only [sameS, Bool.and_eq_true, beq_iff_eq] at h
    obtain ⟨⟨⟨⟨⟨⟨h1, h2⟩, h3⟩, h4⟩, h5⟩, h6⟩, h7⟩ := h
    exact sl_eq ⟨h1, h2, h3, h4, h5, h6, h7⟩
  · rintro rfl
    simp [sameS]
theorem inS_iff {s : Sl} {xs : List Sl} : inS s xs = true ↔ s ∈ xs := by
  unfold inS
  rw [List.any_eq_true]
  constructor
  · rintro ⟨u, hu, h⟩
    rw [sameS_iff.1 h]; exact hu
  · intro h
    exact ⟨s, h, sameS_iff.2 rfl⟩
theorem inS_true {s : Sl} {xs : List Sl} (h : s ∈ xs) : inS s xs = true := inS_iff.2 h
theorem inS_false {s : Sl} {xs : List Sl} (h : ¬ s ∈ xs) : inS s xs = false := by
  cases e : inS s xs
  · rfl
  · exact absurd (inS_iff.1 e) h
theorem eqS_iff : ∀ {xs ys : List Sl}, eqS xs ys = true ↔ xs = ys
  | [], [] => by simp [eqS]
  | s :: xs, u :: ys => by rw [eqS, Bool.and_eq_true, sameS_iff, eqS_iff, List.cons.injEq]
  | [], _ :: _ => by simp [eqS]
  | _ :: _, [] => by simp [eqS]
theorem eqS_true {xs ys : List Sl} (h : xs = ys) : eqS xs ys = true := eqS_iff.2 h
theorem eqS_false {xs ys : List Sl} (h : ¬ xs = ys) : eqS xs ys = false := by
  cases e : eqS xs ys
  · rfl
  · exact absurd (eqS_iff.1 e) h
theorem not_in_take {xs : List Sl} {j : Nat} {s u : Sl} (hu : xs[j]? = some u) (h : ¬ s ∈ xs.take j) (hne : ¬ u = s) : ¬ s ∈ xs.take (j + 1) := by
  rw [List.take_add_one, hu, Option.toList_some, List.mem_append, List.mem_singleton]
  rintro (q | q)
  · exact h q
  · exact hne q.symm

end Go.Proofs.YtghajmfjekfdpaaDoor

namespace Go.Proofs.YtghajmfjekfdpaaDoor

/-- What is told of oneself, and ok. -/
def Sl.auth (s : Sl) : Bool := (s.t == 3) && s.ok
/-- It is fresh at a time. -/
def freshB (t now : Int) : Bool := decide (t ≤ now) && decide (now - t ≤ 3)
/-- Of the first so many each is told of oneself, and not there ahead. -/
def goodB (xs : List Sl) : Nat → Bool
  | 0 => true
  | j + 1 => goodB xs j && (match xs[j]? with | some s => s.auth && !inS s (xs.take j) | none => true)
/-- It may be what is remembered. -/
def cacheB (xs : List Sl) : Bool := goodB xs xs.length && decide (xs.length ≤ 20)
/-- What is fresh of it. -/
def keep (now : Int) (xs : List Sl) : List Sl := xs.filter (fun s => freshB s.b now)
/-- One more can be remembered. -/
def takes (now : Int) (xs : List Sl) (a : Sl) : Bool := freshB a.b now && !inS a (keep now xs) && !((keep now xs).length == 20)
/-- What is remembered then. -/
def withL (now : Int) (xs : List Sl) (a : Sl) : List Sl := if takes now xs a then keep now xs ++ [a] else keep now xs
/-- All arguments are ok. -/
def askB (now : Int) (xs : List Sl) (a : Sl) : Bool := cacheB xs && a.auth && inB now 0 100
/-- CacheWith: the list. -/
def cwL (now : Int) (xs : List Sl) (a : Sl) : List Sl := if askB now xs a then withL now xs a else []
/-- CacheWith: whether. -/
def cwB (now : Int) (xs : List Sl) (a : Sl) : Bool := askB now xs a && takes now xs a

theorem goodB_succ {xs : List Sl} {j : Nat} {s : Sl} (h : xs[j]? = some s) : goodB xs (j + 1) = (goodB xs j && (s.auth && !inS s (xs.take j))) := by
  simp [goodB, h]
theorem goodB_less {xs : List Sl} {j n : Nat} (h : goodB xs n = true) (hj : j ≤ n) : goodB xs j = true := by
  induction n with
  | zero => obtain rfl : j = 0 := by omega
            exact h
  | succ n ih =>
    by_cases e : j = n + 1
    · subst e; exact h
    · refine ih ?_ (by omega)
      simp only [goodB, Bool.and_eq_true] at h
      exact h.1
theorem goodB_false {xs : List Sl} {j n : Nat} (h : goodB xs j = false) (hj : j ≤ n) : goodB xs n = false := by
  cases e : goodB xs n
  · rfl
  · rw [goodB_less e hj] at h; cases h
theorem goodB_at {xs : List Sl} {j : Nat} {s : Sl} (h : goodB xs xs.length = true) (hs : xs[j]? = some s) : s.auth = true ∧ inS s (xs.take j) = false := by
  have hj := (List.getElem?_eq_some_iff.1 hs).1
  have := goodB_less h (show j + 1 ≤ xs.length by omega)
  rw [goodB_succ hs] at this
  simpa using (Bool.and_eq_true_iff.1 this).2
theorem cacheB_auth {xs : List Sl} (h : cacheB xs = true) : ∀ s ∈ xs, s.auth = true := by
  intro s hs
  obtain ⟨j, hj⟩ := List.getElem?_of_mem hs
  exact (goodB_at (by simp only [cacheB, Bool.and_eq_true] at h; exact h.1) hj).1
theorem cacheB_len {xs : List Sl} (h : cacheB xs = true) : xs.length ≤ 20 := by
  simp only [cacheB, Bool.and_eq_true, decide_eq_true_eq] at h
  exact h.2
theorem auth_parts {s : Sl} (h : s.auth = true) : s.t = 3 ∧ s.ok = true ∧ 10 ≤ s.k ∧ s.k ≤ 60 ∧ 1 ≤ s.a ∧ s.a ≤ 3 ∧ 0 ≤ s.b ∧ s.b ≤ 100 ∧ 1 ≤ s.c ∧ s.c ≤ 60 ∧ s.d = 0 ∧ s.e = 0 := by
  simp only [Sl.auth, Bool.and_eq_true, beq_iff_eq] at h
  obtain ⟨h1, h2⟩ := h
  refine ⟨h1, h2, ?_⟩
  simp only [Sl.ok, okB, h1] at h2
  simp [ok3, inB] at h2
  omega
theorem auth_of {s : Sl} (h1 : s.t = 3) (h2 : 10 ≤ s.k ∧ s.k ≤ 60) (h3 : 1 ≤ s.a ∧ s.a ≤ 3) (h4 : 0 ≤ s.b ∧ s.b ≤ 100) (h5 : 1 ≤ s.c ∧ s.c ≤ 60) (h6 : s.d = 0) (h7 : s.e = 0) : s.auth = true := by
  simp [Sl.auth, Sl.ok, okB, h1, ok3, inB, h2, h3, h4, h5, h6, h7]
theorem keep_len (now : Int) (xs : List Sl) : (keep now xs).length ≤ xs.length := List.length_filter_le _ _
theorem withL_len (now : Int) (xs : List Sl) (a : Sl) : (withL now xs a).length ≤ xs.length + 1 := by
  have := keep_len now xs
  unfold withL
  split
  · simp; omega
  · omega
theorem cwL_len (now : Int) (xs : List Sl) (a : Sl) : (cwL now xs a).length ≤ xs.length + 1 := by
  have := withL_len now xs a
  unfold cwL
  split
  · omega
  · simp
theorem inB_is {n lo hi : Int} : inB n lo hi = true ↔ lo ≤ n ∧ n ≤ hi := by simp [inB]
theorem freshB_iff {t now : Int} : freshB t now = true ↔ t ≤ now ∧ now - t ≤ 3 := by simp [freshB]
theorem askB_parts {now : Int} {xs : List Sl} {a : Sl} (h : askB now xs a = true) : cacheB xs = true ∧ a.auth = true ∧ 0 ≤ now ∧ now ≤ 100 := by
  simp only [askB, Bool.and_eq_true, inB_is] at h
  exact ⟨h.1.1, h.1.2, h.2.1, h.2.2⟩
/-- On the way: of the first so many what is fresh. -/
theorem keep_take {now : Int} {xs : List Sl} {j : Nat} {s : Sl} (h : xs[j]? = some s) : keep now (xs.take (j + 1)) = keep now (xs.take j) ++ (if freshB s.b now then [s] else []) := by
  unfold keep
  rw [List.take_add_one, h, Option.toList_some, List.filter_append]
  congr 1
  cases hb : freshB s.b now
  · rw [List.filter_cons_of_neg (by rw [hb]; decide)]; rfl
  · rw [List.filter_cons_of_pos (by exact hb)]; rfl

/-- One who gives tickets is ok. -/
def kdcB (n : Int) (xs : List Sl) : Bool := inB n 10 61 && cacheB xs

end Go.Proofs.YtghajmfjekfdpaaDoor

namespace Go.Proofs.YtghajmfjekfdpaaDoor
open Go.RowKit
attribute [local go_sem ↓] Go.wp_at_zero Go.wp_at_succ

theorem marks7 {w : World} {g j : Nat} {k0 : Int} {s : Sl} (hc : ∀ q, q < 7 → ∃ u, w.cell? ⟨g, j * 7 + q, none⟩ = some u) (hb : ∀ i, i < j * 7 → w.cell? ⟨g, i, none⟩ = some (.int .i64 (k0 + i)))
    (h0 : s.k = k0 + (j * 7 : Nat)) (h1 : s.t = k0 + (j * 7 + 1 : Nat)) (h2 : s.a = k0 + (j * 7 + 2 : Nat)) (h3 : s.b = k0 + (j * 7 + 3 : Nat)) (h4 : s.c = k0 + (j * 7 + 4 : Nat)) (h5 : s.d = k0 + (j * 7 + 5 : Nat)) (h6 : s.e = k0 + (j * 7 + 6 : Nat)) :
    ∀ i, i < (j + 1) * 7 → (put7 w g (j * 7) s).cell? ⟨g, i, none⟩ = some (.int .i64 (k0 + i)) := by
  intro i hi
  have hat := put7_at (s := s) hc
  by_cases hi7 : i < j * 7
  · exact (put7_else (by omega)).trans (hb i hi7)
  · rcases (by omega : i = j * 7 ∨ i = j * 7 + 1 ∨ i = j * 7 + 2 ∨ i = j * 7 + 3 ∨ i = j * 7 + 4 ∨ i = j * 7 + 5 ∨ i = j * 7 + 6) with h | h | h | h | h | h | h
    · rw [h, hat.c0, h0]
    · rw [h, hat.c1, h1]
    · rw [h, hat.c2, h2]
    · rw [h, hat.c3, h3]
    · rw [h, hat.c4, h4]
    · rw [h, hat.c5, h5]
    · rw [h, hat.c6, h6]

set_option maxRecDepth 100000 in
set_option maxHeartbeats 2000000 in
theorem markSealS_any (g n cap : Nat) (k0 : Int) (w : World) (h : WB w g (n * 7)) (hn : n ≤ 2000000) (h0 : 0 ≤ k0) (h1 : k0 ≤ 100000000) :
    Calls Tryd.prog 38 #[.slice (some ⟨g, 0, none⟩) n cap, .int .i64 k0] w fun r w' => r = .returned (.int .i64 (k0 + 7 * n)) ∧ Touch g w w' ∧ WB w' g (n * 7) ∧ ∀ i, i < n * 7 → w'.cell? ⟨g, i, none⟩ = some (.int .i64 (k0 + i)) := by
  go_enter Tryd.func38, Tryd.ntmps38
  go_wp2_with fail
  go_loopw [1, 5] (fun k i wr => ∃ (j : Nat), j ≤ n ∧ i = .int .i64 j ∧ k = .int .i64 (k0 + 7 * j) ∧ Hid (Touch g w wr ∧ WB wr g (n * 7) ∧ ∀ i, i < j * 7 → wr.cell? ⟨g, i, none⟩ = some (.int .i64 (k0 + i)))) (fun _ i _ => n - (intOf i).toNat)
  case atStart => exact ⟨0, Nat.zero_le _, rfl, by simp, Touch.refl _ _, h, fun i hi => by omega⟩
  case round =>
    obtain ⟨j, hj, rfl, rfl, C⟩ := hrel
    by_cases hlt : j < n
    · obtain ⟨K, hK⟩ : ∃ K : Int, K = k0 + 7 * j := ⟨_, rfl⟩
      have hall := marks7 (w := wr) (g := g) (j := j) (k0 := k0) (s := ⟨K, K + 1, K + 1 + 1, K + 1 + 1 + 1, K + 1 + 1 + 1 + 1, K + 1 + 1 + 1 + 1 + 1, K + 1 + 1 + 1 + 1 + 1 + 1⟩) (fun q hq => (C.out.2.1.cell (by omega)).1) C.out.2.2 (by dsimp only; omega) (by dsimp only; omega) (by dsimp only; omega) (by dsimp only; omega) (by dsimp only; omega) (by dsimp only; omega) (by dsimp only; omega)
      unfold put7 at hall
      dsimp only at hall
      have HA := Hid.mk' hall
      clear hall
      obtain ⟨⟨v0, d0⟩, f0⟩ := C.out.2.1.cell (o := j * 7) (by omega)
      obtain ⟨⟨v1, d1⟩, f1⟩ := C.out.2.1.cell (o := j * 7 + 1) (by omega)
      obtain ⟨⟨v2, d2⟩, f2⟩ := C.out.2.1.cell (o := j * 7 + 2) (by omega)
      obtain ⟨⟨v3, d3⟩, f3⟩ := C.out.2.1.cell (o := j * 7 + 3) (by omega)
      obtain ⟨⟨v4, d4⟩, f4⟩ := C.out.2.1.cell (o := j * 7 + 4) (by omega)
      obtain ⟨⟨v5, d5⟩, f5⟩ := C.out.2.1.cell (o := j * 7 + 5) (by omega)
      obtain ⟨⟨v6, d6⟩, f6⟩ := C.out.2.1.cell (o := j * 7 + 6) (by omega)
      rw [← hK]
      have w1 : IntKind.i64.wrap (K + 1) = K + 1 := wrapM (by omega) (by omega)
      have w2 : IntKind.i64.wrap (K + 1 + 1) = K + 1 + 1 := wrapM (by omega) (by omega)
      have w3 : IntKind.i64.wrap (K + 1 + 1 + 1) = K + 1 + 1 + 1 := wrapM (by omega) (by omega)
      have w4 : IntKind.i64.wrap (K + 1 + 1 + 1 + 1) = K + 1 + 1 + 1 + 1 := wrapM (by omega) (by omega)
      have w5 : IntKind.i64.wrap (K + 1 + 1 + 1 + 1 + 1) = K + 1 + 1 + 1 + 1 + 1 := wrapM (by omega) (by omega)
      have w6 : IntKind.i64.wrap (K + 1 + 1 + 1 + 1 + 1 + 1) = K + 1 + 1 + 1 + 1 + 1 + 1 := wrapM (by omega) (by omega)
      have w7 : IntKind.i64.wrap (K + 1 + 1 + 1 + 1 + 1 + 1 + 1) = K + 1 + 1 + 1 + 1 + 1 + 1 + 1 := wrapM (by omega) (by omega)
      go_wp2_with fail
      go_roundw
      case rel =>
        refine ⟨j + 1, by omega, by go_num, by first | (congr 1; omega) | (simp; omega), C.out.1.set.set.set.set.set.set.set, C.out.2.1.set.set.set.set.set.set.set, fun i hi => ?_⟩
        subst hK
        exact HA.out i hi
      case measure => simp [intOf]; omega
    · obtain rfl : j = n := by omega
      go_wp2_with fail
      go_ret
      exact ⟨rfl, C.out⟩

end Go.Proofs.YtghajmfjekfdpaaDoor

namespace Go.Proofs.YtghajmfjekfdpaaDoor
open Go.RowKit

/-- A seal's cells. -/
def Sl.cs (s : Sl) : List Value := [.int .i64 s.k, .int .i64 s.t, .int .i64 s.a, .int .i64 s.b, .int .i64 s.c, .int .i64 s.d, .int .i64 s.e]
/-- Those of a row. -/
def cellsL (xs : List Sl) : List Value := xs.flatMap Sl.cs
theorem cellsL_length (xs : List Sl) : (cellsL xs).length = xs.length * 7 := by
  induction xs with
  | nil => rfl
  | cons s xs ih => simp only [cellsL, List.flatMap_cons, List.length_append, List.length_cons] at ih ⊢; rw [ih]; simp [Sl.cs]; omega
theorem cellsL_add (xs : List Sl) (s : Sl) : cellsL (xs ++ [s]) = cellsL xs ++ s.cs := by simp [cellsL]
theorem cellsL_at {s : Sl} : ∀ {xs : List Sl} {i : Nat}, xs[i]? = some s → ∀ q, q < 7 → (cellsL xs)[i * 7 + q]? = s.cs[q]?
  | [], i, h, _, _ => by simp at h
  | x :: xs, 0, h, q, hq => by
    simp at h; subst h
    simp only [cellsL, List.flatMap_cons, Nat.zero_mul, Nat.zero_add]
    rw [List.getElem?_append_left (by simp [Sl.cs]; omega)]
  | x :: xs, i + 1, h, q, hq => by
    have ih := cellsL_at (xs := xs) (i := i) (by simpa using h) q hq
    simp only [cellsL, List.flatMap_cons] at ih ⊢
    rw [List.getElem?_append_right (by simp [Sl.cs]; omega), ← ih]
    congr 1; simp [Sl.cs]; omega
/-- A row of one's own is a row of seals. -/
theorem own_row {w : World} {base n : Nat} {v : Value} {xs : List Sl} (h : w.ownsRow base 64 7 v n (cellsL xs)) : ∃ a cap, v = .slice a xs.length cap ∧ xs.length ≤ cap ∧ SRow w a xs ∧ (xs ≠ [] → ∃ g, a = some ⟨g, 0, none⟩ ∧ base ≤ g) := by
  have hn : xs.length = n := by have := h.1; rw [cellsL_length] at this; omega
  have hc := fun g hg => h.cells (g := g) hg
  obtain ⟨_, ⟨rfl, h0⟩ | ⟨g, cap, cur, rfl, hb, hh, hnc, _⟩⟩ := h
  · obtain rfl : xs = [] := List.eq_nil_of_length_eq_zero (by omega)
    exact ⟨none, 0, rfl, Nat.le_refl _, Or.inl rfl, fun hx => absurd rfl hx⟩
  · refine ⟨some ⟨g, 0, none⟩, cap, by rw [hn], by omega, Or.inr ⟨g, 0, rfl, (Array.getElem?_eq_some_iff.1 hh).1, fun i s hs => ?_⟩, fun _ => ⟨g, rfl, hb⟩⟩
    have hg : ∀ q u, q < 7 → s.cs[q]? = some u → w.cell? ⟨g, 0 + i * 7 + q, none⟩ = some u := by
      intro q u hq hu
      have := hc g rfl (i * 7 + q) u (by rw [cellsL_at hs q hq, hu])
      by_cases e : i * 7 + q = 0
      · have e' : 0 + i * 7 + q = 0 := by omega
        rw [e'] ; rw [e] at this; simpa [Addr.add] using this
      · rw [Addr.add, if_neg e] at this
        simpa [Nat.add_assoc] using this
    exact ⟨by simpa using hg 0 _ (by omega) rfl, hg 1 _ (by omega) rfl, hg 2 _ (by omega) rfl, hg 3 _ (by omega) rfl, hg 4 _ (by omega) rfl, hg 5 _ (by omega) rfl, hg 6 _ (by omega) rfl⟩

theorem infoSealM : (Tryd.prog.info? 64).map (fun i => (i.zero, i.size, i.bytes)) = some (some (.agg #[.int .i64 0, .int .i64 0, .int .i64 0, .int .i64 0, .int .i64 0, .int .i64 0, .int .i64 0]), 7, 56) := by kernel_rfl
theorem cs_one (s : Sl) : ∀ u ∈ s.cs, u.oneCell' = true := by
  intro u hu
  simp [Sl.cs] at hu
  rcases hu with rfl | rfl | rfl | rfl | rfl | rfl | rfl <;> rfl
theorem cs_at {w : World} {bk : Nat} {s : Sl} (hat : SealAt w bk 0 s) : ∀ j u, s.cs[j]? = some u → w.cell? ((⟨bk, 0, none⟩ : Addr).add j) = some u := by
  intro j u hu
  have h7 : j < 7 := by have := (List.getElem?_eq_some_iff.1 hu).1; simpa [Sl.cs] using this
  obtain ⟨c0, c1, c2, c3, c4, c5, c6⟩ := hat
  obtain rfl | rfl | rfl | rfl | rfl | rfl | rfl : j = 0 ∨ j = 1 ∨ j = 2 ∨ j = 3 ∨ j = 4 ∨ j = 5 ∨ j = 6 := by omega
  all_goals (simp [Sl.cs] at hu; subst hu; simpa [Addr.add] using (by assumption))
/-- One seal more behind a row of one's own, and where it lies then. -/
theorem app_seal_at {w : World} {o : Oper} {a : Act} {K : Act → World → Prop} {Q : Exit → Act → World → Prop} (d : Nat) (hd : o.dst = some d) (x y : Operand)
    (ho : o.op = .call { callee := .builtin .append, args := #[x, y], argTypes := #[29, 29] }) (base : Nat) (v : Value) (xs : List Sl) (s : Sl) (hx : a.eval x = v) (hown : w.ownsRow base 64 7 v xs.length (cellsL xs))
    (bk : Nat) (hy : a.eval y = .slice (some ⟨bk, 0, none⟩) 1 1) (hat : SealAt w bk 0 s) (hlen : xs.length ≤ 2000000) (hbase : base ≤ w.heap.size)
    (h : ∀ g cap w', w'.ownsRow base 64 7 (.slice (some ⟨g, 0, none⟩) (xs.length + 1) cap) (xs.length + 1) (cellsL xs ++ s.cs) → w.grownBy w' v.ownBlock → (some g = v.ownBlock ∨ g = w.heap.size) → K (a.put (some d) (.slice (some ⟨g, 0, none⟩) (xs.length + 1) cap)) w') : o.wp Tryd.prog a w K Q := by
  obtain ⟨i0, hi, hz0, hz1, hz2⟩ := info_parts infoSealM
  obtain ⟨v', w', hr, h2, h3, h4, h5⟩ := run_append_own_at (P := Tryd.prog) w base 29 o.type 64 i0 (.agg #[.int .i64 0, .int .i64 0, .int .i64 0, .int .i64 0, .int .i64 0, .int .i64 0, .int .i64 0]) 7 56 Tryd.underlying29 hi hz0 hz1 hz2 rfl (by decide) v xs.length (cellsL xs) hown ⟨bk, 0, none⟩ 1 1 s.cs rfl (cs_at hat) (cs_one s) (by unfold maxLen; omega) (by omega) hbase
  have h2' := h2
  obtain ⟨_, ⟨_, h0⟩ | ⟨g, cap, _, rfl, _⟩⟩ := h2'
  · omega
  unfold Oper.wp execOp
  simp only [ho, resolve, invoke, builtin, Sem.run_bind, Sem.run_pure, Result.andThen_ok, List.map_toArray, List.map_cons, List.map_nil, hx, hy, hr]
  have h6 : some g = v.ownBlock ∨ g = w.heap.size := by
    rcases h5 with h | h
    · exact Or.inl h
    · exact Or.inr (by simpa [Value.ownBlock] using h)
  have := h g cap w' h2 h3 h6
  rw [← hd] at this
  exact this

end Go.Proofs.YtghajmfjekfdpaaDoor

namespace Go.Proofs.YtghajmfjekfdpaaDoor
open Go.RowKit

theorem append_nothing {P : Program} (w : World) (base : Nat) (t ty e : TypeId) (i : TypeInfo) (size : Nat) (ht : P.underlying t = some (.slice e)) (hi : P.info? e = some i) (v : Value) (n : Nat) (xs : List Value) (hown : w.ownsRow base e size v n xs) (c : Nat) :
    (Builtin.append_ #[t, t] ty #[v, .slice none 0 c]).run P w = .ok v w := by
  rcases hown.2 with ⟨rfl, rfl⟩ | ⟨g, cap, cur, rfl, _, _, hn, _⟩
  · simp [Builtin.append_, run_underlying ht, sizeOf, typeInfo, hi, Builtin.lenOf, Builtin.firstCells]
  · simp [Builtin.append_, run_underlying ht, sizeOf, typeInfo, hi, Builtin.lenOf, Builtin.firstCells, storeCells, hn]

theorem append_row {P : Program} (w : World) (base : Nat) (t ty e : TypeId) (i : TypeInfo) (z : Value) (size bytes : Nat) (ht : P.underlying t = some (.slice e)) (hi : P.info? e = some i) (hz : i.zero = some z)
    (hsize : i.size = size) (hby : i.bytes = bytes) (hzs : z.cells.size = size) (hsz : 0 < size) (v : Value) (n : Nat) (xs : List Value) (hown : w.ownsRow base e size v n xs)
    (a : Option Addr) (m c : Nat) (news : List Value) (hl : news.length = m * size) (hsrc : m = 0 ∨ ∃ ad, a = some ad ∧ ∀ j u, news[j]? = some u → w.cell? (ad.add j) = some u) (h1 : ∀ u ∈ news, u.oneCell' = true)
    (h63 : n + m ≤ maxLen) (hbytes : (n + m) * bytes ≤ 140737488355328) (hbase : base ≤ w.heap.size) :
    ∃ v' w', (Builtin.append_ #[t, t] ty #[v, .slice a m c]).run P w = .ok v' w' ∧ w'.ownsRow base e size v' (n + m) (xs ++ news) ∧ w.grownBy w' v.ownBlock := by
  cases a with
  | none =>
    have hm : m = 0 := by
      rcases hsrc with h | ⟨ad, h, _⟩
      · exact h
      · cases h
    subst hm
    have hn : news = [] := List.length_eq_zero_iff.1 (by simpa using hl)
    subst hn
    exact ⟨v, w, append_nothing w base t ty e i size ht hi v n xs hown c, by simpa using hown, ⟨rfl, rfl, rfl, Nat.le_refl _, fun _ _ _ => rfl⟩⟩
  | some ad =>
    have hnews : ∀ j u, news[j]? = some u → w.cell? (ad.add j) = some u := by
      rcases hsrc with h | ⟨ad', h, h'⟩
      · subst h
        have hn : news = [] := List.length_eq_zero_iff.1 (by simpa using hl)
        subst hn
        intro j u hj
        simp at hj
      · cases h
        exact h'
    obtain ⟨v', w', hr, h2, h3, _⟩ := run_append_own_at (P := P) w base t ty e i z size bytes ht hi hz hsize hby hzs hsz v n xs hown ad m c news hl hnews h1 h63 hbytes hbase
    exact ⟨v', w', hr, h2, h3⟩

theorem cellsL_app (xs ys : List Sl) : cellsL (xs ++ ys) = cellsL xs ++ cellsL ys := by simp [cellsL]
theorem cellsL_one (xs : List Sl) : ∀ u ∈ cellsL xs, u.oneCell' = true := by
  intro u hu
  obtain ⟨s, _, hs⟩ := List.mem_flatMap.1 hu
  exact cs_one s u hs
/-- A row of seals of the call's own. -/
def OwnS (w : World) (base : Nat) (v : Value) (xs : List Sl) : Prop := w.ownsRow base 64 7 v xs.length (cellsL xs)
theorem SRow.src {w : World} {g off : Nat} {xs : List Sl} (h : ∀ (i : Nat) s, xs[i]? = some s → SealAt w g (off + i * 7) s) : ∀ j u, (cellsL xs)[j]? = some u → w.cell? ((⟨g, off, none⟩ : Addr).add j) = some u := by
  intro j u hu
  have hj : j < xs.length * 7 := by have := (List.getElem?_eq_some_iff.1 hu).1; rwa [cellsL_length] at this
  have hadd : (⟨g, off, none⟩ : Addr).add j = ⟨g, off + j, none⟩ := by unfold Addr.add; split <;> simp_all
  rw [hadd]
  obtain ⟨i, q, hq, rfl⟩ : ∃ i q, q < 7 ∧ j = i * 7 + q := ⟨j / 7, j % 7, Nat.mod_lt _ (by decide), by omega⟩
  obtain ⟨s, hs⟩ : ∃ s, xs[i]? = some s := ⟨xs[i], List.getElem?_eq_getElem (by omega)⟩
  rw [cellsL_at hs q hq] at hu
  obtain ⟨c0, c1, c2, c3, c4, c5, c6⟩ := h i s hs
  rw [← Nat.add_assoc]
  obtain rfl | rfl | rfl | rfl | rfl | rfl | rfl : q = 0 ∨ q = 1 ∨ q = 2 ∨ q = 3 ∨ q = 4 ∨ q = 5 ∨ q = 6 := by omega
  all_goals (simp [Sl.cs] at hu; subst hu; assumption)

/-- Seals behind seals, for the walk. -/
theorem wpList_app_seals (w : World) {ops : Array Oper} {rest : List Oper} {o : Oper} {a : Act} {Q : Exit → Act → World → Prop} (hgd : o.guard = none) (s x : Operand)
    (ho : o.op = .call { callee := .builtin .append, args := #[s, x], argTypes := #[29, 29] }) (base : Nat) (v : Value) (zs : List Sl) (hs : a.eval s = v) (h : OwnS w base v zs) (b : Option Addr) (xs : List Sl) (c : Nat) (hx : a.eval x = .slice b xs.length c) (hr : SRow w b xs)
    (hq : zs.length + xs.length ≤ 2000000) (hB : base ≤ w.heap.size)
    (hK : ∀ b' c' w', OwnS w' base (.slice b' (zs ++ xs).length c') (zs ++ xs) → w.grownBy w' v.ownBlock → wpList Tryd.prog ops Q rest (a.put o.dst (.slice b' (zs ++ xs).length c')) w') : wpList Tryd.prog ops Q (o :: rest) a w := by
  refine wpList_plain hgd fun K hK' => ?_
  obtain ⟨i0, hi, hz0, hz1, hz2⟩ := info_parts infoSealM
  obtain ⟨v', w', hrun, h1, h2⟩ := append_row w base 29 o.type 64 i0 (.agg #[.int .i64 0, .int .i64 0, .int .i64 0, .int .i64 0, .int .i64 0, .int .i64 0, .int .i64 0]) 7 56 Tryd.underlying29 hi hz0 hz1 hz2 rfl (by decide) v zs.length (cellsL zs) h b xs.length c (cellsL xs) (cellsL_length xs)
    (by
      rcases hr with hr | ⟨g, off, rfl, _, hr⟩
      · exact Or.inl (by rw [hr]; rfl)
      · exact Or.inr ⟨_, rfl, SRow.src hr⟩)
    (cellsL_one xs) (by unfold maxLen; omega) (by omega) hB
  have ho1 : OwnS w' base v' (zs ++ xs) := by unfold OwnS; rw [cellsL_app, List.length_append]; exact h1
  obtain ⟨b', c', rfl, _⟩ := own_row ho1
  unfold Oper.wp execOp
  simp only [ho, resolve, invoke, builtin, Sem.run_bind, Sem.run_pure, Result.andThen_ok, List.map_toArray, List.map_cons, List.map_nil, hs, hx, hrun]
  exact hK' _ _ (hK b' c' w' ho1 h2)

theorem OwnS.rowAt {w : World} {base : Nat} {a : Option Addr} {n c : Nat} {zs : List Sl} (h : OwnS w base (.slice a n c) zs) : SRow w a zs := by
  obtain ⟨a', c', e, _, r, _⟩ := own_row h
  injection e with e1 e2 e3
  rw [e1]; exact r

theorem OwnS.later {w w' : World} {base : Nat} {v : Value} {zs : List Sl} (h : OwnS w base v zs) (hb : Below w.heap.size w w') : OwnS w' base v zs := by
  refine ⟨h.1, h.2.imp id ?_⟩
  rintro ⟨b, cap, cur, h1, h2, h3, h4⟩
  exact ⟨b, cap, cur, h1, h2, (hb.block b (Array.getElem?_eq_some_iff.1 h3).1).trans h3, h4⟩
theorem OwnS.row {w : World} {base : Nat} {v : Value} {zs : List Sl} (h : OwnS w base v zs) : ∃ a cap, v = .slice a zs.length cap ∧ SRow w a zs := by
  obtain ⟨a, cap, e, _, r, _⟩ := own_row h
  exact ⟨a, cap, e, r⟩

theorem wp_app_seals {w : World} {o : Oper} {a : Act} {K : Act → World → Prop} {Q : Exit → Act → World → Prop} (s x : Operand)
    (ho : o.op = .call { callee := .builtin .append, args := #[s, x], argTypes := #[29, 29] }) (base : Nat) (v : Value) (zs : List Sl) (hs : a.eval s = v) (h : OwnS w base v zs) (b : Option Addr) (xs : List Sl) (c : Nat) (hx : a.eval x = .slice b xs.length c) (hr : SRow w b xs)
    (hq : zs.length + xs.length ≤ 2000000) (hB : base ≤ w.heap.size)
    (hK : ∀ b' c' w', OwnS w' base (.slice b' (zs ++ xs).length c') (zs ++ xs) → w.grownBy w' v.ownBlock → K (a.put o.dst (.slice b' (zs ++ xs).length c')) w') : Oper.wp Tryd.prog o a w K Q := by
  obtain ⟨i0, hi, hz0, hz1, hz2⟩ := info_parts infoSealM
  obtain ⟨v', w', hrun, h1, h2⟩ := append_row w base 29 o.type 64 i0 (.agg #[.int .i64 0, .int .i64 0, .int .i64 0, .int .i64 0, .int .i64 0, .int .i64 0, .int .i64 0]) 7 56 Tryd.underlying29 hi hz0 hz1 hz2 rfl (by decide) v zs.length (cellsL zs) h b xs.length c (cellsL xs) (cellsL_length xs)
    (by
      rcases hr with hr | ⟨g, off, rfl, _, hr⟩
      · exact Or.inl (by rw [hr]; rfl)
      · exact Or.inr ⟨_, rfl, SRow.src hr⟩)
    (cellsL_one xs) (by unfold maxLen; omega) (by omega) hB
  have ho1 : OwnS w' base v' (zs ++ xs) := by unfold OwnS; rw [cellsL_app, List.length_append]; exact h1
  obtain ⟨b', c', rfl, _⟩ := own_row ho1
  unfold Oper.wp execOp
  simp only [ho, resolve, invoke, builtin, Sem.run_bind, Sem.run_pure, Result.andThen_ok, List.map_toArray, List.map_cons, List.map_nil, hs, hx, hrun]
  exact hK b' c' w' ho1 h2

theorem OwnS.lo {w : World} {base : Nat} {v : Value} {zs : List Sl} (h : OwnS w base v zs) : ∀ k, v.ownBlock = some k → base ≤ k := fun k hk => (World.ownsRow.lt h k hk).1
theorem OwnS.zero (w : World) {base : Nat} (hb : base ≤ w.heap.size) : OwnS (w.alloc (.cells #[] 64)) base (.slice (some ⟨w.heap.size, 0, none⟩) 0 0) [] :=
  ⟨rfl, Or.inr ⟨w.heap.size, 0, #[], rfl, hb, heap_alloc_new _ _, Nat.le_refl _, Nat.zero_le _, rfl, rfl⟩⟩

theorem own_type {w : World} {base e size n g : Nat} {v : Value} {xs : List Value} (h : w.ownsRow base e size v n xs) (hg : v.ownBlock = some g) : ∃ cur, w.heap[g]? = some (.cells cur e (0, 0)) := by
  rcases h.2 with ⟨rfl, _⟩ | ⟨g', cap, cur, rfl, _, h3, _⟩
  · cases hg
  · obtain rfl : g' = g := by injection hg
    exact ⟨cur, h3⟩
theorem own_keep {w w' : World} {base e size n : Nat} {v : Value} {xs : List Value} (h : w.ownsRow base e size v n xs) (hb : ∀ g, v.ownBlock = some g → w'.heap[g]? = w.heap[g]?) : w'.ownsRow base e size v n xs := by
  refine ⟨h.1, h.2.imp id ?_⟩
  rintro ⟨g, cap, cur, rfl, h2, h3, h4⟩
  exact ⟨g, cap, cur, rfl, h2, (hb g rfl).trans h3, h4⟩
theorem type_ne {w : World} {g g' t t' : Nat} {c c' : Array Value} (h : w.heap[g]? = some (.cells c t (0, 0))) (h' : w.heap[g']? = some (.cells c' t' (0, 0))) (hne : t ≠ t') : g ≠ g' := by
  rintro rfl
  rw [h] at h'
  injection h' with h'
  injection h' with _ h2
  exact hne h2

end Go.Proofs.YtghajmfjekfdpaaDoor

namespace Go.Proofs.YtghajmfjekfdpaaDoor
open Go.RowKit

set_option maxRecDepth 100000 in
theorem markSeal_nil (a : Option Addr) (cap : Nat) (k0 : Int) (w : World) :
    Calls Tryd.prog 38 #[.slice a 0 cap, .int .i64 k0] w fun r w' => r = .returned (.int .i64 k0) ∧ w' = w := by
  go_enter Tryd.func38, Tryd.ntmps38
  go_wp2_with fail
  refine wp_loop_rounds 1 ?_
  rw [rounds_succ]
  go_wp2_with fail
  go_ret
  exact ⟨rfl, rfl⟩
set_option maxRecDepth 100000 in
theorem heldSeal_nil (a : Option Addr) (cap : Nat) (k0 : Int) (w : World) :
    Calls Tryd.prog 39 #[.slice a 0 cap, .int .i64 k0] w fun r w' => r = .returned (.int .i64 k0) ∧ w' = w := by
  go_enter Tryd.func39, Tryd.ntmps39
  go_wp2_with fail
  refine wp_loop_rounds 1 ?_
  rw [rounds_succ]
  go_wp2_with fail
  go_ret
  exact ⟨rfl, rfl⟩

set_option maxRecDepth 100000 in
set_option maxHeartbeats 2000000 in
theorem heldSealS_any (g n cap : Nat) (k0 : Int) (w : World) (h : ∀ i, i < n * 7 → w.cell? ⟨g, i, none⟩ = some (.int .i64 (k0 + i))) (hn : n ≤ 2000000) (h0 : 0 ≤ k0) (h1 : k0 ≤ 100000000) :
    Calls Tryd.prog 39 #[.slice (some ⟨g, 0, none⟩) n cap, .int .i64 k0] w fun r w' => r = .returned (.int .i64 (k0 + 7 * n)) ∧ w' = w := by
  go_enter Tryd.func39, Tryd.ntmps39
  go_wp2_with fail
  go_loopw [1, 5] (fun k i wr => ∃ (j : Nat), j ≤ n ∧ i = .int .i64 j ∧ k = .int .i64 (k0 + 7 * j) ∧ Hid (wr = w)) (fun _ i _ => n - (intOf i).toNat)
  case atStart => exact ⟨0, Nat.zero_le _, rfl, by simp, rfl⟩
  case round =>
    obtain ⟨j, hj, rfl, rfl, C⟩ := hrel
    obtain rfl : wr = w := C.out
    by_cases hlt : j < n
    · obtain ⟨K, hK⟩ : ∃ K : Int, K = k0 + 7 * j := ⟨_, rfl⟩
      have d0 : wr.cell? ⟨g, j * 7, none⟩ = some (.int .i64 K) := (h (j * 7) (by omega)).trans (by congr 2; simp; omega)
      have d1 : wr.cell? ⟨g, j * 7 + 1, none⟩ = some (.int .i64 (K + 1)) := (h (j * 7 + 1) (by omega)).trans (by congr 2; simp; omega)
      have d2 : wr.cell? ⟨g, j * 7 + 2, none⟩ = some (.int .i64 (K + 1 + 1)) := (h (j * 7 + 2) (by omega)).trans (by congr 2; simp; omega)
      have d3 : wr.cell? ⟨g, j * 7 + 3, none⟩ = some (.int .i64 (K + 1 + 1 + 1)) := (h (j * 7 + 3) (by omega)).trans (by congr 2; simp; omega)
      have d4 : wr.cell? ⟨g, j * 7 + 4, none⟩ = some (.int .i64 (K + 1 + 1 + 1 + 1)) := (h (j * 7 + 4) (by omega)).trans (by congr 2; simp; omega)
      have d5 : wr.cell? ⟨g, j * 7 + 5, none⟩ = some (.int .i64 (K + 1 + 1 + 1 + 1 + 1)) := (h (j * 7 + 5) (by omega)).trans (by congr 2; simp; omega)
      have d6 : wr.cell? ⟨g, j * 7 + 6, none⟩ = some (.int .i64 (K + 1 + 1 + 1 + 1 + 1 + 1)) := (h (j * 7 + 6) (by omega)).trans (by congr 2; simp; omega)
      rw [← hK]
      have w1 : IntKind.i64.wrap (K + 1) = K + 1 := wrapM (by omega) (by omega)
      have w2 : IntKind.i64.wrap (K + 1 + 1) = K + 1 + 1 := wrapM (by omega) (by omega)
      have w3 : IntKind.i64.wrap (K + 1 + 1 + 1) = K + 1 + 1 + 1 := wrapM (by omega) (by omega)
      have w4 : IntKind.i64.wrap (K + 1 + 1 + 1 + 1) = K + 1 + 1 + 1 + 1 := wrapM (by omega) (by omega)
      have w5 : IntKind.i64.wrap (K + 1 + 1 + 1 + 1 + 1) = K + 1 + 1 + 1 + 1 + 1 := wrapM (by omega) (by omega)
      have w6 : IntKind.i64.wrap (K + 1 + 1 + 1 + 1 + 1 + 1) = K + 1 + 1 + 1 + 1 + 1 + 1 := wrapM (by omega) (by omega)
      have w7 : IntKind.i64.wrap (K + 1 + 1 + 1 + 1 + 1 + 1 + 1) = K + 1 + 1 + 1 + 1 + 1 + 1 + 1 := wrapM (by omega) (by omega)
      clear h
      go_wp2_with fail
      go_roundw
      case rel => exact ⟨j + 1, by omega, by go_num, by first | (congr 1; omega) | (simp; omega), by first | rfl | trivial⟩
      case measure => simp [intOf]; omega
    · obtain rfl : j = n := by omega
      clear h
      go_wp2_with fail
      go_ret
      exact ⟨rfl, rfl⟩

/-- The marks lie in the row. -/
def Mk7 (w : World) (v : Value) (n : Nat) (k0 : Int) : Prop := ∃ a cap, v = .slice a n cap ∧ (n = 0 ∨ ∃ g, a = some ⟨g, 0, none⟩ ∧ g < w.heap.size ∧ ∀ i, i < n * 7 → w.cell? ⟨g, i, none⟩ = some (.int .i64 (k0 + i)))
theorem Mk7.later {w w' : World} {v : Value} {n : Nat} {k0 : Int} (h : Mk7 w v n k0) (hb : Below w.heap.size w w') : Mk7 w' v n k0 := by
  obtain ⟨a, cap, rfl, h | ⟨g, rfl, hg, h⟩⟩ := h
  · exact ⟨a, cap, rfl, Or.inl h⟩
  · exact ⟨_, cap, rfl, Or.inr ⟨g, rfl, Nat.lt_of_lt_of_le hg hb.size, fun i hi => ((bcell hb).1 _ _ hg).trans (h i hi)⟩⟩
theorem markSeal_own {w : World} {base : Nat} {v : Value} {zs : List Sl} (k0 : Int) (h : OwnS w base v zs) (hn : zs.length ≤ 2000000) (h0 : 0 ≤ k0) (h1 : k0 ≤ 100000000) :
    Calls Tryd.prog 38 #[v, .int .i64 k0] w fun r w' => r = .returned (.int .i64 (k0 + 7 * zs.length)) ∧ Below base w w' ∧ Mk7 w' v zs.length k0 := by
  rcases h.2 with ⟨rfl, h2⟩ | ⟨g, cap, cur, rfl, h2, h3, h4, _, h5, _⟩
  · refine (markSeal_nil none 0 k0 w).mono ?_
    rintro r w' ⟨rfl, rfl⟩
    exact ⟨by rw [h2]; simp, Below.refl _ _, none, 0, by rw [h2], Or.inl h2⟩
  · refine (markSealS_any g zs.length cap k0 w ⟨cur, _, h3, by omega⟩ hn h0 h1).mono ?_
    rintro r w' ⟨rfl, ht, hw, hc⟩
    exact ⟨rfl, ht.below h2, _, cap, rfl, Or.inr ⟨g, rfl, hw.lt, hc⟩⟩
theorem heldSeal_own {w : World} {v : Value} {n : Nat} (k0 : Int) (h : Mk7 w v n k0) (hn : n ≤ 2000000) (h0 : 0 ≤ k0) (h1 : k0 ≤ 100000000) :
    Calls Tryd.prog 39 #[v, .int .i64 k0] w fun r w' => r = .returned (.int .i64 (k0 + 7 * n)) ∧ w' = w := by
  obtain ⟨a, cap, rfl, h | ⟨g, rfl, hg, h⟩⟩ := h
  · subst h
    refine (heldSeal_nil a cap k0 w).mono ?_
    rintro r w' ⟨rfl, rfl⟩
    exact ⟨by simp, rfl⟩
  · exact heldSealS_any g n cap k0 w h hn h0 h1
theorem OwnS.touch {w w' : World} {base g : Nat} {v : Value} {zs : List Sl} (h : OwnS w base v zs) (ht : Touch g w w') (hg : g < base) : OwnS w' base v zs := by
  refine ⟨h.1, h.2.imp id ?_⟩
  rintro ⟨b, cap, cur, h1, h2, h3, h4⟩
  exact ⟨b, cap, cur, h1, h2, (ht.block b (by omega)).trans h3, h4⟩

end Go.Proofs.YtghajmfjekfdpaaDoor

namespace Go.Proofs.YtghajmfjekfdpaaDoor
open Go.RowKit
attribute [local go_sem ↓] Go.wp_at_zero Go.wp_at_succ

/-- On the way: so many seals are copied into a row of the call's own. -/
structure Tr (W : World) (n : Nat) (xs : List Sl) (j : Nat) (w : World) : Prop where
  below : Below W.heap.size W w
  row : ∃ cur, w.heap[W.heap.size]? = some (.cells cur 64 (0, 0)) ∧ cur.size = n * 7
  done : ∀ (i : Nat) s, i < j → xs[i]? = some s → SealAt w W.heap.size (i * 7) s
theorem Tr.lt {W : World} {n : Nat} {xs : List Sl} {j : Nat} {w : World} (h : Tr W n xs j w) : W.heap.size < w.heap.size := by
  obtain ⟨cur, hc, _⟩ := h.row
  exact (Array.getElem?_eq_some_iff.1 hc).1
theorem Tr.later {W : World} {n : Nat} {xs : List Sl} {j : Nat} {w w' : World} (h : Tr W n xs j w) (hb : Below w.heap.size w w') : Tr W n xs j w' :=
  ⟨h.below.trans (hb.mono h.below.size), h.row.imp fun _ hc => ⟨(hb.block _ h.lt).trans hc.1, hc.2⟩, fun i s hi hs => (h.done i s hi hs).later hb h.lt⟩
theorem Tr.cell {W : World} {n : Nat} {xs : List Sl} {j : Nat} {w : World} (h : Tr W n xs j w) {o : Nat} (ho : o < n * 7) : (∃ v, w.cell? ⟨W.heap.size, o, none⟩ = some v) ∧ w.frozen? ⟨W.heap.size, o, none⟩ = false := by
  obtain ⟨cur, hc, hn⟩ := h.row
  have ho' : o < cur.size := by omega
  exact ⟨⟨cur[o], by simp [World.cell?, hc, ho']⟩, by simp [World.frozen?, hc]⟩

theorem Tr.step {W : World} {n : Nat} {xs : List Sl} {j : Nat} {w : World} {s : Sl} (h : Tr W n xs j w) (hj : j < n) (hs : xs[j]? = some s) : Tr W n xs (j + 1) (put7 w W.heap.size (j * 7) s) := by
  refine ⟨put7_below h.below (Nat.le_refl _), put7_row h.row, fun i u hi hu => ?_⟩
  by_cases e : i = j
  · subst e
    obtain rfl : s = u := Option.some.inj (hs.symm.trans hu)
    exact put7_at fun q hq => (h.cell (by omega)).1
  · have hd := h.done i u (by omega) hu
    exact ⟨(put7_else (by omega)).trans hd.c0, (put7_else (by omega)).trans hd.c1, (put7_else (by omega)).trans hd.c2, (put7_else (by omega)).trans hd.c3, (put7_else (by omega)).trans hd.c4, (put7_else (by omega)).trans hd.c5, (put7_else (by omega)).trans hd.c6⟩

set_option maxRecDepth 100000 in
set_option maxHeartbeats 1000000 in
theorem toSealS_wb (a : Option Addr) (cap : Nat) (xs : List Sl) (w : World) (h : SRow w a xs) (hx : xs.length ≤ 2000000) :
    Calls Tryd.prog 29 #[.slice a xs.length cap] w fun r w' => r = .returned (.slice (some ⟨w.heap.size, 0, none⟩) xs.length xs.length) ∧ SRow w' (some ⟨w.heap.size, 0, none⟩) xs ∧ (∃ cur, w'.heap[w.heap.size]? = some (.cells cur 64 (0, 0)) ∧ cur.size = xs.length * 7) ∧ Below w.heap.size w w' := by
  obtain ⟨i0, hi, hz0, hz1, hz2⟩ := info_parts infoSeal
  go_enter Tryd.func29, Tryd.ntmps29
  go_wp2_with fail
  rw [run_makeSlice w 29 64 i0 _ Tryd.underlying29 hi hz0 .i64 .i64 xs.length xs.length (by omega) (by omega) (by rw [hz1]; omega) (by rw [hz2]; omega) (by omega)]
  rw [hz1]
  simp only [Int.toNat_natCast]
  obtain ⟨W1, hW1⟩ : ∃ W1, W1 = w.alloc (.cells (madeCells (Value.agg #[.int .i64 0, .int .i64 0, .int .i64 0, .int .i64 0, .int .i64 0, .int .i64 0, .int .i64 0]).cells (xs.length * 7)) 64) := ⟨_, rfl⟩
  rw [← hW1]
  have T0 : Hid (Tr w xs.length xs 0 W1) := by
    subst hW1
    exact ⟨(Below.refl _ _).alloc (Nat.le_refl _) _, ⟨_, heap_alloc_new _ _, by simp [madeCells]⟩, fun i s hi => by omega⟩
  clear hW1 hi hz0 hz1 hz2
  go_wp2_with fail
  go_loopw [4] (fun i wr => ∃ (j : Nat), j ≤ xs.length ∧ i = .int .i64 j ∧ Hid (Tr w xs.length xs j wr)) (fun i _ => xs.length - (intOf i).toNat)
  case atStart => exact ⟨0, Nat.zero_le _, rfl, T0⟩
  case round =>
    obtain ⟨j, hj, rfl, C⟩ := hrel
    by_cases hlt : j < xs.length
    · obtain ⟨s, hs⟩ : ∃ s, xs[j]? = some s := ⟨xs[j], List.getElem?_eq_getElem hlt⟩
      rcases h with h | ⟨b, off, rfl, hl, h⟩
      · simp [h] at hlt
      obtain ⟨c0, c1, c2, c3, c4, c5, c6⟩ := (h j s hs).later C.out.below hl
      clear h
      go_wp2_with fail
      refine (toSeal_any _ _ _ _ _ _ _ _).mono ?_
      rintro r w2 ⟨rfl, hb2⟩
      have C2 : Hid (Tr w xs.length xs j w2) := C.out.later hb2
      clear c0 c1 c2 c3 c4 c5 c6 C hb2
      obtain ⟨⟨v0, d0⟩, f0⟩ := C2.out.cell (o := j * 7) (by omega)
      obtain ⟨⟨v1, d1⟩, f1⟩ := C2.out.cell (o := j * 7 + 1) (by omega)
      obtain ⟨⟨v2, d2⟩, f2⟩ := C2.out.cell (o := j * 7 + 2) (by omega)
      obtain ⟨⟨v3, d3⟩, f3⟩ := C2.out.cell (o := j * 7 + 3) (by omega)
      obtain ⟨⟨v4, d4⟩, f4⟩ := C2.out.cell (o := j * 7 + 4) (by omega)
      obtain ⟨⟨v5, d5⟩, f5⟩ := C2.out.cell (o := j * 7 + 5) (by omega)
      obtain ⟨⟨v6, d6⟩, f6⟩ := C2.out.cell (o := j * 7 + 6) (by omega)
      have hlw := C2.out.lt
      have hst : xs[j]? = some s := hs
      go_wp2_with fail
      refine ⟨⟨j + 1, by omega, by go_num, (C2.out.step hlt hst)⟩, by simp [intOf]; omega⟩
    · obtain rfl : j = xs.length := by omega
      have HA : Hid (Tr w xs.length xs xs.length wr) := C.out
      clear C T0 h
      go_wp2_with fail
      go_ret
      refine ⟨rfl, Or.inr ⟨w.heap.size, 0, rfl, HA.out.lt, fun i s hs => ?_⟩, HA.out.row, HA.out.below⟩
      have := HA.out.done i s (by have := (List.getElem?_eq_some_iff.1 hs).1; omega) hs
      rw [Nat.zero_add]; exact this
theorem toSealS_any (a : Option Addr) (cap : Nat) (xs : List Sl) (w : World) (h : SRow w a xs) (hx : xs.length ≤ 2000000) :
    Calls Tryd.prog 29 #[.slice a xs.length cap] w fun r w' => r = .returned (.slice (some ⟨w.heap.size, 0, none⟩) xs.length xs.length) ∧ SRow w' (some ⟨w.heap.size, 0, none⟩) xs ∧ Below w.heap.size w w' :=
  (toSealS_wb a cap xs w h hx).mono fun _ _ ⟨h1, h2, _, h4⟩ => ⟨h1, h2, h4⟩

set_option maxRecDepth 100000 in
set_option maxHeartbeats 1000000 in
theorem eqSeal_same (s : Sl) (w : World) : Calls Tryd.prog 71 #[s.v, s.v] w fun r w' => r = .returned (.bool true) ∧ Below w.heap.size w w' := by
  unfold Sl.v
  go_enter Tryd.func71, Tryd.ntmps71
  go_wp2_with fail
  go_ret
  exact ⟨rfl, ((Below.refl _ _).alloc (Nat.le_refl _) _).alloc (by simp) _⟩

end Go.Proofs.YtghajmfjekfdpaaDoor

namespace Go.Proofs.YtghajmfjekfdpaaDoor
open Go.RowKit
attribute [local go_sem ↓] Go.wp_at_zero Go.wp_at_succ

set_option maxHeartbeats 1000000 in
set_option maxRecDepth 100000 in
theorem eqSealS_same (a1 a2 : Option Addr) (p1 p2 : Nat) (xs : List Sl) (w : World) (h1 : SRow w a1 xs) (h2 : SRow w a2 xs) (hx : xs.length ≤ 2000000) :
    Calls Tryd.prog 37 #[.slice a1 xs.length p1, .slice a2 xs.length p2] w fun r w' => r = .returned (.bool true) ∧ Below w.heap.size w w' := by
  go_enter Tryd.func37, Tryd.ntmps37
  go_wp2_with fail
  go_loopw [5] (fun i wr => ∃ (j : Nat), j ≤ xs.length ∧ i = .int .i64 j ∧ Hid (Below w.heap.size w wr)) (fun i _ => xs.length - (intOf i).toNat)
  case atStart => exact ⟨0, Nat.zero_le _, rfl, Below.refl _ _⟩
  case round =>
    obtain ⟨j, hj, rfl, C⟩ := hrel
    by_cases hlt : j < xs.length
    · obtain ⟨s, hs⟩ : ∃ s, xs[j]? = some s := ⟨xs[j], List.getElem?_eq_getElem hlt⟩
      rcases h1 with h | ⟨b, off, rfl, hl, h1⟩
      · simp [h] at hlt
      rcases h2 with h | ⟨b2, off2, rfl, hl2, h2⟩
      · simp [h] at hlt
      have hS0 : SealAt wr.drew b (off + j * 7) s ∧ SealAt wr.drew b2 (off2 + j * 7) s := ⟨(h1 j s hs).later C.out.drew hl, (h2 j s hs).later C.out.drew hl2⟩
      have hbd := C.out.drew
      clear h1 h2
      go_wp2_with fail
      refine wp_region_held_drew (S := fun w' => SealAt w' b (off + j * 7) s ∧ SealAt w' b2 (off2 + j * 7) s) (by kernel_rfl) hS0 (fun hS => ?_)
      refine take1 0 17 (.slice (some ⟨b, off, none⟩) xs.length p1) rfl rfl (by kernel_rfl) (by kernel_rfl) (by kernel_rfl) (by rfl) (fun _ _ _ h => h) hS (fun w' hS' => ?_) ?_
      · go_simp
      simp only [Act.put, List.setIfInBounds_toArray, List.set_cons_zero, List.set_cons_succ]
      refine take1 1 18 (.int .i64 j) rfl rfl (by kernel_rfl) (by kernel_rfl) (by kernel_rfl) (by rfl) (fun _ _ _ h => h) hS (fun w' hS' => ?_) ?_
      · go_simp
      simp only [Act.put, List.setIfInBounds_toArray, List.set_cons_zero, List.set_cons_succ]
      refine take1 2 19 (.pointer (some ⟨b, off + j * 7, none⟩)) rfl rfl (by kernel_rfl) (by kernel_rfl) (by kernel_rfl) (by rfl) (fun _ _ _ h => h) hS (fun w' hS' => ?_) ?_
      · go_simp
      simp only [Act.put, List.setIfInBounds_toArray, List.set_cons_zero, List.set_cons_succ]
      refine take1 3 20 ((Value.agg #[.int .i64 s.k, .int .i64 s.t, .int .i64 s.a, .int .i64 s.b, .int .i64 s.c, .int .i64 s.d, .int .i64 s.e])) rfl rfl (by kernel_rfl) (by kernel_rfl) (by kernel_rfl) (by rfl) (fun _ _ _ h => h) hS (fun w' hS' => ?_) ?_
      · obtain ⟨⟨c0, c1, c2, c3, c4, c5, c6⟩, _⟩ := hS'
        go_simp
      simp only [Act.put, List.setIfInBounds_toArray, List.set_cons_zero, List.set_cons_succ]
      refine take1 4 21 (.slice (some ⟨b2, off2, none⟩) xs.length p2) rfl rfl (by kernel_rfl) (by kernel_rfl) (by kernel_rfl) (by rfl) (fun _ _ _ h => h) hS (fun w' hS' => ?_) ?_
      · go_simp
      simp only [Act.put, List.setIfInBounds_toArray, List.set_cons_zero, List.set_cons_succ]
      refine take1 5 22 (.int .i64 j) rfl rfl (by kernel_rfl) (by kernel_rfl) (by kernel_rfl) (by rfl) (fun _ _ _ h => h) hS (fun w' hS' => ?_) ?_
      · go_simp
      simp only [Act.put, List.setIfInBounds_toArray, List.set_cons_zero, List.set_cons_succ]
      refine take1 6 23 (.pointer (some ⟨b2, off2 + j * 7, none⟩)) rfl rfl (by kernel_rfl) (by kernel_rfl) (by kernel_rfl) (by rfl) (fun _ _ _ h => h) hS (fun w' hS' => ?_) ?_
      · go_simp
      simp only [Act.put, List.setIfInBounds_toArray, List.set_cons_zero, List.set_cons_succ]
      refine take1 7 24 ((Value.agg #[.int .i64 s.k, .int .i64 s.t, .int .i64 s.a, .int .i64 s.b, .int .i64 s.c, .int .i64 s.d, .int .i64 s.e])) rfl rfl (by kernel_rfl) (by kernel_rfl) (by kernel_rfl) (by rfl) (fun _ _ _ h => h) hS (fun w' hS' => ?_) ?_
      · obtain ⟨_, ⟨c0, c1, c2, c3, c4, c5, c6⟩⟩ := hS'
        go_simp
      simp only [Act.put, List.setIfInBounds_toArray, List.set_cons_zero, List.set_cons_succ]
      refine wpAnyH_ready (rs := [8]) (by kernel_rfl) (by simp) ?_
      refine AllReadyH.cons rfl (fun K hK => ?_) AllReadyH.nil
      go_simp
      refine (eqSeal_same s _).mono ?_
      rintro r w2 ⟨rfl, hb2⟩
      have hsz := C.out.size
      have C2 : Hid (Below w.heap.size w w2) := hbd.trans (hb2.mono (by simpa using hsz))
      refine hK.out _ _ ⟨hS.1.later hb2 (by simp; omega), hS.2.later hb2 (by simp; omega)⟩ (fun hS2 => ?_)
      clear hK K hb2 hbd hS hS0 C
      refine take1 9 26 (.bool false) rfl rfl (by kernel_rfl) (by kernel_rfl) (by kernel_rfl) (by rfl) (fun _ _ _ h => h) hS2 (fun w' hS' => ?_) ?_
      · go_simp
      simp only [Act.put, List.setIfInBounds_toArray, List.set_cons_zero, List.set_cons_succ]
      refine wpAnyH_done (by kernel_rfl) ?_ _
      clear hS2
      go_wp2_with fail
      go_roundw
      case rel => exact ⟨j + 1, by omega, by go_num, C2⟩
      case measure => simp [intOf]; omega
    · obtain rfl : j = xs.length := by omega
      go_wp2_with fail
      go_ret
      exact ⟨rfl, C.out⟩

set_option maxHeartbeats 400000 in
theorem szSealS_short (a : Option Addr) (len cap : Nat) (w : World) (hl : len ≤ 1048576) :
    Calls Tryd.prog 24 #[.slice a len cap, .int .i64 1048576] w fun r w' => r = .returned (.int .i64 (1048576 - (len : Int))) ∧ w' = w := by
  have hw : IntKind.i64.wrap (1048576 - (len : Int)) = 1048576 - (len : Int) := wrapM (by omega) (by omega)
  have hn : ¬ (1048576 - (len : Int)) < 0 := by omega
  go_enter Tryd.func24, Tryd.ntmps24
  go_wp2_with fail
  go_ret
  exact ⟨rfl, rfl⟩
set_option maxHeartbeats 400000 in
theorem szSealS_long (a : Option Addr) (len cap : Nat) (w : World) (hl : 1048576 < len) (hm : len ≤ 9223372036854775807) :
    Calls Tryd.prog 24 #[.slice a len cap, .int .i64 1048576] w fun r w' => r = .returned (.int .i64 (-1)) ∧ w' = w := by
  have hw : IntKind.i64.wrap (1048576 - (len : Int)) = 1048576 - (len : Int) := wrapM (by omega) (by omega)
  have hn : (1048576 - (len : Int)) < 0 := by omega
  go_enter Tryd.func24, Tryd.ntmps24
  go_wp2_with fail
  go_ret
  exact ⟨rfl, rfl⟩
end Go.Proofs.YtghajmfjekfdpaaDoor

namespace Go.Proofs.YtghajmfjekfdpaaDoor
open Go.RowKit

/-- What is left behind so many. -/
def leftI (q : Int) (len : Nat) : Int := if q - len < 0 then -1 else q - len
set_option maxHeartbeats 400000 in
theorem szSealS_any (a : Option Addr) (len cap : Nat) (q : Int) (w : World) (hq : 0 ≤ q) (hq2 : q ≤ 1048576) (hm : len ≤ 9223372036854775807) :
    Calls Tryd.prog 24 #[.slice a len cap, .int .i64 q] w fun r w' => r = .returned (.int .i64 (leftI q len)) ∧ w' = w := by
  have hw : IntKind.i64.wrap (q - (len : Int)) = q - (len : Int) := wrapM (by omega) (by omega)
  unfold leftI
  by_cases hn : q - (len : Int) < 0
  · rw [if_pos hn]
    go_enter Tryd.func24, Tryd.ntmps24
    go_wp2_with fail
    go_ret
    exact ⟨rfl, rfl⟩
  · rw [if_neg hn]
    go_enter Tryd.func24, Tryd.ntmps24
    go_wp2_with fail
    go_ret
    exact ⟨rfl, rfl⟩

end Go.Proofs.YtghajmfjekfdpaaDoor

namespace Go.Proofs.YtghajmfjekfdpaaDoor
open Go.RowKit

set_option maxHeartbeats 1000000 in
set_option maxRecDepth 100000 in
theorem toKdc_any (n : Int) (a : Option Addr) (cap : Nat) (xs : List Sl) (w : World) (h : SRow w a xs) (hx : xs.length ≤ 2000000) :
    Calls Tryd.prog 8 #[.agg #[.int .i64 n, .slice a xs.length cap]] w fun r w' => ∃ g, r = .returned (.agg #[.int .i64 n, .slice (some ⟨g, 0, none⟩) xs.length xs.length]) ∧ w.heap.size ≤ g ∧ SRow w' (some ⟨g, 0, none⟩) xs ∧ WB w' g (xs.length * 7) ∧ Below w.heap.size w w' := by
  obtain ⟨W, hW⟩ : ∃ W, W = (((w.alloc (.cells #[.int .i64 n, .slice a xs.length cap] 24)).alloc (.cells #[.int .i64 0, .slice none 0 0] 31)).alloc (.cells #[.int .i64 n, .slice none 0 0] 31)) := ⟨_, rfl⟩
  have hz : W.heap.size = w.heap.size + 3 := by subst hW; simp
  have B0 : Below w.heap.size w W := hW ▸ (((Below.refl _ _).alloc (Nat.le_refl _) _).alloc (by simp) _).alloc (by simp; omega) _
  have k0 : W.cell? ⟨w.heap.size + 1 + 1, 0, none⟩ = some (.int .i64 n) := by subst hW; go_simp
  have k1 : W.cell? ⟨w.heap.size + 1 + 1, 1, none⟩ = some (.slice none 0 0) := by subst hW; go_simp
  have r0 : W.cell? ⟨w.heap.size + 1, 0, none⟩ = some (.int .i64 0) := by subst hW; go_simp
  have r1 : W.cell? ⟨w.heap.size + 1, 1, none⟩ = some (.slice none 0 0) := by subst hW; go_simp
  have fk : W.frozen? ⟨w.heap.size + 1 + 1, 1, none⟩ = false := by subst hW; go_simp
  have fr0 : W.frozen? ⟨w.heap.size + 1, 0, none⟩ = false := by subst hW; go_simp
  have fr1 : W.frozen? ⟨w.heap.size + 1, 1, none⟩ = false := by subst hW; go_simp
  go_enter Tryd.func8, Tryd.ntmps8
  go_wp2_with fail
  rw [← hW]
  clear hW
  refine (toSealS_wb a cap xs _ (h.later B0) hx).mono ?_
  rintro r w2 ⟨rfl, hr2, ⟨cu2, hc2, hs2⟩, hb2⟩
  have hz2 := hb2.size
  obtain ⟨hc, hf⟩ := bcell hb2
  rw [← hc _ _ (by omega)] at k0 r0
  rw [← hc _ _ (by omega)] at k1 r1
  rw [← hf _ _ (by omega)] at fr0
  rw [← hf _ _ (by omega)] at fr1
  rw [← hf _ _ (by omega)] at fk
  have hl1 : w.heap.size + 1 < w2.heap.size := by omega
  have hl2 : w.heap.size + 1 + 1 < w2.heap.size := by omega
  have HR : Hid (SRow w2 (some ⟨w.heap.size + 3, 0, none⟩) xs ∧ Below w.heap.size w w2 ∧ WB w2 (w.heap.size + 3) (xs.length * 7)) := by
    rw [hz] at hr2 hc2
    exact ⟨hr2, B0.trans (hb2.mono (by omega)), cu2, _, hc2, by omega⟩
  clear hr2 hb2 B0 hc hf h hc2 hs2
  go_wp2_with fail
  refine bodyPost_ret (v := .agg #[.int .i64 n, .slice (some ⟨w.heap.size + 3, 0, none⟩) xs.length xs.length]) (by simp [results, Tryd.results8, go_sem, *]) rfl ⟨_, rfl, by omega, ?_, ?_, ?_⟩
  · exact (((HR.out.1.set (by omega)).set (by omega)).set (by omega))
  · refine HR.out.2.2.same ?_
    simp [World.setCell, Array.getElem?_modify]
  · have h1 := HR.out.2.1
    exact (((h1.setCell (p := ⟨_, _, none⟩) (by simp; omega) _).setCell (p := ⟨_, _, none⟩) (by simp) _).setCell (p := ⟨_, _, none⟩) (by simp) _)
set_option maxHeartbeats 1000000 in
set_option maxRecDepth 100000 in
theorem eqKdc_same (n : Int) (a1 a2 : Option Addr) (c1 c2 : Nat) (xs : List Sl) (w : World) (h1 : SRow w a1 xs) (h2 : SRow w a2 xs) (hx : xs.length ≤ 2000000) :
    Calls Tryd.prog 11 #[.agg #[.int .i64 n, .slice a1 xs.length c1], .agg #[.int .i64 n, .slice a2 xs.length c2]] w fun r w' => r = .returned (.bool true) ∧ Below w.heap.size w w' := by
  go_enter Tryd.func11, Tryd.ntmps11
  have hb : Below w.heap.size w ((w.alloc (.cells #[.int .i64 n, .slice a1 xs.length c1] 31)).alloc (.cells #[.int .i64 n, .slice a2 xs.length c2] 31)) := (Below.alloc_ _ _).trans ((Below.alloc_ _ _).mono (by simp))
  have HB : Hid (Below w.heap.size w ((w.alloc (.cells #[.int .i64 n, .slice a1 xs.length c1] 31)).alloc (.cells #[.int .i64 n, .slice a2 xs.length c2] 31))) := hb
  clear hb
  go_wp2_with fail
  refine (eqSealS_same a1 a2 c1 c2 xs _ (h1.later HB.out) (h2.later HB.out) hx).mono ?_
  rintro r w2 ⟨rfl, b2⟩
  go_wp2_with fail
  go_ret
  exact ⟨rfl, HB.out.trans (b2.mono HB.out.size)⟩
set_option maxHeartbeats 1000000 in
theorem szKdc_any (n : Int) (a : Option Addr) (len cap : Nat) (q : Int) (w : World) (hq : 0 ≤ q) (hq2 : q ≤ 1048576) (hm : len ≤ 9223372036854775807) :
    Calls Tryd.prog 5 #[.agg #[.int .i64 n, .slice a len cap], .int .i64 q] w fun r w' => r = .returned (.int .i64 (leftI q len)) ∧ Below w.heap.size w w' := by
  go_enter Tryd.func5, Tryd.ntmps5
  go_wp2_with fail
  refine (szSealS_any a len cap q _ hq hq2 hm).mono ?_
  rintro r w2 ⟨rfl, rfl⟩
  by_cases hn : leftI q len < 0
  · have hl : leftI q len = -1 := by
      unfold leftI at hn ⊢
      split at hn
      · rw [if_pos (by assumption)]
      · omega
    have HL : Hid (leftI q len = -1) := hl
    go_wp2_with fail
    go_ret
    exact ⟨ret_int HL.out.symm, Below.alloc_ _ _⟩
  · go_wp2_with fail
    go_ret
    exact ⟨rfl, Below.alloc_ _ _⟩

set_option maxHeartbeats 1000000 in
/-- Marks in a row of the call's own. -/
theorem markKdc_own (n : Int) {w : World} {base : Nat} {v : Value} {zs : List Sl} (k0 : Int) (h : OwnS w base v zs) (hB : base ≤ w.heap.size) (hn : zs.length ≤ 2000000) (h0 : 0 ≤ k0) (h1 : k0 ≤ 100000000) :
    Calls Tryd.prog 13 #[.agg #[.int .i64 n, v], .int .i64 k0] w fun r w' => r = .returned (.int .i64 (k0 + 7 * zs.length)) ∧ Below base w w' ∧ Mk7 w' v zs.length k0 := by
  obtain ⟨a, cap, rfl, _⟩ := h.row
  have HO : Hid (OwnS w base (.slice a zs.length cap) zs) := h
  clear h
  go_enter Tryd.func13, Tryd.ntmps13
  go_wp2_with fail
  refine (markSeal_own k0 (OwnS.later HO.out (Below.alloc_ _ _)) hn h0 h1).mono ?_
  rintro r w2 ⟨rfl, b2, m2⟩
  go_wp2_with fail
  go_ret
  exact ⟨rfl, ((Below.alloc_ _ _).mono hB).trans b2, m2⟩
set_option maxHeartbeats 1000000 in
/-- Marks in a row that may be written. -/
theorem markKdc_row (n : Int) (g len cap : Nat) (k0 : Int) (w : World) (h : WB w g (len * 7)) (hn : len ≤ 2000000) (h0 : 0 ≤ k0) (h1 : k0 ≤ 100000000) :
    Calls Tryd.prog 13 #[.agg #[.int .i64 n, .slice (some ⟨g, 0, none⟩) len cap], .int .i64 k0] w fun r w' => r = .returned (.int .i64 (k0 + 7 * len)) ∧ w.grownBy w' (some g) := by
  have hg := h.lt
  have HW : Hid (WB (w.alloc (.cells #[.int .i64 n, .slice (some ⟨g, 0, none⟩) len cap] 31)) g (len * 7)) := h.same (Below.heap_alloc _ _ _ hg)
  clear h
  go_enter Tryd.func13, Tryd.ntmps13
  go_wp2_with fail
  refine (markSealS_any g len cap k0 _ HW.out hn h0 h1).mono ?_
  rintro r w2 ⟨rfl, t2, _, _⟩
  go_wp2_with fail
  go_ret
  exact ⟨rfl, (World.grownBy_alloc _ _ _).trans ⟨t2.os, t2.tape, t2.output, Nat.le_of_eq t2.size.symm, fun k _ hk => t2.block k (fun e => hk (by rw [e]))⟩⟩
set_option maxHeartbeats 1000000 in
/-- They are held. -/
theorem heldKdc_own (n : Int) {w : World} {v : Value} {len : Nat} (k0 : Int) (h : Mk7 w v len k0) (hn : len ≤ 2000000) (h0 : 0 ≤ k0) (h1 : k0 ≤ 100000000) :
    Calls Tryd.prog 15 #[.agg #[.int .i64 n, v], .int .i64 k0] w fun r w' => r = .returned (.int .i64 (k0 + 7 * len)) ∧ Below w.heap.size w w' := by
  have HM : Hid (Mk7 w v len k0) := h
  have hk : ¬ (k0 + 7 * (len : Int)) < 0 := by omega
  obtain ⟨a, cap, rfl, _⟩ := h
  go_enter Tryd.func15, Tryd.ntmps15
  go_wp2_with fail
  refine (heldSeal_own k0 (HM.out.later (Below.alloc_ _ _)) hn h0 h1).mono ?_
  rintro r w2 ⟨rfl, hw⟩
  rw [hw]
  clear hw w2
  go_wp2_with fail
  go_ret
  exact ⟨rfl, Below.alloc_ _ _⟩

/-- One who gives tickets lies in a block of its own. -/
def KBlk (w : World) (b : Nat) (n : Int) (v : Value) : Prop := w.heap[b]? = some (.cells #[.int .i64 n, v] 31 (0, 0))
theorem KBlk.lt {w : World} {b : Nat} {n : Int} {v : Value} (h : KBlk w b n v) : b < w.heap.size := (Array.getElem?_eq_some_iff.1 h).1
theorem KBlk.later {w w' : World} {b : Nat} {n : Int} {v : Value} (h : KBlk w b n v) (hb : Below w.heap.size w w') : KBlk w' b n v := (hb.block _ h.lt).trans h
theorem KBlk.new (w : World) (n : Int) (v : Value) : KBlk (w.alloc (.cells #[.int .i64 n, v] 31)) w.heap.size n v := heap_alloc_new _ _
theorem KBlk.cells {w : World} {b : Nat} {n : Int} {v : Value} (h : KBlk w b n v) : w.cell? ⟨b, 0, none⟩ = some (.int .i64 n) ∧ w.cell? ⟨b, 1, none⟩ = some v := by
  unfold KBlk at h
  constructor <;> simp [World.cell?, h]
theorem KBlk.base {w w' : World} {b B : Nat} {n : Int} {v : Value} (h : KBlk w b n v) (hb : Below B w w') (hB : b < B) : KBlk w' b n v := (hb.block _ hB).trans h
theorem KBlk.grown {w w' : World} {b : Nat} {n : Int} {v : Value} {r : Option Nat} (h : KBlk w b n v) (hb : w.grownBy w' r) (hB : some b ≠ r) : KBlk w' b n v := (hb.block _ h.lt hB).trans h

end Go.Proofs.YtghajmfjekfdpaaDoor
