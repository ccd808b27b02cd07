/-
  Who gives tickets for services: what is answered: plain mathematics; and what is kept of two results on the way.
-/
import Derived.Test.YtghajmfjekfdpaaDoorKdcJ
import Derived.Test.YtghajmfjekfdpaaDoorKdcShown
import Derived.Test.YtghajmfjekfdpaaDoorStJ
namespace Go.Proofs.YtghajmfjekfdpaaDoor
open Go.RowKit

/-- What one who gives tickets answers: what he is behind it, the word, and whether. -/
structure KdA where
  n : Int
  X : List Sl
  m : Int
  c : Int
  s : Int
  f : Int
  Y : List Sl
  T : Bool
def noK : KdA := ⟨0, [], 0, 0, 0, 0, [], false⟩
def keepK (n : Int) (xs : List Sl) : KdA := ⟨n, xs, 0, 0, 0, 0, [], false⟩
/-- What is answered of a word that asks so, of two seals. -/
def giveK (n : Int) (xs : List Sl) (sv nc : Int) (t u : Sl) (now : Int) : KdA :=
  if shB t u 6 now = true then
    (if takes now xs u = true then ⟨n + 1, withL now xs u, 4, t.a, 0, 0, [tick t.a sv n now t.e, part t.c sv n nc t.e], true⟩ else keepK n (withL now xs u))
  else keepK n xs
/-- What is answered of who shows a first ticket, all being ok. -/
def askK (n : Int) (xs : List Sl) (m cl sv nc : Int) (ys : List Sl) (now : Int) : KdA :=
  if canB 3 n m cl sv nc ys = true then (match ys with
      | [t, u] => giveK n xs sv nc t u now
      | _ => keepK n xs) else keepK n xs
/-- What is answered of who shows a first ticket. -/
def tgsK (n : Int) (xs : List Sl) (m cl sv nc : Int) (ys : List Sl) (now : Int) : KdA :=
  if okA n xs now = true then askK n xs m cl sv nc ys now else noK
def KAns (B : Nat) (w' : World) (A : KdA) (r : Ending) : Prop := (∃ a' c' a2 c2 B1 B2, r = .returned (.tuple #[.agg #[.int .i64 A.n, .slice a' A.X.length c'], .agg #[.int .i64 A.m, .int .i64 A.c, .int .i64 A.s, .int .i64 A.f, .slice a2 A.Y.length c2], .bool A.T]) ∧ OwnS w' B1 (.slice a' A.X.length c') A.X ∧ OwnS w' B2 (.slice a2 A.Y.length c2) A.Y ∧ B ≤ B1 ∧ (B ≤ B2 ∧ ∀ k, (Value.slice a' A.X.length c').ownBlock = some k → k < B2))
def KRet (B : Nat) (w w' : World) (A : KdA) (r : Ending) : Prop := KAns B w' A r ∧ Below B w w'
/-- Two seals in a new block. -/
theorem own_two (w : World) {B : Nat} (hB : B ≤ w.heap.size) (s u : Sl) : OwnS (w.alloc (.cells #[.int .i64 s.k, .int .i64 s.t, .int .i64 s.a, .int .i64 s.b, .int .i64 s.c, .int .i64 s.d, .int .i64 s.e, .int .i64 u.k, .int .i64 u.t, .int .i64 u.a, .int .i64 u.b, .int .i64 u.c, .int .i64 u.d, .int .i64 u.e] 64)) B (.slice (some ⟨w.heap.size, 0, none⟩) 2 2) [s, u] :=
  ⟨by simp [cellsL, Sl.cs], Or.inr ⟨w.heap.size, 2, _, rfl, hB, heap_alloc_new _ _, Nat.le_refl _, by decide, by simp, by simp [cellsL, Sl.cs]⟩⟩
theorem two_of {ys : List Sl} (h : slB ys 2 = true) : ∃ t u, ys = [t, u] ∧ t.ok = true ∧ u.ok = true := by
  unfold slB at h
  simp only [Bool.and_eq_true] at h
  have hl : ys.length = 2 := by have h2 := h.2; simp at h2; omega
  have ha := List.all_eq_true.1 h.1
  match ys, hl with
  | [t, u], _ => exact ⟨t, u, rfl, ha t (by simp), ha u (by simp)⟩
theorem can3 {n m cl sv nc : Int} {ys : List Sl} (h : canB 3 n m cl sv nc ys = true) : m = 3 ∧ n ≤ 60 ∧ ∃ t u, ys = [t, u] ∧ t.ok = true ∧ u.ok = true := by
  unfold canB at h
  simp only [Bool.and_eq_true, decide_eq_true_eq, beq_iff_eq] at h
  obtain ⟨⟨rfl, h1⟩, h2⟩ := h
  refine ⟨rfl, h2, two_of ?_⟩
  unfold msgB at h1
  simp at h1
  exact h1.2
theorem shB_auth {t u : Sl} {id now : Int} (h : shB t u id now = true) (hu : u.ok = true) : u.auth = true := by
  unfold shB at h
  simp only [Bool.and_eq_true, decide_eq_true_eq] at h
  simp [Sl.auth, hu, h.2.1.1]
theorem cw_ok {n : Int} {xs : List Sl} {u : Sl} {now : Int} (h1 : kdcB n xs = true) (h2 : inB now 0 100 = true) (hu : u.auth = true) : cwB now xs u = takes now xs u ∧ cwL now xs u = withL now xs u := by
  have hq : askB now xs u = true := by
    unfold kdcB at h1
    simp only [Bool.and_eq_true] at h1
    simp [askB, h1.2, hu, h2]
  exact ⟨by simp [cwB, hq], by simp [cwL, hq]⟩
theorem srow_two {w : World} {g : Nat} {t u : Sl} (h : SRow w (some ⟨g, 0, none⟩) [t, u]) : SealAt w g 0 t ∧ SealAt w g 7 u := by
  rcases h with h | ⟨b, off, e, _, h⟩
  · cases h
  · injection e with e
    injection e with e1 e2
    subst e1 e2
    have h0 := h 0 t rfl
    have h1 := h 1 u rfl
    simpa using And.intro h0 h1
theorem srow_two' {w : World} {g : Nat} {t u : Sl} {ys : List Sl} (h : SRow w (some ⟨g, 0, none⟩) ys) (e : ys = [t, u]) : SealAt w g 0 t ∧ SealAt w g 7 u := srow_two (e ▸ h)
theorem srow_lt {w : World} {g : Nat} {ys : List Sl} (h : SRow w (some ⟨g, 0, none⟩) ys) (h0 : 0 < ys.length) : g < w.heap.size := by
  rcases h with h | ⟨b, off, e, hb, h⟩
  · subst h; simp at h0
  · injection e with e
    injection e with e1 e2
    subst e1
    exact hb
theorem keep_imp {sel : Obj → Bool} {P : World → Prop} (c : Prop) (h : Keep sel P) : Keep sel (fun w => c → P w) := fun w w' hp hs hk hc => h w w' (hp hc) hs hk
theorem ite_yes {c : Prop} [Decidable c] {A B : Prop} (h : c) (x : A) : (if c then A else B) := by rw [if_pos h]; exact x
/-- Two results, taken apart in a region that draws its order: the row, and whether. -/
def TwS (iC iT iA iB sC sT sA sB : Nat) (d : Nat → Bool) (s : Nat → Value) (tb : Bool) (B : Nat) (L : List Sl) (W : World) : Prop :=
  ∃ v, (d iC = true → s sC = Value.tuple #[v, .bool tb] ∧ OwnS W B v L) ∧ (d iT = true → s sT = Value.tuple #[v, .bool tb]) ∧ (d iA = true → s sA = v) ∧ (d iB = true → s sB = v)
theorem keep_TwS (iC iT iA iB sC sT sA sB : Nat) (d : Nat → Bool) (s : Nat → Value) (tb : Bool) (B : Nat) (L : List Sl) : Keep (selT 64) (TwS iC iT iA iB sC sT sA sB d s tb B L) := fun w w' ⟨v, h1, h2⟩ hs hk =>
  ⟨v, fun e => ⟨(h1 e).1, keep_owns B v L w w' (h1 e).2 hs hk⟩, h2⟩

end Go.Proofs.YtghajmfjekfdpaaDoor
