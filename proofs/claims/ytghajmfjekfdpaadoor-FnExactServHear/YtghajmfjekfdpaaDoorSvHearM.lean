/-
  A service that hears that somebody calls: what is answered: plain mathematics.
-/
import Derived.Test.YtghajmfjekfdpaaDoorKdTgsM
import Derived.Test.YtghajmfjekfdpaaDoorSvOk
namespace Go.Proofs.YtghajmfjekfdpaaDoor
open Go.RowKit

/-- What a service answers: what it is behind it, the word, and whether. -/
structure HvA where
  i : Int
  s : Int
  X : List Sl
  C : List Ca
  m : Int
  c : Int
  v : Int
  f : Int
  Y : List Sl
  T : Bool
def noH : HvA := ⟨0, 0, [], [], 0, 0, 0, 0, [], false⟩
def keepH (i s : Int) (xs : List Sl) (ts : List Ca) : HvA := ⟨i, s, xs, ts, 0, 0, 0, 0, [], false⟩
/-- What is answered of who called. -/
def backS (u : Sl) : Sl := ⟨u.k, 4, u.b, u.c, 0, 0, 0⟩
def giveH (i s : Int) (xs : List Sl) (ts : List Ca) (t u : Sl) (now : Int) : HvA :=
  if shB t u i now = true ∧ s < u.b then
    (if takes now xs u = true then ⟨i, s, withL now xs u, ts ++ [⟨u.a, u.k, u.b, u.c⟩], 6, u.a, 0, 0, [backS u], true⟩ else keepH i s (withL now xs u) ts)
  else keepH i s xs ts
/-- What is answered, all being ok. -/
def askH (i s : Int) (xs : List Sl) (ts : List Ca) (m cl sv nc : Int) (ys : List Sl) (now : Int) : HvA :=
  if m = 5 ∧ msgB m cl sv nc ys = true ∧ sv = i then (match ys with
    | [t, u] => giveH i s xs ts t u now
    | _ => keepH i s xs ts) else keepH i s xs ts
def hearA (i s : Int) (xs : List Sl) (ts : List Ca) (m cl sv nc : Int) (ys : List Sl) (now : Int) : HvA :=
  if servB i s xs ts = true ∧ inB now 0 100 = true then askH i s xs ts m cl sv nc ys now else noH
def HAns (B : Nat) (w' : World) (A : HvA) (r : Ending) : Prop := ∃ b1 e1 b2 e2 b3 e3 B2, r = .returned (.tuple #[.agg #[.int .i64 A.i, .int .i64 A.s, .slice b1 A.X.length e1, .slice b2 A.C.length e2], .agg #[.int .i64 A.m, .int .i64 A.c, .int .i64 A.v, .int .i64 A.f, .slice b3 A.Y.length e3], .bool A.T]) ∧ OwnS w' B (.slice b1 A.X.length e1) A.X ∧ OwnN celC 90 w' B (.slice b2 A.C.length e2) A.C ∧ OwnS w' B2 (.slice b3 A.Y.length e3) A.Y ∧ B ≤ B2 ∧ ∀ k, (Value.slice b1 A.X.length e1).ownBlock = some k → k < B2
theorem msg5 {cl sv nc : Int} {ys : List Sl} (h : msgB 5 cl sv nc ys = true) : ∃ t u, ys = [t, u] ∧ t.ok = true ∧ u.ok = true := by
  refine two_of ?_
  unfold msgB at h
  simp at h
  exact h.2
theorem sealAt_stay {w w' : World} {b o : Nat} {s : Sl} (h : SealAt w b o s) (e : w'.heap[b]? = w.heap[b]?) : SealAt w' b o s := by
  have hc : ∀ i, w'.cell? ⟨b, i, none⟩ = w.cell? ⟨b, i, none⟩ := fun i => World.cell?_of_block (a := ⟨b, i, none⟩) e
  exact ⟨(hc _).trans h.c0, (hc _).trans h.c1, (hc _).trans h.c2, (hc _).trans h.c3, (hc _).trans h.c4, (hc _).trans h.c5, (hc _).trans h.c6⟩
theorem srow_base {B : Nat} {w w' : World} {g : Nat} {ys : List Sl} (h : SRow w (some ⟨g, 0, none⟩) ys) (hg : ys ≠ [] → g < B) (hb : Below B w w') : SRow w' (some ⟨g, 0, none⟩) ys := by
  rcases h with h | ⟨b, o, e, hl, h⟩
  · exact Or.inl h
  · injection e with e
    injection e with e1 e2
    subst e1 e2
    cases ys with
    | nil => exact Or.inl rfl
    | cons y tl => exact Or.inr ⟨g, 0, rfl, Nat.lt_of_lt_of_le hl hb.size, fun i s hi => sealAt_stay (h i s hi) (hb.block g (hg (by simp)))⟩

end Go.Proofs.YtghajmfjekfdpaaDoor
