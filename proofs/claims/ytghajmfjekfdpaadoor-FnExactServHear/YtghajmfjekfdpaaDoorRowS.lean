/-
  A row of seals as a row of elements of seven numbers.
-/
import Derived.Test.YtghajmfjekfdpaaDoorStJ
namespace Go.Proofs.YtghajmfjekfdpaaDoor
open Go.RowKit

def celS : Cel Sl := ⟨fun s => [s.k, s.t, s.a, s.b, s.c, s.d, s.e], 7, fun _ => rfl, by decide⟩
theorem SealAt.toN {w : World} {b o : Nat} {s : Sl} (h : SealAt w b o s) : NumsAt w b o (celS.cs s) := by
  obtain ⟨h0, h1, h2, h3, h4, h5, h6⟩ := h
  intro q c hq
  match q, hq with
  | 0, hq => simp [celS] at hq; subst hq; exact h0
  | 1, hq => simp [celS] at hq; subst hq; exact h1
  | 2, hq => simp [celS] at hq; subst hq; exact h2
  | 3, hq => simp [celS] at hq; subst hq; exact h3
  | 4, hq => simp [celS] at hq; subst hq; exact h4
  | 5, hq => simp [celS] at hq; subst hq; exact h5
  | 6, hq => simp [celS] at hq; subst hq; exact h6
  | q + 7, hq => simp [celS] at hq
theorem SRow.toN {w : World} {a : Option Addr} {xs : List Sl} (h : SRow w a xs) : NRow celS w a xs := by
  rcases h with h | ⟨b, off, rfl, hl, h⟩
  · exact Or.inl h
  · exact Or.inr ⟨b, off, rfl, hl, fun i s hs => (h i s hs).toN⟩
theorem OwnS.toN {w : World} {B : Nat} {v : Value} {xs : List Sl} (h : OwnS w B v xs) : OwnN celS 64 w B v xs := h
theorem OwnN.toS {w : World} {B : Nat} {v : Value} {xs : List Sl} (h : OwnN celS 64 w B v xs) : OwnS w B v xs := h
theorem infoSealN : (Tryd.prog.info? 64).map (fun i => (i.zero, i.size, i.bytes)) = some (some (.agg #[.int .i64 0, .int .i64 0, .int .i64 0, .int .i64 0, .int .i64 0, .int .i64 0, .int .i64 0]), 7, 56) := by kernel_rfl

end Go.Proofs.YtghajmfjekfdpaaDoor
