/-
  Rows of seals in memory: what they are, and that they stay while memory only grows.
-/
import Derived.Test.YtimmfabaogeanaaDoorSealOkS
import Derived.Test.YtimmfabaogeanaaDoorTextRegion
namespace Go.Proofs.YtimmfabaogeanaaDoor
open Go.RowKit

/-- A seal's seven numbers. -/
structure Sl where
  k : Int
  t : Int
  a : Int
  b : Int
  c : Int
  d : Int
  e : Int
/-- A seal as a value. -/
def Sl.v (s : Sl) : Value := .agg #[.int .i64 s.k, .int .i64 s.t, .int .i64 s.a, .int .i64 s.b, .int .i64 s.c, .int .i64 s.d, .int .i64 s.e]
/-- It is ok. -/
def Sl.ok (s : Sl) : Bool := okB s.k s.t s.a s.b s.c s.d s.e
/-- Its seven cells lie at a place. -/
structure SealAt (w : World) (b o : Nat) (s : Sl) : Prop where
  c0 : w.cell? ⟨b, o, none⟩ = some (.int .i64 s.k)
  c1 : w.cell? ⟨b, o + 1, none⟩ = some (.int .i64 s.t)
  c2 : w.cell? ⟨b, o + 2, none⟩ = some (.int .i64 s.a)
  c3 : w.cell? ⟨b, o + 3, none⟩ = some (.int .i64 s.b)
  c4 : w.cell? ⟨b, o + 4, none⟩ = some (.int .i64 s.c)
  c5 : w.cell? ⟨b, o + 5, none⟩ = some (.int .i64 s.d)
  c6 : w.cell? ⟨b, o + 6, none⟩ = some (.int .i64 s.e)
/-- A row of seals. -/
def SRow (w : World) (a : Option Addr) (xs : List Sl) : Prop :=
  xs = [] ∨ ∃ b off, a = some ⟨b, off, none⟩ ∧ b < w.heap.size ∧ ∀ (i : Nat) s, xs[i]? = some s → SealAt w b (off + i * 7) s

theorem SealAt.later {w w' : World} {b o : Nat} {s : Sl} (h : SealAt w b o s) (hb : Below w.heap.size w w') (hl : b < w.heap.size) : SealAt w' b o s := by
  obtain ⟨hc, _⟩ := bcell hb
  exact ⟨(hc _ _ hl).trans h.c0, (hc _ _ hl).trans h.c1, (hc _ _ hl).trans h.c2, (hc _ _ hl).trans h.c3, (hc _ _ hl).trans h.c4, (hc _ _ hl).trans h.c5, (hc _ _ hl).trans h.c6⟩
theorem SRow.later {w w' : World} {a : Option Addr} {xs : List Sl} (h : SRow w a xs) (hb : Below w.heap.size w w') : SRow w' a xs := by
  rcases h with h | ⟨b, off, ha, hl, h⟩
  · exact Or.inl h
  · exact Or.inr ⟨b, off, ha, Nat.lt_of_lt_of_le hl hb.size, fun i s hs => (h i s hs).later hb hl⟩

theorem Below.alloc_ (w : World) (o : Obj) : Below w.heap.size w (w.alloc o) := (Below.refl _ _).alloc (Nat.le_refl _) _

theorem wrapM {n : Int} (h0 : -9223372036854775808 ≤ n) (h1 : n ≤ 9223372036854775807) : IntKind.i64.wrap n = n := by
  rcases Int.le_total 0 n with h | h
  · have e : n % 18446744073709551616 = n := Int.emod_eq_of_lt h (by omega)
    simp [IntKind.wrap, IntKind.bits, IntKind.signed, e]; omega
  · have e : n % 18446744073709551616 = n + 18446744073709551616 ∨ n = 0 := by omega
    rcases e with e | e
    · simp [IntKind.wrap, IntKind.bits, IntKind.signed, e]; omega
    · subst e; rfl

end Go.Proofs.YtimmfabaogeanaaDoor
