/-
  What a user waits for, has, and whom he called: their numbers, and rows of them.
-/
import Derived.Test.YtimmfabaogeanaaDoorNRow
namespace Go.Proofs.YtimmfabaogeanaaDoor
open Go.RowKit

/-- What is waited for. -/
structure Wn where
  s : Int
  n : Int
/-- A call. -/
structure Ca where
  p : Int
  k : Int
  t : Int
  n : Int
/-- What one has for somebody. -/
structure Cd where
  s : Int
  k : Int
  u : Int
  x : Sl
def Wn.v (x : Wn) : Value := .agg #[.int .i64 x.s, .int .i64 x.n]
def Ca.v (x : Ca) : Value := .agg #[.int .i64 x.p, .int .i64 x.k, .int .i64 x.t, .int .i64 x.n]
def Cd.v (x : Cd) : Value := .agg #[.int .i64 x.s, .int .i64 x.k, .int .i64 x.u, .int .i64 x.x.k, .int .i64 x.x.t, .int .i64 x.x.a, .int .i64 x.x.b, .int .i64 x.x.c, .int .i64 x.x.d, .int .i64 x.x.e]
def celW : Cel Wn := ⟨fun x => [x.s, x.n], 2, fun _ => rfl, by decide⟩
def celC : Cel Ca := ⟨fun x => [x.p, x.k, x.t, x.n], 4, fun _ => rfl, by decide⟩
def celD : Cel Cd := ⟨fun x => [x.s, x.k, x.u, x.x.k, x.x.t, x.x.a, x.x.b, x.x.c, x.x.d, x.x.e], 10, fun _ => rfl, by decide⟩
theorem celW.at {w : World} {b o : Nat} {x : Wn} (h : NumsAt w b o (celW.cs x)) : w.cell? ⟨b, o, none⟩ = some (.int .i64 x.s) ∧ w.cell? ⟨b, o + 1, none⟩ = some (.int .i64 x.n) := ⟨h 0 _ rfl, h 1 _ rfl⟩
theorem celC.at {w : World} {b o : Nat} {x : Ca} (h : NumsAt w b o (celC.cs x)) : w.cell? ⟨b, o, none⟩ = some (.int .i64 x.p) ∧ w.cell? ⟨b, o + 1, none⟩ = some (.int .i64 x.k) ∧ w.cell? ⟨b, o + 2, none⟩ = some (.int .i64 x.t) ∧ w.cell? ⟨b, o + 3, none⟩ = some (.int .i64 x.n) := ⟨h 0 _ rfl, h 1 _ rfl, h 2 _ rfl, h 3 _ rfl⟩
theorem celD.at {w : World} {b o : Nat} {x : Cd} (h : NumsAt w b o (celD.cs x)) : w.cell? ⟨b, o, none⟩ = some (.int .i64 x.s) ∧ w.cell? ⟨b, o + 1, none⟩ = some (.int .i64 x.k) ∧ w.cell? ⟨b, o + 2, none⟩ = some (.int .i64 x.u) ∧ w.cell? ⟨b, o + 3, none⟩ = some (.int .i64 x.x.k) ∧ w.cell? ⟨b, o + 4, none⟩ = some (.int .i64 x.x.t) ∧ w.cell? ⟨b, o + 5, none⟩ = some (.int .i64 x.x.a) ∧ w.cell? ⟨b, o + 6, none⟩ = some (.int .i64 x.x.b) ∧ w.cell? ⟨b, o + 7, none⟩ = some (.int .i64 x.x.c) ∧ w.cell? ⟨b, o + 8, none⟩ = some (.int .i64 x.x.d) ∧ w.cell? ⟨b, o + 9, none⟩ = some (.int .i64 x.x.e) :=
  ⟨h 0 _ rfl, h 1 _ rfl, h 2 _ rfl, h 3 _ rfl, h 4 _ rfl, h 5 _ rfl, h 6 _ rfl, h 7 _ rfl, h 8 _ rfl, h 9 _ rfl⟩

end Go.Proofs.YtimmfabaogeanaaDoor
