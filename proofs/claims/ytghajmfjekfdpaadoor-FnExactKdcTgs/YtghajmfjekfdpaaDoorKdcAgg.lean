/-
  One who gives tickets, handed over by value: what it is in memory. No condition.
-/
import Derived.Test.YtghajmfjekfdpaaDoorKAgg
namespace Go.Proofs.YtghajmfjekfdpaaDoor
open Go.ChangeShapes Go.WideShapes Go.Deep Go.RowKit

theorem open_kdc {H : Type} {enc : TypeId × Value → H} {P : Program} {w : World} {base : Nat} {spare : Nat → Bool} {held : Bool} {r : Reach} {b0 : Nat} {t ts e tI : TypeId} {f0 f1 : Field} {fs : Array Field} {v : Value} {d : DataW H} {p : List MemPlace}
    (hs : P.underlying t = some (.struct #[f0, f1])) (hone : oneCellFields P #[f0, f1] = true) (t0 : f0.type = tI) (t1 : f1.type = ts) (hC2 : P.cellsOf t = 2)
    (ht : P.underlying ts = some (.slice e)) (he : P.underlying e = some (.struct fs)) (h7 : fs.size = 7) (hI : P.underlying tI = some (.int .i64)) (hone7 : oneCellFields P fs = true) (hty : (fs.all fun f => f.type == tI) = true) (hC : P.cellsOf e = 7)
    (hv : Value.okWide P w r b0 t v) (h : DataW.Trod enc P w base spare held t v d p) :
    ∃ (m : Int) (a : Option Addr) (xs : List Sl) (cap : Nat), v = .agg #[.int .i64 m, .slice a xs.length cap] ∧ SRow w a xs ∧ xs.length ≤ maxLen := by
  obtain ⟨cs, rfl, hsz⟩ := okWide_struct hs hv
  obtain ⟨fuel, hf0⟩ := h
  obtain ⟨xs, n, _, hx, hl, hlen, hf⟩ := DataW.trod_struct hs hf0
  have hcc : (Value.agg cs).cells = cs := rfl
  rw [hcc] at hl hf
  rw [hC2] at hl
  obtain ⟨o0, k0⟩ := hone_of hone 0 f0 rfl
  obtain ⟨o1, k1⟩ := hone_of hone 1 f1 rfl
  obtain ⟨l⟩ := cs
  match l, hl with
  | [v0, v1], _ =>
    match xs, hlen with
    | [y0, y1], _ =>
      have g0 := hf 0 f0 rfl
      have g1 := hf 1 f1 rfl
      rw [o0, k0, t0] at g0
      rw [o1, k1, t1] at g1
      obtain ⟨m0, e0, _⟩ := DataW.trod_int hI g0
      simp at e0
      subst e0
      obtain ⟨a, ss, cap, ev, hr, hm⟩ := open_seals ht he h7 hI hone7 hty hC (by simpa using g1)
      subst ev
      exact ⟨m0, a, ss, cap, rfl, hr, hm⟩

end Go.Proofs.YtghajmfjekfdpaaDoor
