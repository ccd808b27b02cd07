/-
  A service, handed over by value: what it is in memory. No condition.
-/
import Derived.Test.YtbkmcdhfhpjbmaaClAgg
import Derived.Test.YtbkmcdhfhpjbmaaKAgg
namespace Go.Proofs.Ytbkmcdhfhpjbmaa
open Go.ChangeShapes Go.WideShapes Go.Deep Go.RowKit

theorem open_serv {H : Type} {enc : TypeId × Value → H} {P : Program} {w : World} {base : Nat} {spare : Nat → Bool} {held : Bool} {r : Reach} {b0 : Nat} {t tI tS tC eS eC : TypeId} {fs : Array Field} {f0 f1 f2 f3 : Field} {v : Value} {d : DataW H} {p : List MemPlace}
    (hs : P.underlying t = some (.struct #[f0, f1, f2, f3])) (hone : oneCellFields P #[f0, f1, f2, f3] = true) (t0 : f0.type = tI) (t1 : f1.type = tI) (t2 : f2.type = tS) (t3 : f3.type = tC) (hC4 : P.cellsOf t = 4) (hI : P.underlying tI = some (.int .i64))
    (hS : P.underlying tS = some (.slice eS)) (he : P.underlying eS = some (.struct fs)) (h7 : fs.size = 7) (hone7 : oneCellFields P fs = true) (hty : (fs.all fun f => f.type == tI) = true) (cS : P.cellsOf eS = 7)
    (hC : P.underlying tC = some (.slice eC)) (cC : P.cellsOf eC = 4)
    (lC : ∀ (fuel : Nat) (cs : List Value) (x : DataW H × List MemPlace), DataW.trod enc P w base spare held fuel eC cs = some x → ∃ z : Ca, cs = (celC.cs z).map (Value.int .i64))
    (hv : Value.okWide P w r b0 t v) (h : DataW.Trod enc P w base spare held t v d p) :
    ∃ (i s : Int) (a1 a2 : Option Addr) (xs : List Sl) (ts : List Ca) (c1 c2 : Nat), v = .agg #[.int .i64 i, .int .i64 s, .slice a1 xs.length c1, .slice a2 ts.length c2] ∧ SRow w a1 xs ∧ NRow celC w a2 ts ∧ xs.length ≤ maxLen ∧ ts.length ≤ maxLen := by
  obtain ⟨cs, rfl, hsz⟩ := okWide_struct hs hv
  obtain ⟨fuel, hf0⟩ := h
  obtain ⟨xs, n, _, hx, hl, hlen, hf⟩ := DataW.trod_struct hs hf0
  have hcc : (Value.agg cs).cells = cs := rfl
  rw [hcc] at hl hf
  rw [hC4] at hl
  obtain ⟨o0, k0⟩ := hone_of hone 0 f0 rfl
  obtain ⟨o1, k1⟩ := hone_of hone 1 f1 rfl
  obtain ⟨o2, k2⟩ := hone_of hone 2 f2 rfl
  obtain ⟨o3, k3⟩ := hone_of hone 3 f3 rfl
  obtain ⟨l⟩ := cs
  match l, hl with
  | [v0, v1, v2, v3], _ =>
    match xs, hlen with
    | [y0, y1, y2, y3], _ =>
      have g0 := hf 0 f0 rfl
      have g1 := hf 1 f1 rfl
      have g2 := hf 2 f2 rfl
      have g3 := hf 3 f3 rfl
      rw [o0, k0, t0] at g0
      rw [o1, k1, t1] at g1
      rw [o2, k2, t2] at g2
      rw [o3, k3, t3] at g3
      obtain ⟨m0, e0, _⟩ := DataW.trod_int hI g0
      obtain ⟨m1, e1, _⟩ := DataW.trod_int hI g1
      simp at e0 e1
      subst e0 e1
      obtain ⟨a1, ss, c1, ev1, r1, z1⟩ := open_seals hS he h7 hI hone7 hty cS (by simpa using g2)
      obtain ⟨a2, ts, c2, ev2, r2, z2⟩ := open_rows celC hC cC lC (by simpa using g3)
      subst ev1 ev2
      exact ⟨m0, m1, a1, a2, ss, ts, c1, c2, rfl, r1, r2, z1, z2⟩

end Go.Proofs.Ytbkmcdhfhpjbmaa
