/-
  A user, handed over by value: what it is in memory. No condition.
-/
import Derived.Test.YthkngdbhddedpaaClientTo
import Derived.Test.YthkngdbhddedpaaSealAgg
import Derived.Deep.Slices
import Derived.Lib.SmallJoins
import Derived.ProofKit
import Derived.OpenShut
namespace Go.Proofs.Ythkngdbhddedpaa
open Go.ChangeShapes Go.WideShapes Go.Deep Go.RowKit

/-- A row of elements that read as so many numbers. -/
theorem open_rows {X H : Type} (C : Cel X) {enc : TypeId × Value → H} {P : Program} {w : World} {base : Nat} {spare : Nat → Bool} {held : Bool} {t e : TypeId} {v : Value} {fuel : Nat} {x : DataW H × List MemPlace}
    (ht : P.underlying t = some (.slice e)) (hC : P.cellsOf e = C.n) (hel : ∀ (fuel : Nat) (cs : List Value) (x : DataW H × List MemPlace), DataW.trod enc P w base spare held fuel e cs = some x → ∃ z : X, cs = (C.cs z).map (Value.int .i64))
    (h : DataW.trod enc P w base spare held fuel t [v] = some x) :
    ∃ (a : Option Addr) (xs : List X) (cap : Nat), v = .slice a xs.length cap ∧ NRow C w a xs ∧ xs.length ≤ maxLen := by
  rcases open_slice ht h with ⟨h0, _⟩ | ⟨a, len, cap, m, n, D, Pl, h0, hb, hl, hm, hmm, _, hx⟩
  · exact ⟨none, [], 0, by simpa using h0, Or.inl rfl, by simp⟩
  · have hv : v = .slice (some a) len cap := by simpa using h0
    have hlm : len ≤ m := by rw [hmm]; split <;> omega
    by_cases hz : len = 0
    · exact ⟨some a, [], cap, by simp [hv, hz], Or.inl rfl, by simp⟩
    rw [hC] at hx
    have hpos := C.pos
    obtain ⟨cs0, g1, g2⟩ := hx 0 (by omega)
    obtain ⟨z0, rfl⟩ := hel _ _ _ g2
    have hsp : a.spot = none := by
      obtain ⟨_, _, hc⟩ := World.cells?_some g1
      have hz0 : ((C.cs z0).map (Value.int .i64))[0]? ≠ none := by
        rw [List.getElem?_map]
        have := C.len z0
        rw [List.getElem?_eq_getElem (by omega)]
        simp
      have hc0 := hc 0 hpos
      cases hq : ((C.cs z0).map (Value.int .i64))[0]? with
      | none => exact absurd hq hz0
      | some u =>
        rw [hq] at hc0
        have hs0 := World.cell?_spot hc0
        simpa [Addr.add] using hs0
    have iS : Inhabited X := ⟨z0⟩
    obtain ⟨S, hS⟩ := choose_lt (α := X) (n := len) (p := fun i s => NumsAt w a.block (a.off + i * C.n) (C.cs s)) (fun i hi => by
      obtain ⟨cs, h1, h2⟩ := hx i (by omega)
      obtain ⟨s, rfl⟩ := hel _ _ _ h2
      obtain ⟨_, _, hc⟩ := World.cells?_some h1
      refine ⟨s, fun q c hq => ?_⟩
      have hqn : q < C.n := by have := (List.getElem?_eq_some_iff.1 hq).1; have := C.len s; omega
      have hg := hc q hqn
      rw [List.getElem?_map, hq] at hg
      have hg' : w.cell? ((a.add (i * C.n)).add q) = some (.int .i64 c) := by simpa using hg
      rw [← hg']
      congr 1
      obtain ⟨ab, ao, asp⟩ := a
      simp only at hsp
      subst hsp
      by_cases e1 : i * C.n = 0 <;> by_cases e2 : q = 0 <;> simp [Addr.add, e1, e2])
    obtain ⟨ab, ao, asp⟩ := a
    obtain rfl : asp = none := hsp
    have hblk : ab < w.heap.size := by
      have h0' := hS 0 (by omega)
      have hl0 := C.len (S 0)
      exact block_lt_of_cell (h0' 0 _ (List.getElem?_eq_getElem (by omega)))
    refine ⟨some ⟨ab, ao, none⟩, (List.range len).map S, cap, by simp [hv], Or.inr ⟨ab, ao, rfl, hblk, fun i s hs => ?_⟩, by simp; omega⟩
    have hil : i < len := by
      have := (List.getElem?_eq_some_iff.1 hs).1; simpa using this
    have e : S i = s := by simpa [hil] using hs
    exact e ▸ hS i hil

theorem wantEl {H : Type} {enc : TypeId × Value → H} {P : Program} {w : World} {base : Nat} {spare : Nat → Bool} {held : Bool} {e tI : TypeId} {fs : Array Field}
    (he : P.underlying e = some (.struct fs)) (h2 : fs.size = 2) (hI : P.underlying tI = some (.int .i64)) (hone : oneCellFields P fs = true) (hty : (fs.all fun f => f.type == tI) = true) (hC : P.cellsOf e = 2)
    (fuel : Nat) (cs : List Value) (x : DataW H × List MemPlace) (h : DataW.trod enc P w base spare held fuel e cs = some x) : ∃ z : Wn, cs = (celW.cs z).map (Value.int .i64) := by
  obtain ⟨xs, n, _, hx, hl, hlen, hf⟩ := DataW.trod_struct he h
  have hcl : cs.length = fs.size := by rw [hl, hC, h2]
  have hg := fun i hi => SealAgg.intAt hI hone hty hlen hf hcl i hi
  obtain ⟨n0, c0, _⟩ := hg 0 (by omega)
  obtain ⟨n1, c1, _⟩ := hg 1 (by omega)
  rw [h2] at hcl
  match cs, hcl with
  | [b0, b1], _ =>
    simp at c0 c1
    subst c0 c1
    exact ⟨⟨n0, n1⟩, rfl⟩
theorem callEl {H : Type} {enc : TypeId × Value → H} {P : Program} {w : World} {base : Nat} {spare : Nat → Bool} {held : Bool} {e tI : TypeId} {fs : Array Field}
    (he : P.underlying e = some (.struct fs)) (h2 : fs.size = 4) (hI : P.underlying tI = some (.int .i64)) (hone : oneCellFields P fs = true) (hty : (fs.all fun f => f.type == tI) = true) (hC : P.cellsOf e = 4)
    (fuel : Nat) (cs : List Value) (x : DataW H × List MemPlace) (h : DataW.trod enc P w base spare held fuel e cs = some x) : ∃ z : Ca, cs = (celC.cs z).map (Value.int .i64) := by
  obtain ⟨xs, n, _, hx, hl, hlen, hf⟩ := DataW.trod_struct he h
  have hcl : cs.length = fs.size := by rw [hl, hC, h2]
  have hg := fun i hi => SealAgg.intAt hI hone hty hlen hf hcl i hi
  obtain ⟨n0, c0, _⟩ := hg 0 (by omega)
  obtain ⟨n1, c1, _⟩ := hg 1 (by omega)
  obtain ⟨n2, c2, _⟩ := hg 2 (by omega)
  obtain ⟨n3, c3, _⟩ := hg 3 (by omega)
  rw [h2] at hcl
  match cs, hcl with
  | [b0, b1, b2, b3], _ =>
    simp at c0 c1 c2 c3
    subst c0 c1 c2 c3
    exact ⟨⟨n0, n1, n2, n3⟩, rfl⟩
theorem sealEl {H : Type} {enc : TypeId × Value → H} {P : Program} {w : World} {base : Nat} {spare : Nat → Bool} {held : Bool} {e tI : TypeId} {fs : Array Field} {cs : List Value} {fuel : Nat} {x : DataW H × List MemPlace}
    (he : P.underlying e = some (.struct fs)) (h7 : fs.size = 7) (hI : P.underlying tI = some (.int .i64)) (hone : oneCellFields P fs = true) (hty : (fs.all fun f => f.type == tI) = true) (hC : P.cellsOf e = 7)
    (h : DataW.trod enc P w base spare held fuel e cs = some x) :
    ∃ s : Sl, cs = [.int .i64 s.k, .int .i64 s.t, .int .i64 s.a, .int .i64 s.b, .int .i64 s.c, .int .i64 s.d, .int .i64 s.e] := by
  obtain ⟨xs, n, _, hx, hl, hlen, hf⟩ := DataW.trod_struct he h
  have hcl : cs.length = fs.size := by rw [hl, hC, h7]
  have hg := fun i hi => SealAgg.intAt hI hone hty hlen hf hcl i hi
  obtain ⟨n0, c0, _⟩ := hg 0 (by omega)
  obtain ⟨n1, c1, _⟩ := hg 1 (by omega)
  obtain ⟨n2, c2, _⟩ := hg 2 (by omega)
  obtain ⟨n3, c3, _⟩ := hg 3 (by omega)
  obtain ⟨n4, c4, _⟩ := hg 4 (by omega)
  obtain ⟨n5, c5, _⟩ := hg 5 (by omega)
  obtain ⟨n6, c6, _⟩ := hg 6 (by omega)
  exact ⟨⟨n0, n1, n2, n3, n4, n5, n6⟩, SealAgg.list7 (by rw [hcl, h7]) c0 c1 c2 c3 c4 c5 c6⟩
theorem credEl {H : Type} {enc : TypeId × Value → H} {P : Program} {w : World} {base : Nat} {spare : Nat → Bool} {held : Bool} {e eS tI : TypeId} {f0 f1 f2 f3 : Field} {gs : Array Field}
    (he : P.underlying e = some (.struct #[f0, f1, f2, f3])) (hI : P.underlying tI = some (.int .i64)) (t0 : f0.type = tI ∧ f0.offset = 0) (t1 : f1.type = tI ∧ f1.offset = 1) (t2 : f2.type = tI ∧ f2.offset = 2) (t3 : f3.type = eS ∧ f3.offset = 3) (hcI : P.cellsOf tI = 1) (hC : P.cellsOf e = 10)
    (hs : P.underlying eS = some (.struct gs)) (h7 : gs.size = 7) (hone : oneCellFields P gs = true) (hty : (gs.all fun f => f.type == tI) = true) (hC7 : P.cellsOf eS = 7)
    (fuel : Nat) (cs : List Value) (x : DataW H × List MemPlace) (h : DataW.trod enc P w base spare held fuel e cs = some x) : ∃ z : Cd, cs = (celD.cs z).map (Value.int .i64) := by
  obtain ⟨xs, n, _, hx, hl, hlen, hf⟩ := DataW.trod_struct he h
  rw [hC] at hl
  match xs, hlen with
  | [y0, y1, y2, y3], _ =>
    have g0 := hf 0 f0 rfl
    have g1 := hf 1 f1 rfl
    have g2 := hf 2 f2 rfl
    have g3 := hf 3 f3 rfl
    rw [t0.1, t0.2, hcI] at g0
    rw [t1.1, t1.2, hcI] at g1
    rw [t2.1, t2.2, hcI] at g2
    rw [t3.1, t3.2, hC7] at g3
    match cs, hl with
    | [b0, b1, b2, b3, b4, b5, b6, b7, b8, b9], _ =>
      obtain ⟨m0, e0, _⟩ := DataW.trod_int hI g0
      obtain ⟨m1, e1, _⟩ := DataW.trod_int hI g1
      obtain ⟨m2, e2, _⟩ := DataW.trod_int hI g2
      obtain ⟨s, e3⟩ := sealEl hs h7 hI hone hty hC7 g3
      simp at e0 e1 e2 e3
      obtain ⟨q0, q1, q2, q3, q4, q5, q6⟩ := e3
      subst e0 e1 e2 q0 q1 q2 q3 q4 q5 q6
      exact ⟨⟨m0, m1, m2, s⟩, rfl⟩

/-- A user. -/
theorem open_client {H : Type} {enc : TypeId × Value → H} {P : Program} {w : World} {base : Nat} {spare : Nat → Bool} {held : Bool} {r : Reach} {b0 : Nat} {t tI tW tD tC eW eD eC : TypeId} {f0 f1 f2 f3 f4 f5 : Field} {v : Value} {d : DataW H} {p : List MemPlace}
    (hs : P.underlying t = some (.struct #[f0, f1, f2, f3, f4, f5])) (hone : oneCellFields P #[f0, f1, f2, f3, f4, f5] = true) (t0 : f0.type = tI) (t1 : f1.type = tI) (t2 : f2.type = tW) (t3 : f3.type = tD) (t4 : f4.type = tC) (t5 : f5.type = tC) (hC6 : P.cellsOf t = 6) (hI : P.underlying tI = some (.int .i64))
    (hW : P.underlying tW = some (.slice eW)) (hD : P.underlying tD = some (.slice eD)) (hC : P.underlying tC = some (.slice eC)) (cW : P.cellsOf eW = 2) (cD : P.cellsOf eD = 10) (cC : P.cellsOf eC = 4)
    (lW : ∀ (fuel : Nat) (cs : List Value) (x : DataW H × List MemPlace), DataW.trod enc P w base spare held fuel eW cs = some x → ∃ z : Wn, cs = (celW.cs z).map (Value.int .i64))
    (lD : ∀ (fuel : Nat) (cs : List Value) (x : DataW H × List MemPlace), DataW.trod enc P w base spare held fuel eD cs = some x → ∃ z : Cd, cs = (celD.cs z).map (Value.int .i64))
    (lC : ∀ (fuel : Nat) (cs : List Value) (x : DataW H × List MemPlace), DataW.trod enc P w base spare held fuel eC cs = some x → ∃ z : Ca, cs = (celC.cs z).map (Value.int .i64))
    (hv : Value.okWide P w r b0 t v) (h : DataW.Trod enc P w base spare held t v d p) :
    ∃ (i n : Int) (a1 a2 a3 a4 : Option Addr) (ws : List Wn) (cs : List Cd) (ss ms : List Ca) (c1 c2 c3 c4 : Nat), v = .agg #[.int .i64 i, .int .i64 n, .slice a1 ws.length c1, .slice a2 cs.length c2, .slice a3 ss.length c3, .slice a4 ms.length c4] ∧ CRows w a1 a2 a3 a4 ws cs ss ms ∧ ws.length ≤ maxLen ∧ cs.length ≤ maxLen ∧ ss.length ≤ maxLen ∧ ms.length ≤ maxLen := by
  obtain ⟨cs, rfl, hsz⟩ := okWide_struct hs hv
  obtain ⟨fuel, hf0⟩ := h
  obtain ⟨xs, n, _, hx, hl, hlen, hf⟩ := DataW.trod_struct hs hf0
  have hcc : (Value.agg cs).cells = cs := rfl
  rw [hcc] at hl hf
  rw [hC6] at hl
  obtain ⟨o0, k0⟩ := hone_of hone 0 f0 rfl
  obtain ⟨o1, k1⟩ := hone_of hone 1 f1 rfl
  obtain ⟨o2, k2⟩ := hone_of hone 2 f2 rfl
  obtain ⟨o3, k3⟩ := hone_of hone 3 f3 rfl
  obtain ⟨o4, k4⟩ := hone_of hone 4 f4 rfl
  obtain ⟨o5, k5⟩ := hone_of hone 5 f5 rfl
  obtain ⟨l⟩ := cs
  match l, hl with
  | [v0, v1, v2, v3, v4, v5], _ =>
    match xs, hlen with
    | [y0, y1, y2, y3, y4, y5], _ =>
      have g0 := hf 0 f0 rfl
      have g1 := hf 1 f1 rfl
      have g2 := hf 2 f2 rfl
      have g3 := hf 3 f3 rfl
      have g4 := hf 4 f4 rfl
      have g5 := hf 5 f5 rfl
      rw [o0, k0, t0] at g0
      rw [o1, k1, t1] at g1
      rw [o2, k2, t2] at g2
      rw [o3, k3, t3] at g3
      rw [o4, k4, t4] at g4
      rw [o5, k5, t5] at g5
      obtain ⟨m0, e0, _⟩ := DataW.trod_int hI g0
      obtain ⟨m1, e1, _⟩ := DataW.trod_int hI g1
      simp at e0 e1
      subst e0 e1
      obtain ⟨a1, ws, c1, ev1, r1, z1⟩ := open_rows celW hW cW lW (by simpa using g2)
      obtain ⟨a2, cs, c2, ev2, r2, z2⟩ := open_rows celD hD cD lD (by simpa using g3)
      obtain ⟨a3, ss, c3, ev3, r3, z3⟩ := open_rows celC hC cC lC (by simpa using g4)
      obtain ⟨a4, ms, c4, ev4, r4, z4⟩ := open_rows celC hC cC lC (by simpa using g5)
      subst ev1 ev2 ev3 ev4
      exact ⟨m0, m1, a1, a2, a3, a4, ws, cs, ss, ms, c1, c2, c3, c4, rfl, ⟨r1, r2, r3, r4⟩, z1, z2, z3, z4⟩

end Go.Proofs.Ythkngdbhddedpaa
