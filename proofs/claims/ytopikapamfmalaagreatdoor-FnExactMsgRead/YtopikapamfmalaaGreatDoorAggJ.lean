/-
  A struct whose fields are all plain ints, handed over by value: what it reads as, and that whatever such struct reads so again. No condition but that its fields are of one cell each, and of the type int.
-/
import Derived.Deep.Fields
import Derived.WideShapes
import Derived.ChangeSame
import Derived.Test.YtopikapamfmalaaGreatDoorBaseJ
import Derived.Deep.Slices
import Derived.Lib.SmallJoins
import Derived.ProofKit
import Derived.OpenShut
import Derived.Test.YtopikapamfmalaaGreatDoorMsgOk
import Derived.Lib.LaidTab
import Derived.OpenVars
namespace Go.Proofs.YtopikapamfmalaaGreatDoor.SealAgg
open Go.ChangeShapes Go.WideShapes Go.Deep

theorem list7 {α : Type} {l : List α} {a0 a1 a2 a3 a4 a5 a6 : α} (h : l.length = 7) (h0 : l[0]? = some a0) (h1 : l[1]? = some a1) (h2 : l[2]? = some a2) (h3 : l[3]? = some a3) (h4 : l[4]? = some a4) (h5 : l[5]? = some a5) (h6 : l[6]? = some a6) :
    l = [a0, a1, a2, a3, a4, a5, a6] := by
  match l, h with
  | [b0, b1, b2, b3, b4, b5, b6], _ =>
    simp at h0 h1 h2 h3 h4 h5 h6
    subst h0 h1 h2 h3 h4 h5 h6
    rfl

theorem intAt {H : Type} {enc : TypeId × Value → H} {P : Program} {w : World} {base : Nat} {spare : Nat → Bool} {held : Bool} {tI : TypeId} {fs : Array Field} {cs : List Value} {n : Nat} {xs : List (DataW H × List MemPlace)}
    (hI : P.underlying tI = some (.int .i64)) (hone : oneCellFields P fs = true) (hty : (fs.all fun f => f.type == tI) = true) (hlen : xs.length = fs.size)
    (hf : ∀ (i : Nat) (f : Field), fs[i]? = some f → DataW.trod enc P w base spare held n f.type ((cs.drop f.offset).take (P.cellsOf f.type)) = xs[i]?)
    (hcs : cs.length = fs.size) (i : Nat) (hi : i < fs.size) :
    ∃ m : Int, cs[i]? = some (.int .i64 m) ∧ xs[i]? = some (.lit (.int .i64 m), []) ∧ (Lit.int .i64 m).wf = true := by
  have hget : fs[i]? = some fs[i] := Array.getElem?_eq_getElem hi
  obtain ⟨ho, hc⟩ := hone_of hone i _ hget
  have ht : fs[i].type = tI := by
    have := (Array.all_eq_true.1 hty) i hi
    simpa using this
  have h := hf i _ hget
  rw [ho, hc, ht] at h
  have hix : i < xs.length := by omega
  rw [List.getElem?_eq_getElem hix] at h
  obtain ⟨m, e, ex, wm⟩ := DataW.trod_int hI h
  have hic : i < cs.length := by omega
  rw [take1_drop cs i (.bool false) hic] at e
  have e2 : cs[i] = .int .i64 m := by
    have := List.cons.inj e
    simpa [List.getD_eq_getElem?_getD, List.getElem?_eq_getElem hic] using this.1
  exact ⟨m, by rw [List.getElem?_eq_getElem hic, e2], by rw [List.getElem?_eq_getElem hix, ex], wm⟩

theorem open7 {H : Type} {enc : TypeId × Value → H} {P : Program} {w : World} {base : Nat} {spare : Nat → Bool} {held : Bool} {r : Reach} {b0 : Nat} {t tI : TypeId} {fs : Array Field} {v : Value} {d : DataW H} {p : List MemPlace}
    (hs : P.underlying t = some (.struct fs)) (h7 : fs.size = 7) (hI : P.underlying tI = some (.int .i64)) (hone : oneCellFields P fs = true) (hty : (fs.all fun f => f.type == tI) = true) (hC : P.cellsOf t = 7)
    (hv : Value.okWide P w r b0 t v) (h : DataW.Trod enc P w base spare held t v d p) :
    ∃ n0 n1 n2 n3 n4 n5 n6 : Int, v = .agg #[.int .i64 n0, .int .i64 n1, .int .i64 n2, .int .i64 n3, .int .i64 n4, .int .i64 n5, .int .i64 n6] ∧
      d = .agg [.lit (.int .i64 n0), .lit (.int .i64 n1), .lit (.int .i64 n2), .lit (.int .i64 n3), .lit (.int .i64 n4), .lit (.int .i64 n5), .lit (.int .i64 n6)] ∧ p = [] ∧
      (Lit.int .i64 n0).wf = true ∧ (Lit.int .i64 n1).wf = true ∧ (Lit.int .i64 n2).wf = true ∧ (Lit.int .i64 n3).wf = true ∧ (Lit.int .i64 n4).wf = true ∧ (Lit.int .i64 n5).wf = true ∧ (Lit.int .i64 n6).wf = true := by
  obtain ⟨cs, rfl, hsz⟩ := okWide_struct hs hv
  obtain ⟨fuel, hf0⟩ := h
  obtain ⟨xs, n, _, hx, hl, hlen, hf⟩ := DataW.trod_struct hs hf0
  have hcl : (Value.agg cs).cells.toList.length = fs.size := by rw [hl, hC, h7]
  have hg := fun i hi => intAt hI hone hty hlen hf hcl i hi
  obtain ⟨n0, c0, x0, w0⟩ := hg 0 (by omega)
  obtain ⟨n1, c1, x1, w1⟩ := hg 1 (by omega)
  obtain ⟨n2, c2, x2, w2⟩ := hg 2 (by omega)
  obtain ⟨n3, c3, x3, w3⟩ := hg 3 (by omega)
  obtain ⟨n4, c4, x4, w4⟩ := hg 4 (by omega)
  obtain ⟨n5, c5, x5, w5⟩ := hg 5 (by omega)
  obtain ⟨n6, c6, x6, w6⟩ := hg 6 (by omega)
  have hc : cs.toList = [.int .i64 n0, .int .i64 n1, .int .i64 n2, .int .i64 n3, .int .i64 n4, .int .i64 n5, .int .i64 n6] := by
    have e : (Value.agg cs).cells.toList = cs.toList := by simp [Value.cells]
    rw [e] at c0 c1 c2 c3 c4 c5 c6 hcl
    rw [h7] at hcl
    exact list7 hcl c0 c1 c2 c3 c4 c5 c6
  have hxs : xs = [(.lit (.int .i64 n0), []), (.lit (.int .i64 n1), []), (.lit (.int .i64 n2), []), (.lit (.int .i64 n3), []), (.lit (.int .i64 n4), []), (.lit (.int .i64 n5), []), (.lit (.int .i64 n6), [])] := by
    rw [h7] at hlen
    exact list7 hlen x0 x1 x2 x3 x4 x5 x6
  have hca : cs = #[.int .i64 n0, .int .i64 n1, .int .i64 n2, .int .i64 n3, .int .i64 n4, .int .i64 n5, .int .i64 n6] := by
    apply Array.toList_inj.1; rw [hc]
  rw [hxs] at hx
  simp only [Prod.mk.injEq] at hx
  exact ⟨n0, n1, n2, n3, n4, n5, n6, by rw [hca], by rw [hx.1]; rfl, by rw [hx.2]; rfl, w0, w1, w2, w3, w4, w5, w6⟩

theorem shut7 {H : Type} {enc : TypeId × Value → H} {P : Program} {w : World} {base : Nat} {spare : Nat → Bool} {held : Bool} {t tI : TypeId} {f0 f1 f2 f3 f4 f5 f6 : Field} {n0 n1 n2 n3 n4 n5 n6 : Int}
    (hs : P.underlying t = some (.struct #[f0, f1, f2, f3, f4, f5, f6])) (hI : P.underlying tI = some (.int .i64)) (hone : oneCellFields P #[f0, f1, f2, f3, f4, f5, f6] = true) (hty : (#[f0, f1, f2, f3, f4, f5, f6].all fun f => f.type == tI) = true) (hC : P.cellsOf t = 7)
    (w0 : (Lit.int .i64 n0).wf = true) (w1 : (Lit.int .i64 n1).wf = true) (w2 : (Lit.int .i64 n2).wf = true) (w3 : (Lit.int .i64 n3).wf = true) (w4 : (Lit.int .i64 n4).wf = true) (w5 : (Lit.int .i64 n5).wf = true) (w6 : (Lit.int .i64 n6).wf = true) :
    DataW.Trod enc P w base spare held t (.agg #[.int .i64 n0, .int .i64 n1, .int .i64 n2, .int .i64 n3, .int .i64 n4, .int .i64 n5, .int .i64 n6])
      (.agg [.lit (.int .i64 n0), .lit (.int .i64 n1), .lit (.int .i64 n2), .lit (.int .i64 n3), .lit (.int .i64 n4), .lit (.int .i64 n5), .lit (.int .i64 n6)]) [] := by
  obtain ⟨o0, k0⟩ := hone_of hone 0 f0 rfl
  obtain ⟨o1, k1⟩ := hone_of hone 1 f1 rfl
  obtain ⟨o2, k2⟩ := hone_of hone 2 f2 rfl
  obtain ⟨o3, k3⟩ := hone_of hone 3 f3 rfl
  obtain ⟨o4, k4⟩ := hone_of hone 4 f4 rfl
  obtain ⟨o5, k5⟩ := hone_of hone 5 f5 rfl
  obtain ⟨o6, k6⟩ := hone_of hone 6 f6 rfl
  have ty := fun i hi => (Array.all_eq_true.1 hty) i hi
  have t0 : f0.type = tI := by simpa using ty 0 (by simp)
  have t1 : f1.type = tI := by simpa using ty 1 (by simp)
  have t2 : f2.type = tI := by simpa using ty 2 (by simp)
  have t3 : f3.type = tI := by simpa using ty 3 (by simp)
  have t4 : f4.type = tI := by simpa using ty 4 (by simp)
  have t5 : f5.type = tI := by simpa using ty 5 (by simp)
  have t6 : f6.type = tI := by simpa using ty 6 (by simp)
  have m : ∀ n : Int, (Lit.int .i64 n).wf = true → DataW.trod enc P w base spare held 1 tI [.int .i64 n] = some (.lit (.int .i64 n), []) := fun n wn => trod_int_mk 0 hI wn
  have hmk := trod_struct_mk (enc := enc) (w := w) (base := base) (spare := spare) (held := held) (n := 1) (cs := [.int .i64 n0, .int .i64 n1, .int .i64 n2, .int .i64 n3, .int .i64 n4, .int .i64 n5, .int .i64 n6])
    (xs := [(.lit (.int .i64 n0), []), (.lit (.int .i64 n1), []), (.lit (.int .i64 n2), []), (.lit (.int .i64 n3), []), (.lit (.int .i64 n4), []), (.lit (.int .i64 n5), []), (.lit (.int .i64 n6), [])]) hs (by simp [hC])
    (by simp [o0, o1, o2, o3, o4, o5, o6, t0, t1, t2, t3, t4, t5, t6, t0 ▸ k0, m _ w0, m _ w1, m _ w2, m _ w3, m _ w4, m _ w5, m _ w6])
  exact ⟨2, by simpa [Value.cells] using hmk⟩
end Go.Proofs.YtopikapamfmalaaGreatDoor.SealAgg

namespace Go.Proofs.YtopikapamfmalaaGreatDoor
open Go.ChangeShapes Go.WideShapes Go.Deep Go.RowKit

/-- Seven cells that read as a struct of seven ints. -/
theorem cells_seven {H : Type} {enc : TypeId × Value → H} {P : Program} {w : World} {base : Nat} {spare : Nat → Bool} {held : Bool} {e tI : TypeId} {fs : Array Field} {cs : List Value} {fuel : Nat} {x : DataW H × List MemPlace}
    (he : P.underlying e = some (.struct fs)) (h7 : fs.size = 7) (hI : P.underlying tI = some (.int .i64)) (hone : oneCellFields P fs = true) (hty : (fs.all fun f => f.type == tI) = true) (hC : P.cellsOf e = 7)
    (h : DataW.trod enc P w base spare held fuel e cs = some x) :
    ∃ s : Sl, cs = [.int .i64 s.k, .int .i64 s.t, .int .i64 s.a, .int .i64 s.b, .int .i64 s.c, .int .i64 s.d, .int .i64 s.e] := by
  obtain ⟨xs, n, _, hx, hl, hlen, hf⟩ := DataW.trod_struct he h
  have hcl : cs.length = fs.size := by rw [hl, hC, h7]
  have hg := fun i hi => SealAgg.intAt hI hone hty hlen hf hcl i hi
  obtain ⟨n0, c0, _⟩ := hg 0 (by omega)
  obtain ⟨n1, c1, _⟩ := hg 1 (by omega)
  obtain ⟨n2, c2, _⟩ := hg 2 (by omega)
  obtain ⟨n3, c3, _⟩ := hg 3 (by omega)
  obtain ⟨n4, c4, _⟩ := hg 4 (by omega)
  obtain ⟨n5, c5, _⟩ := hg 5 (by omega)
  obtain ⟨n6, c6, _⟩ := hg 6 (by omega)
  exact ⟨⟨n0, n1, n2, n3, n4, n5, n6⟩, SealAgg.list7 (by rw [hcl, h7]) c0 c1 c2 c3 c4 c5 c6⟩

/-- A row of such structs. -/
theorem open_seals {H : Type} {enc : TypeId × Value → H} {P : Program} {w : World} {base : Nat} {spare : Nat → Bool} {held : Bool} {t e tI : TypeId} {fs : Array Field} {v : Value} {fuel : Nat} {x : DataW H × List MemPlace}
    (ht : P.underlying t = some (.slice e)) (he : P.underlying e = some (.struct fs)) (h7 : fs.size = 7) (hI : P.underlying tI = some (.int .i64)) (hone : oneCellFields P fs = true) (hty : (fs.all fun f => f.type == tI) = true) (hC : P.cellsOf e = 7)
    (h : DataW.trod enc P w base spare held fuel t [v] = some x) :
    ∃ (a : Option Addr) (xs : List Sl) (cap : Nat), v = .slice a xs.length cap ∧ SRow w a xs ∧ xs.length ≤ maxLen := by
  rcases open_slice ht h with ⟨h0, _⟩ | ⟨a, len, cap, m, n, D, Pl, h0, hb, hl, hm, hmm, _, hx⟩
  · exact ⟨none, [], 0, by simpa using h0, Or.inl rfl, by simp⟩
  · have hv : v = .slice (some a) len cap := by simpa using h0
    have hlm : len ≤ m := by rw [hmm]; split <;> omega
    by_cases hz : len = 0
    · exact ⟨some a, [], cap, by simp [hv, hz], Or.inl rfl, by simp⟩
    rw [hC] at hx
    have hsp : a.spot = none := by
      obtain ⟨cs, h1, h2⟩ := hx 0 (by omega)
      obtain ⟨s, rfl⟩ := cells_seven he h7 hI hone hty hC h2
      obtain ⟨_, _, hc⟩ := World.cells?_some h1
      have hs0 := World.cell?_spot (hc 0 (by omega))
      simpa [Addr.add] using hs0
    have iS : Inhabited Sl := ⟨⟨0, 0, 0, 0, 0, 0, 0⟩⟩
    obtain ⟨S, hS⟩ := choose_lt (α := Sl) (n := len) (p := fun i s => SealAt w a.block (a.off + i * 7) s) (fun i hi => by
      obtain ⟨cs, h1, h2⟩ := hx i (by omega)
      obtain ⟨s, rfl⟩ := cells_seven he h7 hI hone hty hC h2
      obtain ⟨_, _, hc⟩ := World.cells?_some h1
      have hg : ∀ q, q < 7 → w.cell? ⟨a.block, a.off + i * 7 + q, none⟩ = [Value.int .i64 s.k, .int .i64 s.t, .int .i64 s.a, .int .i64 s.b, .int .i64 s.c, .int .i64 s.d, .int .i64 s.e][q]? := by
        intro q hq
        rw [← hc q hq]
        congr 1
        obtain ⟨ab, ao, asp⟩ := a
        simp only at hsp
        subst hsp
        by_cases e1 : i * 7 = 0 <;> by_cases e2 : q = 0 <;> simp [Addr.add, e1, e2]
      exact ⟨s, ⟨by simpa using hg 0 (by omega), hg 1 (by omega), hg 2 (by omega), hg 3 (by omega), hg 4 (by omega), hg 5 (by omega), hg 6 (by omega)⟩⟩)
    obtain ⟨ab, ao, asp⟩ := a
    obtain rfl : asp = none := hsp
    refine ⟨some ⟨ab, ao, none⟩, (List.range len).map S, cap, by simp [hv], Or.inr ⟨ab, ao, rfl, block_lt_of_cell (hS 0 (by omega)).c0, fun i s hs => ?_⟩, by simp; omega⟩
    have hil : i < len := by
      have := (List.getElem?_eq_some_iff.1 hs).1; simpa using this
    have e : S i = s := by simpa [hil] using hs
    exact e ▸ hS i hil

end Go.Proofs.YtopikapamfmalaaGreatDoor

namespace Go.Proofs.YtopikapamfmalaaGreatDoor
open Go.ChangeShapes Go.WideShapes Go.Deep Go.RowKit

/-- A word that was handed over. -/
theorem open_msg {H : Type} {enc : TypeId × Value → H} {P : Program} {w : World} {base : Nat} {spare : Nat → Bool} {held : Bool} {r : Reach} {b0 : Nat} {t ts e tI : TypeId} {f0 f1 f2 f3 f4 : Field} {fs : Array Field} {v : Value} {d : DataW H} {p : List MemPlace}
    (hs : P.underlying t = some (.struct #[f0, f1, f2, f3, f4])) (hone : oneCellFields P #[f0, f1, f2, f3, f4] = true) (t0 : f0.type = tI) (t1 : f1.type = tI) (t2 : f2.type = tI) (t3 : f3.type = tI) (t4 : f4.type = ts) (hC5 : P.cellsOf t = 5)
    (ht : P.underlying ts = some (.slice e)) (he : P.underlying e = some (.struct fs)) (h7 : fs.size = 7) (hI : P.underlying tI = some (.int .i64)) (hone7 : oneCellFields P fs = true) (hty : (fs.all fun f => f.type == tI) = true) (hC : P.cellsOf e = 7)
    (hv : Value.okWide P w r b0 t v) (h : DataW.Trod enc P w base spare held t v d p) :
    ∃ (m n k f : Int) (a : Option Addr) (xs : List Sl) (cap : Nat), v = .agg #[.int .i64 m, .int .i64 n, .int .i64 k, .int .i64 f, .slice a xs.length cap] ∧ SRow w a xs ∧ xs.length ≤ maxLen := by
  obtain ⟨cs, rfl, hsz⟩ := okWide_struct hs hv
  obtain ⟨fuel, hf0⟩ := h
  obtain ⟨xs, n, _, hx, hl, hlen, hf⟩ := DataW.trod_struct hs hf0
  have hcc : (Value.agg cs).cells = cs := rfl
  rw [hcc] at hl hf
  rw [hC5] at hl
  obtain ⟨o0, k0⟩ := hone_of hone 0 f0 rfl
  obtain ⟨o1, k1⟩ := hone_of hone 1 f1 rfl
  obtain ⟨o2, k2⟩ := hone_of hone 2 f2 rfl
  obtain ⟨o3, k3⟩ := hone_of hone 3 f3 rfl
  obtain ⟨o4, k4⟩ := hone_of hone 4 f4 rfl
  obtain ⟨l⟩ := cs
  match l, hl with
  | [v0, v1, v2, v3, v4], _ =>
    match xs, hlen with
    | [y0, y1, y2, y3, y4], _ =>
      have g0 := hf 0 f0 rfl
      have g1 := hf 1 f1 rfl
      have g2 := hf 2 f2 rfl
      have g3 := hf 3 f3 rfl
      have g4 := hf 4 f4 rfl
      rw [o0, k0, t0] at g0
      rw [o1, k1, t1] at g1
      rw [o2, k2, t2] at g2
      rw [o3, k3, t3] at g3
      rw [o4, k4, t4] at g4
      obtain ⟨m0, e0, _⟩ := DataW.trod_int hI g0
      obtain ⟨m1, e1, _⟩ := DataW.trod_int hI g1
      obtain ⟨m2, e2, _⟩ := DataW.trod_int hI g2
      obtain ⟨m3, e3, _⟩ := DataW.trod_int hI g3
      simp at e0 e1 e2 e3
      subst e0 e1 e2 e3
      obtain ⟨a, ss, cap, ev, hr, hm⟩ := open_seals ht he h7 hI hone7 hty hC (by simpa using g4)
      subst ev
      exact ⟨m0, m1, m2, m3, a, ss, cap, rfl, hr, hm⟩

/-- The table of forms, as a row lists it. -/
def formD : DataW Unit := .agg [.agg [.lit (.bool false), .lit (.bool false), .lit (.bool false), .lit (.int .i64 0)], .agg [.lit (.bool true), .lit (.bool false), .lit (.bool true), .lit (.int .i64 0)], .agg [.lit (.bool true), .lit (.bool false), .lit (.bool false), .lit (.int .i64 2)], .agg [.lit (.bool false), .lit (.bool true), .lit (.bool true), .lit (.int .i64 2)], .agg [.lit (.bool true), .lit (.bool false), .lit (.bool false), .lit (.int .i64 2)], .agg [.lit (.bool false), .lit (.bool true), .lit (.bool false), .lit (.int .i64 2)], .agg [.lit (.bool true), .lit (.bool false), .lit (.bool false), .lit (.int .i64 1)]]

theorem gForms : Tryz.prog.globalNamed "loop.example/cerberus/impl.msgForms" = some 0 := by kernel_rfl
theorem tForms : (Tryz.prog.globals[0]?).map (·.type) = some 59 := by kernel_rfl
theorem cellsForms : Tryz.prog.cellsOf 59 = 28 := by kernel_rfl
theorem cellsForm : Tryz.prog.cellsOf 58 = 4 := by kernel_rfl
theorem cellsB : Tryz.prog.cellsOf 4 = 1 := by kernel_rfl
theorem cellsI : Tryz.prog.cellsOf 3 = 1 := by kernel_rfl

/-- Four cells that read as a form. -/
theorem form_cells {P : Program} {w : World} {t tB tI : TypeId} {f0 f1 f2 f3 : Field} {fuel : Nat} {cs : List Value} {c s n : Bool} {z : Int} {p : List MemPlace}
    (hs : P.underlying t = some (.struct #[f0, f1, f2, f3])) (hone : oneCellFields P #[f0, f1, f2, f3] = true) (t0 : f0.type = tB) (t1 : f1.type = tB) (t2 : f2.type = tB) (t3 : f3.type = tI) (hB : P.underlying tB = some .bool) (hI : P.underlying tI = some (.int .i64)) (hC : P.cellsOf t = 4)
    (h : DataW.trod (fun _ => ()) P w 0 (fun _ => true) false fuel t cs = some (.agg [.lit (.bool c), .lit (.bool s), .lit (.bool n), .lit (.int .i64 z)], p)) : cs = [.bool c, .bool s, .bool n, .int .i64 z] := by
  obtain ⟨xs, m, _, hx, hl, hlen, hf⟩ := DataW.trod_struct hs h
  rw [hC] at hl
  obtain ⟨o0, k0⟩ := hone_of hone 0 f0 rfl
  obtain ⟨o1, k1⟩ := hone_of hone 1 f1 rfl
  obtain ⟨o2, k2⟩ := hone_of hone 2 f2 rfl
  obtain ⟨o3, k3⟩ := hone_of hone 3 f3 rfl
  match cs, hl with
  | [v0, v1, v2, v3], _ =>
    match xs, hlen with
    | [y0, y1, y2, y3], _ =>
      have g0 := hf 0 f0 rfl
      have g1 := hf 1 f1 rfl
      have g2 := hf 2 f2 rfl
      have g3 := hf 3 f3 rfl
      rw [o0, k0, t0] at g0
      rw [o1, k1, t1] at g1
      rw [o2, k2, t2] at g2
      rw [o3, k3, t3] at g3
      obtain ⟨b0, e0, x0⟩ := DataW.trod_bool hB g0
      obtain ⟨b1, e1, x1⟩ := DataW.trod_bool hB g1
      obtain ⟨b2, e2, x2⟩ := DataW.trod_bool hB g2
      obtain ⟨b3, e3, x3, _⟩ := DataW.trod_int hI g3
      simp at e0 e1 e2 e3
      subst e0 e1 e2 e3 x0 x1 x2 x3
      simp at hx
      obtain ⟨⟨rfl, rfl, rfl, rfl⟩, _⟩ := hx
      rfl

/-- From what the row lists to the table in memory: it stands first on the list. -/
theorem forms_of_head {W : World} {rest : List (String × DataW Unit)} (h : laidMet Tryz.prog (("loop.example/cerberus/impl.msgForms", formD) :: rest) W) : Forms W := by
  obtain ⟨ps, ⟨g', t', cs, fuel, p, q, hg', ht', hvar, hd, _, _⟩, _⟩ := h
  obtain rfl := Option.some.inj (gForms.symm.trans hg')
  obtain rfl := Option.some.inj (tForms.symm.trans ht')
  cases fuel with
  | zero => simp [DataW.trod] at hd
  | succ fuel =>
    simp only [DataW.trod, Tryz.underlying59, cellsForm, cellsForms] at hd
    split at hd
    · rename_i hl
      obtain ⟨xs, hm, hx⟩ := Option.map_eq_some_iff.1 hd
      have hxl : xs.length = 7 := by simpa using Lib.mapM_length hm
      have hcs : ∀ i c s n z, (xs.map (·.1))[i]? = some (DataW.agg [.lit (.bool c), .lit (.bool s), .lit (.bool n), .lit (.int .i64 z)]) → i < 7 → (cs.toList.drop (i * 4)).take 4 = [.bool c, .bool s, .bool n, .int .i64 z] := by
        intro i c s n z hi h7
        obtain ⟨b, hb, hf⟩ := Lib.mapM_at hm i i (by simp [h7])
        have e : b.1 = DataW.agg [.lit (.bool c), .lit (.bool s), .lit (.bool n), .lit (.int .i64 z)] := by
          simpa [hb] using hi
        obtain ⟨b1, b2⟩ := b
        simp only at e
        subst e
        exact form_cells Tryz.underlying58 (by kernel_rfl) rfl rfl rfl rfl Tryz.underlying4 Tryz.underlying3 cellsForm hf
      have hxs := congrArg Prod.fst hx
      simp only [formD] at hxs
      injection hxs with hxs
      have r0 := hcs 0 _ _ _ _ (by rw [hxs]; rfl) (by omega)
      have r1 := hcs 1 _ _ _ _ (by rw [hxs]; rfl) (by omega)
      have r2 := hcs 2 _ _ _ _ (by rw [hxs]; rfl) (by omega)
      have r3 := hcs 3 _ _ _ _ (by rw [hxs]; rfl) (by omega)
      have r4 := hcs 4 _ _ _ _ (by rw [hxs]; rfl) (by omega)
      have r5 := hcs 5 _ _ _ _ (by rw [hxs]; rfl) (by omega)
      have r6 := hcs 6 _ _ _ _ (by rw [hxs]; rfl) (by omega)
      have hall : cs.toList = formCells := by
        apply List.ext_getElem?
        intro i
        by_cases hi : i < 28
        · have key : cs.toList[i]? = ((cs.toList.drop (i / 4 * 4)).take 4)[i % 4]? := by
            rw [List.getElem?_take, if_pos (Nat.mod_lt _ (by omega)), List.getElem?_drop]
            congr 1; omega
          have hd7 : i / 4 < 7 := by omega
          have hm4 : i % 4 < 4 := Nat.mod_lt _ (by omega)
          have hie : i = i / 4 * 4 + i % 4 := by omega
          rw [key]
          generalize i / 4 = u at *
          generalize i % 4 = y at *
          subst hie
          have hu : u = 0 ∨ u = 1 ∨ u = 2 ∨ u = 3 ∨ u = 4 ∨ u = 5 ∨ u = 6 := by omega
          have hy : y = 0 ∨ y = 1 ∨ y = 2 ∨ y = 3 := by omega
          rcases hu with rfl | rfl | rfl | rfl | rfl | rfl | rfl
          · rw [r0]; rcases hy with rfl | rfl | rfl | rfl <;> rfl
          · rw [r1]; rcases hy with rfl | rfl | rfl | rfl <;> rfl
          · rw [r2]; rcases hy with rfl | rfl | rfl | rfl <;> rfl
          · rw [r3]; rcases hy with rfl | rfl | rfl | rfl <;> rfl
          · rw [r4]; rcases hy with rfl | rfl | rfl | rfl <;> rfl
          · rw [r5]; rcases hy with rfl | rfl | rfl | rfl <;> rfl
          · rw [r6]; rcases hy with rfl | rfl | rfl | rfl <;> rfl
        · rw [List.getElem?_eq_none (by simp at hl ⊢; omega), List.getElem?_eq_none (by simp [formCells]; omega)]
      have hcell : ∀ (i : Nat) v, formCells[i]? = some v → W.cell? ⟨0, i, none⟩ = some v := by
        intro i v hv
        have := World.var?_cell gForms hvar i
        rw [this, ← Array.getElem?_toList, hall, hv]
      exact ⟨block_lt_of_cell (hcell 0 _ rfl), hcell⟩
    · cases hd

end Go.Proofs.YtopikapamfmalaaGreatDoor
