/-
  A struct whose fields are all plain ints, handed over by value: what it reads as, and that whatever such struct reads so again. No condition but that its fields are of one cell each, and of the type int.
-/
import Derived.Deep.Fields
import Derived.WideShapes
import Derived.ChangeSame
namespace Go.Proofs.YtimmfabaogeanaaDoor.SealAgg
open Go.ChangeShapes Go.WideShapes Go.Deep

theorem list7 {α : Type} {l : List α} {a0 a1 a2 a3 a4 a5 a6 : α} (h : l.length = 7) (h0 : l[0]? = some a0) (h1 : l[1]? = some a1) (h2 : l[2]? = some a2) (h3 : l[3]? = some a3) (h4 : l[4]? = some a4) (h5 : l[5]? = some a5) (h6 : l[6]? = some a6) :
    l = [a0, a1, a2, a3, a4, a5, a6] := by
  match l, h with
  | [b0, b1, b2, b3, b4, b5, b6], _ =>
    simp at h0 h1 h2 h3 h4 h5 h6
    subst h0 h1 h2 h3 h4 h5 h6
    rfl

theorem intAt {H : Type} {enc : TypeId × Value → H} {P : Program} {w : World} {base : Nat} {spare : Nat → Bool} {held : Bool} {tI : TypeId} {fs : Array Field} {cs : List Value} {n : Nat} {xs : List (DataW H × List MemPlace)}
    (hI : P.underlying tI = some (.int .i64)) (hone : oneCellFields P fs = true) (hty : (fs.all fun f => f.type == tI) = true) (hlen : xs.length = fs.size)
    (hf : ∀ (i : Nat) (f : Field), fs[i]? = some f → DataW.trod enc P w base spare held n f.type ((cs.drop f.offset).take (P.cellsOf f.type)) = xs[i]?)
    (hcs : cs.length = fs.size) (i : Nat) (hi : i < fs.size) :
    ∃ m : Int, cs[i]? = some (.int .i64 m) ∧ xs[i]? = some (.lit (.int .i64 m), []) ∧ (Lit.int .i64 m).wf = true := by
  have hget : fs[i]? = some fs[i] := Array.getElem?_eq_getElem hi
  obtain ⟨ho, hc⟩ := hone_of hone i _ hget
  have ht : fs[i].type = tI := by
    have := (Array.all_eq_true.1 hty) i hi
    simpa using this
  have h := hf i _ hget
  rw [ho, hc, ht] at h
  have hix : i < xs.length := by omega
  rw [List.getElem?_eq_getElem hix] at h
  obtain ⟨m, e, ex, wm⟩ := DataW.trod_int hI h
  have hic : i < cs.length := by omega
  rw [take1_drop cs i (.bool false) hic] at e
  have e2 : cs[i] = .int .i64 m := by
    have := List.cons.inj e
    simpa [List.getD_eq_getElem?_getD, List.getElem?_eq_getElem hic] using this.1
  exact ⟨m, by rw [List.getElem?_eq_getElem hic, e2], by rw [List.getElem?_eq_getElem hix, ex], wm⟩

theorem open7 {H : Type} {enc : TypeId × Value → H} {P : Program} {w : World} {base : Nat} {spare : Nat → Bool} {held : Bool} {r : Reach} {b0 : Nat} {t tI : TypeId} {fs : Array Field} {v : Value} {d : DataW H} {p : List MemPlace}
    (hs : P.underlying t = some (.struct fs)) (h7 : fs.size = 7) (hI : P.underlying tI = some (.int .i64)) (hone : oneCellFields P fs = true) (hty : (fs.all fun f => f.type == tI) = true) (hC : P.cellsOf t = 7)
    (hv : Value.okWide P w r b0 t v) (h : DataW.Trod enc P w base spare held t v d p) :
    ∃ n0 n1 n2 n3 n4 n5 n6 : Int, v = .agg #[.int .i64 n0, .int .i64 n1, .int .i64 n2, .int .i64 n3, .int .i64 n4, .int .i64 n5, .int .i64 n6] ∧
      d = .agg [.lit (.int .i64 n0), .lit (.int .i64 n1), .lit (.int .i64 n2), .lit (.int .i64 n3), .lit (.int .i64 n4), .lit (.int .i64 n5), .lit (.int .i64 n6)] ∧ p = [] ∧
      (Lit.int .i64 n0).wf = true ∧ (Lit.int .i64 n1).wf = true ∧ (Lit.int .i64 n2).wf = true ∧ (Lit.int .i64 n3).wf = true ∧ (Lit.int .i64 n4).wf = true ∧ (Lit.int .i64 n5).wf = true ∧ (Lit.int .i64 n6).wf = true := by
  obtain ⟨cs, rfl, hsz⟩ := okWide_struct hs hv
  obtain ⟨fuel, hf0⟩ := h
  obtain ⟨xs, n, _, hx, hl, hlen, hf⟩ := DataW.trod_struct hs hf0
  have hcl : (Value.agg cs).cells.toList.length = fs.size := by rw [hl, hC, h7]
  have hg := fun i hi => intAt hI hone hty hlen hf hcl i hi
  obtain ⟨n0, c0, x0, w0⟩ := hg 0 (by omega)
  obtain ⟨n1, c1, x1, w1⟩ := hg 1 (by omega)
  obtain ⟨n2, c2, x2, w2⟩ := hg 2 (by omega)
  obtain ⟨n3, c3, x3, w3⟩ := hg 3 (by omega)
  obtain ⟨n4, c4, x4, w4⟩ := hg 4 (by omega)
  obtain ⟨n5, c5, x5, w5⟩ := hg 5 (by omega)
  obtain ⟨n6, c6, x6, w6⟩ := hg 6 (by omega)
  have hc : cs.toList = [.int .i64 n0, .int .i64 n1, .int .i64 n2, .int .i64 n3, .int .i64 n4, .int .i64 n5, .int .i64 n6] := by
    have e : (Value.agg cs).cells.toList = cs.toList := by simp [Value.cells]
    rw [e] at c0 c1 c2 c3 c4 c5 c6 hcl
    rw [h7] at hcl
    exact list7 hcl c0 c1 c2 c3 c4 c5 c6
  have hxs : xs = [(.lit (.int .i64 n0), []), (.lit (.int .i64 n1), []), (.lit (.int .i64 n2), []), (.lit (.int .i64 n3), []), (.lit (.int .i64 n4), []), (.lit (.int .i64 n5), []), (.lit (.int .i64 n6), [])] := by
    rw [h7] at hlen
    exact list7 hlen x0 x1 x2 x3 x4 x5 x6
  have hca : cs = #[.int .i64 n0, .int .i64 n1, .int .i64 n2, .int .i64 n3, .int .i64 n4, .int .i64 n5, .int .i64 n6] := by
    apply Array.toList_inj.1; rw [hc]
  rw [hxs] at hx
  simp only [Prod.mk.injEq] at hx
  exact ⟨n0, n1, n2, n3, n4, n5, n6, by rw [hca], by rw [hx.1]; rfl, by rw [hx.2]; rfl, w0, w1, w2, w3, w4, w5, w6⟩

theorem shut7 {H : Type} {enc : TypeId × Value → H} {P : Program} {w : World} {base : Nat} {spare : Nat → Bool} {held : Bool} {t tI : TypeId} {f0 f1 f2 f3 f4 f5 f6 : Field} {n0 n1 n2 n3 n4 n5 n6 : Int}
    (hs : P.underlying t = some (.struct #[f0, f1, f2, f3, f4, f5, f6])) (hI : P.underlying tI = some (.int .i64)) (hone : oneCellFields P #[f0, f1, f2, f3, f4, f5, f6] = true) (hty : (#[f0, f1, f2, f3, f4, f5, f6].all fun f => f.type == tI) = true) (hC : P.cellsOf t = 7)
    (w0 : (Lit.int .i64 n0).wf = true) (w1 : (Lit.int .i64 n1).wf = true) (w2 : (Lit.int .i64 n2).wf = true) (w3 : (Lit.int .i64 n3).wf = true) (w4 : (Lit.int .i64 n4).wf = true) (w5 : (Lit.int .i64 n5).wf = true) (w6 : (Lit.int .i64 n6).wf = true) :
    DataW.Trod enc P w base spare held t (.agg #[.int .i64 n0, .int .i64 n1, .int .i64 n2, .int .i64 n3, .int .i64 n4, .int .i64 n5, .int .i64 n6])
      (.agg [.lit (.int .i64 n0), .lit (.int .i64 n1), .lit (.int .i64 n2), .lit (.int .i64 n3), .lit (.int .i64 n4), .lit (.int .i64 n5), .lit (.int .i64 n6)]) [] := by
  obtain ⟨o0, k0⟩ := hone_of hone 0 f0 rfl
  obtain ⟨o1, k1⟩ := hone_of hone 1 f1 rfl
  obtain ⟨o2, k2⟩ := hone_of hone 2 f2 rfl
  obtain ⟨o3, k3⟩ := hone_of hone 3 f3 rfl
  obtain ⟨o4, k4⟩ := hone_of hone 4 f4 rfl
  obtain ⟨o5, k5⟩ := hone_of hone 5 f5 rfl
  obtain ⟨o6, k6⟩ := hone_of hone 6 f6 rfl
  have ty := fun i hi => (Array.all_eq_true.1 hty) i hi
  have t0 : f0.type = tI := by simpa using ty 0 (by simp)
  have t1 : f1.type = tI := by simpa using ty 1 (by simp)
  have t2 : f2.type = tI := by simpa using ty 2 (by simp)
  have t3 : f3.type = tI := by simpa using ty 3 (by simp)
  have t4 : f4.type = tI := by simpa using ty 4 (by simp)
  have t5 : f5.type = tI := by simpa using ty 5 (by simp)
  have t6 : f6.type = tI := by simpa using ty 6 (by simp)
  have m : ∀ n : Int, (Lit.int .i64 n).wf = true → DataW.trod enc P w base spare held 1 tI [.int .i64 n] = some (.lit (.int .i64 n), []) := fun n wn => trod_int_mk 0 hI wn
  have hmk := trod_struct_mk (enc := enc) (w := w) (base := base) (spare := spare) (held := held) (n := 1) (cs := [.int .i64 n0, .int .i64 n1, .int .i64 n2, .int .i64 n3, .int .i64 n4, .int .i64 n5, .int .i64 n6])
    (xs := [(.lit (.int .i64 n0), []), (.lit (.int .i64 n1), []), (.lit (.int .i64 n2), []), (.lit (.int .i64 n3), []), (.lit (.int .i64 n4), []), (.lit (.int .i64 n5), []), (.lit (.int .i64 n6), [])]) hs (by simp [hC])
    (by simp [o0, o1, o2, o3, o4, o5, o6, t0, t1, t2, t3, t4, t5, t6, t0 ▸ k0, m _ w0, m _ w1, m _ w2, m _ w3, m _ w4, m _ w5, m _ w6])
  exact ⟨2, by simpa [Value.cells] using hmk⟩
end Go.Proofs.YtimmfabaogeanaaDoor.SealAgg
