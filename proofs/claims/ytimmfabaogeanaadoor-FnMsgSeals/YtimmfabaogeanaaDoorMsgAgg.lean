/-
  A word that was handed over by value, with its row of seals: what it is in memory; and that the program's table of forms lies in memory as its text lays it. No condition.
-/
import Derived.Test.YtimmfabaogeanaaDoorKdcLawJ
import Derived.Test.YtimmfabaogeanaaDoorKAgg
import Derived.Deep.Slices
import Derived.Lib.LaidTab
import Derived.Lib.SmallJoins
import Derived.ProofKit
import Derived.OpenVars
namespace Go.Proofs.YtimmfabaogeanaaDoor
open Go.ChangeShapes Go.WideShapes Go.Deep Go.RowKit

/-- A word that was handed over. -/
theorem open_msg {H : Type} {enc : TypeId × Value → H} {P : Program} {w : World} {base : Nat} {spare : Nat → Bool} {held : Bool} {r : Reach} {b0 : Nat} {t ts e tI : TypeId} {f0 f1 f2 f3 f4 : Field} {fs : Array Field} {v : Value} {d : DataW H} {p : List MemPlace}
    (hs : P.underlying t = some (.struct #[f0, f1, f2, f3, f4])) (hone : oneCellFields P #[f0, f1, f2, f3, f4] = true) (t0 : f0.type = tI) (t1 : f1.type = tI) (t2 : f2.type = tI) (t3 : f3.type = tI) (t4 : f4.type = ts) (hC5 : P.cellsOf t = 5)
    (ht : P.underlying ts = some (.slice e)) (he : P.underlying e = some (.struct fs)) (h7 : fs.size = 7) (hI : P.underlying tI = some (.int .i64)) (hone7 : oneCellFields P fs = true) (hty : (fs.all fun f => f.type == tI) = true) (hC : P.cellsOf e = 7)
    (hv : Value.okWide P w r b0 t v) (h : DataW.Trod enc P w base spare held t v d p) :
    ∃ (m n k f : Int) (a : Option Addr) (xs : List Sl) (cap : Nat), v = .agg #[.int .i64 m, .int .i64 n, .int .i64 k, .int .i64 f, .slice a xs.length cap] ∧ SRow w a xs ∧ xs.length ≤ maxLen := by
  obtain ⟨cs, rfl, hsz⟩ := okWide_struct hs hv
  obtain ⟨fuel, hf0⟩ := h
  obtain ⟨xs, n, _, hx, hl, hlen, hf⟩ := DataW.trod_struct hs hf0
  have hcc : (Value.agg cs).cells = cs := rfl
  rw [hcc] at hl hf
  rw [hC5] at hl
  obtain ⟨o0, k0⟩ := hone_of hone 0 f0 rfl
  obtain ⟨o1, k1⟩ := hone_of hone 1 f1 rfl
  obtain ⟨o2, k2⟩ := hone_of hone 2 f2 rfl
  obtain ⟨o3, k3⟩ := hone_of hone 3 f3 rfl
  obtain ⟨o4, k4⟩ := hone_of hone 4 f4 rfl
  obtain ⟨l⟩ := cs
  match l, hl with
  | [v0, v1, v2, v3, v4], _ =>
    match xs, hlen with
    | [y0, y1, y2, y3, y4], _ =>
      have g0 := hf 0 f0 rfl
      have g1 := hf 1 f1 rfl
      have g2 := hf 2 f2 rfl
      have g3 := hf 3 f3 rfl
      have g4 := hf 4 f4 rfl
      rw [o0, k0, t0] at g0
      rw [o1, k1, t1] at g1
      rw [o2, k2, t2] at g2
      rw [o3, k3, t3] at g3
      rw [o4, k4, t4] at g4
      obtain ⟨m0, e0, _⟩ := DataW.trod_int hI g0
      obtain ⟨m1, e1, _⟩ := DataW.trod_int hI g1
      obtain ⟨m2, e2, _⟩ := DataW.trod_int hI g2
      obtain ⟨m3, e3, _⟩ := DataW.trod_int hI g3
      simp at e0 e1 e2 e3
      subst e0 e1 e2 e3
      obtain ⟨a, ss, cap, ev, hr, hm⟩ := open_seals ht he h7 hI hone7 hty hC (by simpa using g4)
      subst ev
      exact ⟨m0, m1, m2, m3, a, ss, cap, rfl, hr, hm⟩

/-- The table of forms, as a row lists it. -/
def formD : DataW Unit := .agg [.agg [.lit (.bool false), .lit (.bool false), .lit (.bool false), .lit (.int .i64 0)], .agg [.lit (.bool true), .lit (.bool false), .lit (.bool true), .lit (.int .i64 0)], .agg [.lit (.bool true), .lit (.bool false), .lit (.bool false), .lit (.int .i64 2)], .agg [.lit (.bool false), .lit (.bool true), .lit (.bool true), .lit (.int .i64 2)], .agg [.lit (.bool true), .lit (.bool false), .lit (.bool false), .lit (.int .i64 2)], .agg [.lit (.bool false), .lit (.bool true), .lit (.bool false), .lit (.int .i64 2)], .agg [.lit (.bool true), .lit (.bool false), .lit (.bool false), .lit (.int .i64 1)]]

theorem gForms : Tryd.prog.globalNamed "loop.example/cerberus/impl.msgForms" = some 0 := by kernel_rfl
theorem tForms : (Tryd.prog.globals[0]?).map (·.type) = some 40 := by kernel_rfl
theorem cellsForms : Tryd.prog.cellsOf 40 = 28 := by kernel_rfl
theorem cellsForm : Tryd.prog.cellsOf 39 = 4 := by kernel_rfl
theorem cellsB : Tryd.prog.cellsOf 4 = 1 := by kernel_rfl
theorem cellsI : Tryd.prog.cellsOf 3 = 1 := by kernel_rfl

/-- Four cells that read as a form. -/
theorem form_cells {P : Program} {w : World} {t tB tI : TypeId} {f0 f1 f2 f3 : Field} {fuel : Nat} {cs : List Value} {c s n : Bool} {z : Int} {p : List MemPlace}
    (hs : P.underlying t = some (.struct #[f0, f1, f2, f3])) (hone : oneCellFields P #[f0, f1, f2, f3] = true) (t0 : f0.type = tB) (t1 : f1.type = tB) (t2 : f2.type = tB) (t3 : f3.type = tI) (hB : P.underlying tB = some .bool) (hI : P.underlying tI = some (.int .i64)) (hC : P.cellsOf t = 4)
    (h : DataW.trod (fun _ => ()) P w 0 (fun _ => true) false fuel t cs = some (.agg [.lit (.bool c), .lit (.bool s), .lit (.bool n), .lit (.int .i64 z)], p)) : cs = [.bool c, .bool s, .bool n, .int .i64 z] := by
  obtain ⟨xs, m, _, hx, hl, hlen, hf⟩ := DataW.trod_struct hs h
  rw [hC] at hl
  obtain ⟨o0, k0⟩ := hone_of hone 0 f0 rfl
  obtain ⟨o1, k1⟩ := hone_of hone 1 f1 rfl
  obtain ⟨o2, k2⟩ := hone_of hone 2 f2 rfl
  obtain ⟨o3, k3⟩ := hone_of hone 3 f3 rfl
  match cs, hl with
  | [v0, v1, v2, v3], _ =>
    match xs, hlen with
    | [y0, y1, y2, y3], _ =>
      have g0 := hf 0 f0 rfl
      have g1 := hf 1 f1 rfl
      have g2 := hf 2 f2 rfl
      have g3 := hf 3 f3 rfl
      rw [o0, k0, t0] at g0
      rw [o1, k1, t1] at g1
      rw [o2, k2, t2] at g2
      rw [o3, k3, t3] at g3
      obtain ⟨b0, e0, x0⟩ := DataW.trod_bool hB g0
      obtain ⟨b1, e1, x1⟩ := DataW.trod_bool hB g1
      obtain ⟨b2, e2, x2⟩ := DataW.trod_bool hB g2
      obtain ⟨b3, e3, x3, _⟩ := DataW.trod_int hI g3
      simp at e0 e1 e2 e3
      subst e0 e1 e2 e3 x0 x1 x2 x3
      simp at hx
      obtain ⟨⟨rfl, rfl, rfl, rfl⟩, _⟩ := hx
      rfl

/-- From what the row lists to the table in memory: it stands first on the list. -/
theorem forms_of_head {W : World} {rest : List (String × DataW Unit)} (h : laidMet Tryd.prog (("loop.example/cerberus/impl.msgForms", formD) :: rest) W) : Forms W := by
  obtain ⟨ps, ⟨g', t', cs, fuel, p, q, hg', ht', hvar, hd, _, _⟩, _⟩ := h
  obtain rfl := Option.some.inj (gForms.symm.trans hg')
  obtain rfl := Option.some.inj (tForms.symm.trans ht')
  cases fuel with
  | zero => simp [DataW.trod] at hd
  | succ fuel =>
    simp only [DataW.trod, Tryd.underlying40, cellsForm, cellsForms] at hd
    split at hd
    · rename_i hl
      obtain ⟨xs, hm, hx⟩ := Option.map_eq_some_iff.1 hd
      have hxl : xs.length = 7 := by simpa using Lib.mapM_length hm
      have hcs : ∀ i c s n z, (xs.map (·.1))[i]? = some (DataW.agg [.lit (.bool c), .lit (.bool s), .lit (.bool n), .lit (.int .i64 z)]) → i < 7 → (cs.toList.drop (i * 4)).take 4 = [.bool c, .bool s, .bool n, .int .i64 z] := by
        intro i c s n z hi h7
        obtain ⟨b, hb, hf⟩ := Lib.mapM_at hm i i (by simp [h7])
        have e : b.1 = DataW.agg [.lit (.bool c), .lit (.bool s), .lit (.bool n), .lit (.int .i64 z)] := by
          simpa [hb] using hi
        obtain ⟨b1, b2⟩ := b
        simp only at e
        subst e
        exact form_cells Tryd.underlying39 (by kernel_rfl) rfl rfl rfl rfl Tryd.underlying4 Tryd.underlying3 cellsForm hf
      have hxs := congrArg Prod.fst hx
      simp only [formD] at hxs
      injection hxs with hxs
      have r0 := hcs 0 _ _ _ _ (by rw [hxs]; rfl) (by omega)
      have r1 := hcs 1 _ _ _ _ (by rw [hxs]; rfl) (by omega)
      have r2 := hcs 2 _ _ _ _ (by rw [hxs]; rfl) (by omega)
      have r3 := hcs 3 _ _ _ _ (by rw [hxs]; rfl) (by omega)
      have r4 := hcs 4 _ _ _ _ (by rw [hxs]; rfl) (by omega)
      have r5 := hcs 5 _ _ _ _ (by rw [hxs]; rfl) (by omega)
      have r6 := hcs 6 _ _ _ _ (by rw [hxs]; rfl) (by omega)
      have hall : cs.toList = formCells := by
        apply List.ext_getElem?
        intro i
        by_cases hi : i < 28
        · have key : cs.toList[i]? = ((cs.toList.drop (i / 4 * 4)).take 4)[i % 4]? := by
            rw [List.getElem?_take, if_pos (Nat.mod_lt _ (by omega)), List.getElem?_drop]
            congr 1; omega
          have hd7 : i / 4 < 7 := by omega
          have hm4 : i % 4 < 4 := Nat.mod_lt _ (by omega)
          have hie : i = i / 4 * 4 + i % 4 := by omega
          rw [key]
          generalize i / 4 = u at *
          generalize i % 4 = y at *
          subst hie
          have hu : u = 0 ∨ u = 1 ∨ u = 2 ∨ u = 3 ∨ u = 4 ∨ u = 5 ∨ u = 6 := by omega
          have hy : y = 0 ∨ y = 1 ∨ y = 2 ∨ y = 3 := by omega
          rcases hu with rfl | rfl | rfl | rfl | rfl | rfl | rfl
          · rw [r0]; rcases hy with rfl | rfl | rfl | rfl <;> rfl
          · rw [r1]; rcases hy with rfl | rfl | rfl | rfl <;> rfl
          · rw [r2]; rcases hy with rfl | rfl | rfl | rfl <;> rfl
          · rw [r3]; rcases hy with rfl | rfl | rfl | rfl <;> rfl
          · rw [r4]; rcases hy with rfl | rfl | rfl | rfl <;> rfl
          · rw [r5]; rcases hy with rfl | rfl | rfl | rfl <;> rfl
          · rw [r6]; rcases hy with rfl | rfl | rfl | rfl <;> rfl
        · rw [List.getElem?_eq_none (by simp at hl ⊢; omega), List.getElem?_eq_none (by simp [formCells]; omega)]
      have hcell : ∀ (i : Nat) v, formCells[i]? = some v → W.cell? ⟨0, i, none⟩ = some v := by
        intro i v hv
        have := World.var?_cell gForms hvar i
        rw [this, ← Array.getElem?_toList, hall, hv]
      exact ⟨block_lt_of_cell (hcell 0 _ rfl), hcell⟩
    · cases hd

end Go.Proofs.YtimmfabaogeanaaDoor
