/-
  The law that MsgRead answers as the specification's, every field, at whatever text, and that its answer owns its memory: the call returns true, and the text reads behind it as it read before. The package's variables start as the program's own text lays them: the card ties them to it.
-/
import Derived.Test.YtopikapamfmalaaGreatDoorCards
import Derived.Test.YtopikapamfmalaaGreatDoorTie
import Derived.Test.YtopikapamfmalaaGreatDoorMrJ
import Derived.Test.YtopikapamfmalaaGreatDoorAggJ
import Derived.ChangeMaps5
import Derived.ProofKit
import Derived.LaidMore
import Derived.Deep.DeepHandedRow
import Derived.Lib.LaidTab
import Derived.OpenVars
import Derived.Deep.DeepWitnessRowRef
import Derived.Stop.LaidErr
import Derived.OpenShut
import Derived.LaidHandle
namespace Go.Proofs.YtopikapamfmalaaGreatDoor
namespace MsgRead
open Go.ChangeShapes Go.WideShapes Go.ChangeAt Go.RowKit

theorem ownK : ownKnob Tryz.prog.godebug = none := by kernel_rfl
theorem laidOut : laidOutB Tryz.prog = true := by kernel_rfl

theorem tPow : (Tryz.prog.globals[5]?).map (·.type) = some 160 := by kernel_rfl
theorem cellsPow : Tryz.prog.cellsOf 160 = 20 := by kernel_rfl
theorem cellsU64 : Tryz.prog.cellsOf 146 = 1 := by kernel_rfl
theorem tSyn : (Tryz.prog.globals[7]?).map (·.type) = some 43 := by kernel_rfl
theorem tRng : (Tryz.prog.globals[8]?).map (·.type) = some 43 := by kernel_rfl
theorem gOpn : Tryz.prog.globalNamed "loop.example/cerberus/impl.errOpenLine" = some 2 := by kernel_rfl
theorem gNum : Tryz.prog.globalNamed "loop.example/cerberus/impl.errNotNums" = some 3 := by kernel_rfl
theorem gSea : Tryz.prog.globalNamed "loop.example/cerberus/impl.errNotSeal" = some 4 := by kernel_rfl
theorem gTyp : Tryz.prog.globalNamed "errors.errorType" = some 1 := by kernel_rfl
theorem tOpn : (Tryz.prog.globals[2]?).map (·.type) = some 43 := by kernel_rfl
theorem tNum : (Tryz.prog.globals[3]?).map (·.type) = some 43 := by kernel_rfl
theorem tSea : (Tryz.prog.globals[4]?).map (·.type) = some 43 := by kernel_rfl
theorem cellsErr : Tryz.prog.cellsOf 181 = 1 := by kernel_rfl
theorem cellsStr : Tryz.prog.cellsOf 9 = 1 := by kernel_rfl
theorem star : "*" ++ "errors.errorString" = "*errors.errorString" := by decide
theorem rowErr (u : TypeId) (h : Tryz.prog.typeName? 3 u = some "*errors.errorString") : u = 179 :=
  typeName_ptr_named (nm := "errors.errorString") (by rw [star]; kernel_rfl) (by kernel_rfl) (by decide) u (by rw [star]; exact h)
theorem rtT : (Tryz.prog.cutTypes.find? (·.1 == "internal/reflectlite.rtype")).map (·.2) = some 113 := by kernel_rfl
theorem nTypes : Tryz.prog.types.size = 215 := by kernel_rfl
theorem oneRow : ((List.range 215).filter fun t => Tryz.prog.rowNamed t [101, 114, 114, 111, 114]) = [43] := by kernel_rfl

theorem isHandle : (Rows.fnExactMsgReadRow.laid.filter fun x => x.2.handleName?.isSome) = [("errors.errorType", Rows.laid_errors_errorType)] := by rfl
theorem noHandle : (Rows.fnExactMsgReadRow.laid.filter fun x => x.2.handleName?.isNone) = [("math/bits.deBruijn32tab", Rows.laid_math_bits_deBruijn32tab), ("math/bits.deBruijn64tab", Rows.laid_math_bits_deBruijn64tab), ("internal/strconv.uint64pow10", Rows.laid_internal_strconv_uint64pow10), ("unicode/utf8.acceptRanges", Rows.laid_unicode_utf8_acceptRanges), ("strconv.ErrRange", Rows.laid_strconv_ErrRange), ("strconv.ErrSyntax", Rows.laid_strconv_ErrSyntax), ("loop.example/cerberus/impl.errOpenLine", Rows.laid_loop_example_cerberus_impl_errOpenLine), ("loop.example/cerberus/impl.errNotNums", Rows.laid_loop_example_cerberus_impl_errNotNums), ("loop.example/cerberus/impl.errNotSeal", Rows.laid_loop_example_cerberus_impl_errNotSeal), ("loop.example/cerberus/impl.msgForms", Rows.laid_loop_example_cerberus_impl_msgForms), ("unicode/utf8.first", Rows.laid_unicode_utf8_first)] := by rfl
theorem parts_of {W : World} (hL : laidMetH Tryz.prog Rows.fnExactMsgReadRow.laid W) : laidMet Tryz.prog (Rows.fnExactMsgReadRow.laid.filter fun x => x.2.handleName?.isNone) W ∧ handlesMet Tryz.prog [("errors.errorType", Rows.laid_errors_errorType)] W := by
  unfold laidMetH at hL
  rw [isHandle] at hL
  exact hL
theorem type_of {W : World} (h : handlesMet Tryz.prog [("errors.errorType", Rows.laid_errors_errorType)] W) : W.cell? ⟨1, 0, none⟩ = some (.iface 113 (.agg #[.pointer (some ⟨13, 43, none⟩)])) := by
  obtain ⟨name, u, ty, e1, e2, e3, e4, e5⟩ := h _ (List.mem_singleton.2 rfl)
  have en : name = [101, 114, 114, 111, 114] := (Option.some.inj e1).symm
  subst en
  obtain rfl := Option.some.inj (rtT.symm.trans e2)
  have hm : ty ∈ (List.range 215).filter fun t => Tryz.prog.rowNamed t [101, 114, 114, 111, 114] := List.mem_filter.2 ⟨List.mem_range.2 (by rw [← nTypes]; exact e3), e4⟩
  rw [oneRow] at hm
  obtain rfl := List.mem_singleton.1 hm
  have hh : typeHandle Tryz.prog 43 = .pointer (some ⟨13, 43, none⟩) := by kernel_rfl
  rw [hh] at e5
  simpa using World.var?_cell gTyp e5 0
/-- What the row's list, and the world's shape, give: the tables, the errors, the handle of the error's type. -/
theorem lib_of {W : World} (hL : laidMetH Tryz.prog Rows.fnExactMsgReadRow.laid W) (hS : W.ShapedOpen Tryz.prog) : ∃ p1 p2 p3, Lb W ∧ Er p1 p2 p3 W ∧ Forms W ∧ W.cell? ⟨1, 0, none⟩ = some (.iface 113 (.agg #[.pointer (some ⟨13, 43, none⟩)])) := by
  obtain ⟨h0, hh⟩ := parts_of hL
  rw [noHandle] at h0
  have h2 := h0.tail.tail
  have h4 := h2.tail.tail
  have h5 := h4.tail
  have h6 := h5.tail
  have h7 := h6.tail
  have h8 := h7.tail
  have h9 := h8.tail
  obtain ⟨a1, x1, v1, _⟩ := laid_sentinel h5 gSyn tSyn Tryz.underlying43 rowErr Tryz.underlying179 Tryz.underlying181 rfl rfl Tryz.underlying9 cellsErr cellsStr
  obtain ⟨a2, x2, v2, _⟩ := laid_sentinel h4 gRng tRng Tryz.underlying43 rowErr Tryz.underlying179 Tryz.underlying181 rfl rfl Tryz.underlying9 cellsErr cellsStr
  obtain ⟨a3, x3, v3, _⟩ := laid_sentinel h6 gOpn tOpn Tryz.underlying43 rowErr Tryz.underlying179 Tryz.underlying181 rfl rfl Tryz.underlying9 cellsErr cellsStr
  obtain ⟨a4, x4, v4, _⟩ := laid_sentinel h7 gNum tNum Tryz.underlying43 rowErr Tryz.underlying179 Tryz.underlying181 rfl rfl Tryz.underlying9 cellsErr cellsStr
  obtain ⟨a5, x5, v5, _⟩ := laid_sentinel h8 gSea tSea Tryz.underlying43 rowErr Tryz.underlying179 Tryz.underlying181 rfl rfl Tryz.underlying9 cellsErr cellsStr
  refine ⟨some a3, some a4, some a5, ⟨Lib.tabIs_of_head (zs := Lib.pow10Tab) gPow tPow Tryz.underlying160 Tryz.underlying146 cellsU64 cellsPow h2, Tryz.laysM147.s1_3 W hS, ⟨_, _, v1⟩, ⟨_, _, v2⟩⟩, ⟨?_, ?_, ?_⟩, forms_of_head h9, type_of hh⟩
  · simpa using World.var?_cell gOpn v3 0
  · simpa using World.var?_cell gNum v4 0
  · simpa using World.var?_cell gSea v5 0

theorem vars_four {H : Type} {enc : TypeId × Value → H} {P : Program} {w : World} {spare : Nat → Bool} {n1 n2 n3 n4 : String} {gs : List (DataW H)} {ps : List MemPlace} (h : DataW.TrodVars enc P w spare [n1, n2, n3, n4] gs ps) : ∃ g1 g2 g3 g4, gs = [g1, g2, g3, g4] := by
  cases gs with
  | nil => simp [DataW.TrodVars] at h
  | cons d1 gs =>
    obtain ⟨_, _, _, _, _, _, _, _, _, _, h, _⟩ := h
    cases gs with
    | nil => simp [DataW.TrodVars] at h
    | cons d2 gs =>
      obtain ⟨_, _, _, _, _, _, _, _, _, _, h, _⟩ := h
      cases gs with
      | nil => simp [DataW.TrodVars] at h
      | cons d3 gs =>
        obtain ⟨_, _, _, _, _, _, _, _, _, _, h, _⟩ := h
        obtain ⟨g, t, cs, fuel, d, p, rfl, _⟩ := trodVars_one h
        exact ⟨d1, d2, d3, d, rfl⟩


set_option maxRecDepth 100000 in
theorem contract (H : Type) (enc : TypeId × Value → H) (W : World) (base : Nat) (args : Array Value) (ds gs : List (DataW H)) (before : List MemPlace)
    (hval : ∀ (j : Nat) t v, Tryz.f3.params[j]? = some t → args[j]? = some v → Value.okWide Tryz.prog W .any base t v)
    (hW : DataW.Whole enc Tryz.prog Tryz.f3.params.toList Rows.fnExactMsgReadSpec.vars false W args.toList ds gs before) (hL : laidMetH Tryz.prog Rows.fnExactMsgReadRow.laid W) (hS : W.ShapedOpen Tryz.prog) :
    Calls Tryz.prog 3 args W fun e W' => ∃ v, e = .returned v ∧ Rows.fnExactMsgReadSpec.post enc Tryz.prog Tryz.f3 false true false false W args v W' := by
  have hW' := hW
  obtain ⟨p, q, hA0, hV, rfl, _, _⟩ := hW
  have hA : DataW.TrodAll enc Tryz.prog W 0 (fun _ => true) true Tryz.f3.params.toList args.toList ds p := hA0
  rw [Tryz.params3] at hA hval
  obtain ⟨v0, d0, rfl, rfl, h0⟩ := trodAll_one hA
  obtain ⟨g1, g2, g3, g4, rfl⟩ := vars_four hV
  obtain ⟨s, rfl, rfl, rfl, hs⟩ := Go.ChangeMaps.open_string Tryz.underlying9 (hval 0 9 v0 rfl rfl) h0
  clear hA0
  have walk : Calls Tryz.prog 3 #[.string s] W fun e w' => e = .returned (.bool true) ∧ Below W.heap.size W w' := by
    by_cases g : (s.size : Int) ≤ 1048576
    · obtain ⟨q1, q2, q3, hl, he, hf, hg⟩ := lib_of hL hS
      exact exread_short s W g q1 q2 q3 ⟨hl, he, hf, hg⟩
    · exact exread_long s W (by omega)
  refine walk.mono fun e W' ⟨he, bel⟩ => ?_
  subst he
  exact ⟨_, rfl, _, _, _, [], _, _, hW', trodAll_mk1 (shut_bool Tryz.underlying4 true), trodAll_mk1 (Go.ChangeMaps.shut_string Tryz.underlying9 hs), Below.trodVars laidOut bel (by kernel_rfl) hV, bel.frame _, fun h => by cases h⟩

/-- The library's own table of first bytes, as cells. -/
def firstCells : Array Value := match Go.Pinned.utf8First with
  | .agg ds => (ds.map fun d => match d with | .lit (.int k z) => Value.int k z | _ => Value.int .u8 0).toArray
  | _ => #[]
theorem laidW (os : Os) : laidMetH Tryz.prog Rows.fnExactMsgReadRow.laid (({ World.doorLaid Tryz.prog 400 os with heap := ((World.doorLaid Tryz.prog 400 os).heap.modify 11 (fun | .cells _ t fz => .cells firstCells t fz | o => o)).modify 1 (fun | .cells _ t fz => .cells #[.iface 113 (.agg #[.pointer (some ⟨13, 43, none⟩)])] t fz | o => o) } : World).forCall (fun _ _ => 0) ⟨#[], #[.string ⟨#[]⟩], []⟩).memory :=
  laidMetH_of_parts (laidMet_of_run' 8 (by kernel_rfl) (by kernel_rfl)) (by kernel_rfl)
theorem reads (os : Os) {H : Type} (enc : TypeId × Value → H) : ∃ x, DataW.whole enc Tryz.prog (({ World.doorLaid Tryz.prog 400 os with heap := ((World.doorLaid Tryz.prog 400 os).heap.modify 11 (fun | .cells _ t fz => .cells firstCells t fz | o => o)).modify 1 (fun | .cells _ t fz => .cells #[.iface 113 (.agg #[.pointer (some ⟨13, 43, none⟩)])] t fz | o => o) } : World).forCall (fun _ _ => 0) ⟨#[], #[.string ⟨#[]⟩], []⟩).memory Tryz.f3.params.toList Rows.fnExactMsgReadSpec.vars false (#[.string ⟨#[]⟩] : Array Value).toList 8 = some x :=
  Option.isSome_iff_exists.1 (by kernel_rfl)

set_option maxRecDepth 100000 in
theorem lifted (os : Os) (started : os.Started) (H : Type) (enc : TypeId × Value → H) (F : Stop.Interp) :
    ReturnsInHanded {} Tryz.checked os 3 .any ((OpenSpec.ofChange Rows.fnExactMsgReadSpec).preRow enc Tryz.prog Tryz.f3 Rows.fnExactMsgReadRow.domain false Rows.fnExactMsgReadRow.laid) (((OpenSpec.ofChange Rows.fnExactMsgReadSpec).at F).post enc Tryz.prog Tryz.f3 false true false false) := by
  obtain ⟨x, hx⟩ := reads os enc
  refine returnsInHanded_of_row (C := Tryz.checked) (s := OpenSpec.ofChange Rows.fnExactMsgReadSpec) ownK started (by kernel_rfl) Tryz.func3
    (witness_row_atRef (enc := enc) (C := Tryz.checked) false ({ World.doorLaid Tryz.prog 400 os with heap := ((World.doorLaid Tryz.prog 400 os).heap.modify 11 (fun | .cells _ t fz => .cells firstCells t fz | o => o)).modify 1 (fun | .cells _ t fz => .cells #[.iface 113 (.agg #[.pointer (some ⟨13, 43, none⟩)])] t fz | o => o) } : World) #[.string ⟨#[]⟩] rfl (by kernel_rfl) (by kernel_rfl) (by kernel_rfl)
      (OpenSpec.preRow_of_cond 8 hx (by kernel_rfl) (fun k hk => by cases hk) (by kernel_rfl) (laidW os))) ?_
  intro W base args ds gs before hval hW _ _ _ hL hS _
  exact contract H enc W base args ds gs before hval hW hL hS

theorem said : Rows.FnExactMsgReadSaid :=
  OpenClaim.holds_of_cond 3 Tryz.f3 rfl rfl rfl rfl rfl rfl rfl ⟨rfl, rfl, rfl, rfl, rfl⟩ rfl rfl rfl rfl rfl (by kernel_rfl) Tryz.func3 (by kernel_rfl)
    (of_decide_eq_true (by kernel_rfl)) (by unfold Func.isWrapper; first | (rw [if_pos (by decide +kernel)]; kernel_rfl) | (rw [if_neg (by decide +kernel)]; exact ⟨rfl, rfl⟩))
    (fun os started H enc _ F => by rw [OpenClaim.pre_eq_preRow]; exact lifted os started H enc F)

/-- No parameter wants a stand-in: what the card asks. -/
theorem plain (f : FuncId) (fn : Func) (hf : Tryz.pinned.checked.prog.funcNamed "loop.example/cerberus/laws.FnExactMsgRead" = some f) (hfn : Tryz.pinned.checked.prog.funcs[f]? = some fn) :
    true = Tryz.pinned.checked.prog.looks [] ∧ ∀ (j : Nat) t, fn.params[j]? = some t → Tryz.pinned.checked.prog.wantsStandIn t = false := by
  obtain rfl : f = 3 := Option.some.inj ((show Tryz.prog.funcNamed "loop.example/cerberus/laws.FnExactMsgRead" = some 3 by kernel_rfl).symm.trans hf) |>.symm
  obtain rfl : fn = Tryz.f3 := (Option.some.inj (Tryz.func3.symm.trans hfn)).symm
  refine ⟨by kernel_rfl, fun j t ht => ?_⟩
  rw [Tryz.params3] at ht
  obtain rfl : t = 9 := by simpa using Array.mem_of_getElem? ht
  exact (show Tryz.prog.wantsStandIn 9 = false by kernel_rfl)

end MsgRead
theorem exactMsgRead : Rows.FnExactMsgReadCardSaid :=
  Claim7.holds_tied_plain_at .later [] _ _ _ _ MsgRead.said (fun _ h => by cases h) (by kernel_rfl) (fun _ h => by cases h) fnExactMsgRead_row_tie rfl ⟨rfl, rfl⟩ (by kernel_rfl) rfl MsgRead.plain (by kernel_rfl)

end Go.Proofs.YtopikapamfmalaaGreatDoor
