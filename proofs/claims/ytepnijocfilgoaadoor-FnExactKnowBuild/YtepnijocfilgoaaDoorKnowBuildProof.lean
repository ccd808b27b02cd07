/-
  A law at all keys, seals and words: the program's KnowBuild answers as the specification's, and writes into nothing of what it is handed: the call returns true, and keys, seals and the word read behind it as they read before. The package's variables start as the program's own text lays them: the card ties them to it.
-/
import Derived.Test.YtepnijocfilgoaaDoorCards
import Derived.Test.YtepnijocfilgoaaDoorTie
import Derived.Test.YtepnijocfilgoaaDoorKnowBuildLaw
import Derived.Test.YtepnijocfilgoaaDoorMsgAgg
import Derived.Test.YtepnijocfilgoaaDoorKAggI
import Derived.ProofKit
import Derived.LaidMore
import Derived.Deep.DeepHandedRow
import Derived.Lib.LaidTab
import Derived.OpenVars
namespace Go.Proofs.YtepnijocfilgoaaDoor
namespace ExactKnowBuild
open Go.ChangeShapes Go.WideShapes Go.ChangeAt Go.RowKit

theorem ownK : ownKnob Tryd.prog.godebug = none := by kernel_rfl
theorem laidOut : laidOutB Tryd.prog = true := by kernel_rfl

/-- What the row's list gives: the table of forms. -/
theorem lib_of {W : World} (hL : laidMetH Tryd.prog Rows.fnExactKnowBuildRow.laid W) : Forms W := by
  rw [MakeChecks.laidMetH_plain _ _ _ (by kernel_rfl)] at hL
  exact forms_of_head hL

theorem walked {H : Type} {enc : TypeId × Value → H} {W : World} {x0 x1 : Option Addr} {l0 y0 l1 y1 : Nat} {d0 d1 : DataW H} {p0 p1 : List MemPlace} {m n k f : Int} {a3 : Option Addr} {ys : List Sl} {c3 : Nat} (hf : Forms W) (hR : SRow W a3 ys) (hM : ys.length ≤ maxLen)
    (h0 : DataW.Trod enc Tryd.prog W 0 (fun _ => true) true 22 (.slice x0 l0 y0) d0 p0) (h1 : DataW.Trod enc Tryd.prog W 0 (fun _ => true) true 23 (.slice x1 l1 y1) d1 p1) :
    Calls Tryd.prog 3 #[.slice x0 l0 y0, .slice x1 l1 y1, .agg #[.int .i64 m, .int .i64 n, .int .i64 k, .int .i64 f, .slice a3 ys.length c3]] W fun e w' => e = .returned (.bool true) ∧ Below W.heap.size W w' := by
  obtain ⟨f0, hf0⟩ := h0
  obtain ⟨f1, hf1⟩ := h1
  obtain ⟨a1, ks, c1, e1, r1⟩ := open_introw (v := .slice x0 l0 y0) Tryd.underlying22 Tryd.underlying3 (by kernel_rfl) (by simpa [Value.cells] using hf0)
  obtain ⟨a2, xs, c2, e2, r2, hx⟩ := open_seals (v := .slice x1 l1 y1) Tryd.underlying23 Tryd.underlying56 rfl Tryd.underlying3 (by kernel_rfl) (by kernel_rfl) (by kernel_rfl) (by simpa [Value.cells] using hf1)
  rw [e1, e2]
  exact lawBuild_any a1 a2 a3 c1 c2 c3 ks xs m n k f ys W r1 r2 hR (by unfold maxLen at hx; omega) (by unfold maxLen at hM; omega) hf

set_option maxRecDepth 100000 in
theorem contract (H : Type) (enc : TypeId × Value → H) (W : World) (base : Nat) (args : Array Value) (ds gs : List (DataW H)) (before : List MemPlace)
    (hval : ∀ (j : Nat) t v, Tryd.f3.params[j]? = some t → args[j]? = some v → Value.okWide Tryd.prog W .any base t v)
    (hW : DataW.Whole enc Tryd.prog Tryd.f3.params.toList Rows.fnExactKnowBuildSpec.vars false W args.toList ds gs before) (hL : laidMetH Tryd.prog Rows.fnExactKnowBuildRow.laid W) (_hS : W.ShapedOpen Tryd.prog) :
    Calls Tryd.prog 3 args W fun e W' => ∃ v, e = .returned v ∧ Rows.fnExactKnowBuildSpec.post enc Tryd.prog Tryd.f3 false true false false W args v W' := by
  have hW' := hW
  obtain ⟨p, q, hA0, hV, rfl, _, _⟩ := hW
  have hA : DataW.TrodAll enc Tryd.prog W 0 (fun _ => true) true Tryd.f3.params.toList args.toList ds p := hA0
  rw [Tryd.params3] at hA hval
  obtain ⟨v0, v1, v2, d0, d1, d2, p0, p1, p2, rfl, rfl, rfl, h0, h1, h2⟩ := trodAll_three hA
  obtain ⟨g, t, cs, fuel, d, pv, rfl, _, _, _, _, _⟩ := trodVars_one hV
  obtain ⟨m, n, k, f, a3, ys, c3, rfl, hR, hM⟩ := open_msg Tryd.underlying25 (by kernel_rfl) rfl rfl rfl rfl rfl (by kernel_rfl) Tryd.underlying23 Tryd.underlying56 rfl Tryd.underlying3 (by kernel_rfl) (by kernel_rfl) (by kernel_rfl) (hval 2 25 v2 rfl rfl) h2
  obtain ⟨x0, l0, y0, rfl⟩ := okWide_slice Tryd.underlying22 (hval 0 22 v0 rfl rfl)
  obtain ⟨x1, l1, y1, rfl⟩ := okWide_slice Tryd.underlying23 (hval 1 23 v1 rfl rfl)
  have lt0 : ∀ x ∈ p0, x.block < W.heap.size := by obtain ⟨m, hm⟩ := h0; exact DataW.trod_lt m _ _ _ hm
  have lt1 : ∀ x ∈ p1, x.block < W.heap.size := by obtain ⟨m, hm⟩ := h1; exact DataW.trod_lt m _ _ _ hm
  have lt2 : ∀ x ∈ p2, x.block < W.heap.size := by obtain ⟨m, hm⟩ := h2; exact DataW.trod_lt m _ _ _ hm
  clear hA0
  have walk : Calls Tryd.prog 3 #[.slice x0 l0 y0, .slice x1 l1 y1, .agg #[.int .i64 m, .int .i64 n, .int .i64 k, .int .i64 f, .slice a3 ys.length c3]] W fun e w' => e = .returned (.bool true) ∧ Below W.heap.size W w' := by
    exact walked (lib_of hL) hR hM h0 h1
  refine walk.mono fun e W' ⟨he, bel⟩ => ?_
  subst he
  exact ⟨_, rfl, _, _, _, [], _, _, hW', trodAll_mk1 (shut_bool Tryd.underlying4 true), trodAll_mk3 (Below.trod laidOut (by kernel_rfl) (of_decide_eq_true (by kernel_rfl)) h0 bel lt0) (Below.trod laidOut (by kernel_rfl) (of_decide_eq_true (by kernel_rfl)) h1 bel lt1) (Below.trod laidOut (by kernel_rfl) (of_decide_eq_true (by kernel_rfl)) h2 bel lt2), Below.trodVars laidOut bel (by kernel_rfl) hV, bel.frame _, fun h => by cases h⟩

theorem laidW (os : Os) : laidMet Tryd.prog Rows.fnExactKnowBuildRow.laid ((World.doorLaid Tryd.prog 400 os).forCall (fun _ _ => 0) ⟨#[], #[.slice none 0 0, .slice none 0 0, .agg #[.int .i64 0, .int .i64 0, .int .i64 0, .int .i64 0, .slice none 0 0]], []⟩).memory :=
  laidMet_of_run' 8 (by kernel_rfl) (by kernel_rfl)
theorem reads (os : Os) {H : Type} (enc : TypeId × Value → H) : ∃ gs places, DataW.whole enc Tryd.prog ((World.doorLaid Tryd.prog 400 os).forCall (fun _ _ => 0) ⟨#[], #[.slice none 0 0, .slice none 0 0, .agg #[.int .i64 0, .int .i64 0, .int .i64 0, .int .i64 0, .slice none 0 0]], []⟩).memory Tryd.f3.params.toList Rows.fnExactKnowBuildSpec.vars false (#[.slice none 0 0, .slice none 0 0, .agg #[.int .i64 0, .int .i64 0, .int .i64 0, .int .i64 0, .slice none 0 0]] : Array Value).toList 8 = some ([.nil, .nil, .agg [.lit (.int .i64 0), .lit (.int .i64 0), .lit (.int .i64 0), .lit (.int .i64 0), .nil]], gs, places) :=
  ⟨[Rows.laid_loop_example_cerberus_impl_msgForms], MemPlace.row ⟨0, 0, none⟩ 28, by kernel_rfl⟩

set_option maxRecDepth 100000 in
theorem lifted (os : Os) (started : os.Started) (H : Type) (enc : TypeId × Value → H) (F : Stop.Interp) :
    ReturnsInHanded {} Tryd.checked os 3 .any ((OpenSpec.ofChange Rows.fnExactKnowBuildSpec).preRow enc Tryd.prog Tryd.f3 Rows.fnExactKnowBuildRow.domain false Rows.fnExactKnowBuildRow.laid) (((OpenSpec.ofChange Rows.fnExactKnowBuildSpec).at F).post enc Tryd.prog Tryd.f3 false true false false) := by
  obtain ⟨gs0, places, hx⟩ := reads os enc
  refine returnsInHanded_of_row (C := Tryd.checked) (s := OpenSpec.ofChange Rows.fnExactKnowBuildSpec) ownK started (by kernel_rfl) Tryd.func3
    (witness_row_at (enc := enc) (C := Tryd.checked) false (World.doorLaid Tryd.prog 400 os) #[.slice none 0 0, .slice none 0 0, .agg #[.int .i64 0, .int .i64 0, .int .i64 0, .int .i64 0, .slice none 0 0]] rfl (by kernel_rfl) (by kernel_rfl) (by kernel_rfl)
      (OpenSpec.preRow_of_cond 8 hx (by kernel_rfl) (fun k hk => by cases hk) (by kernel_rfl) (laidW os))) ?_
  intro W base args ds gs before hval hW _ _ _ hL hS _
  exact contract H enc W base args ds gs before hval hW hL hS

theorem said : Rows.FnExactKnowBuildSaid :=
  OpenClaim.holds_of_cond 3 Tryd.f3 rfl rfl rfl rfl rfl rfl rfl ⟨rfl, rfl, rfl, rfl, rfl⟩ rfl rfl rfl rfl rfl (by kernel_rfl) Tryd.func3 (by kernel_rfl)
    (of_decide_eq_true (by kernel_rfl)) (by unfold Func.isWrapper; first | (rw [if_pos (by decide +kernel)]; kernel_rfl) | (rw [if_neg (by decide +kernel)]; exact ⟨rfl, rfl⟩))
    (fun os started H enc _ F => by rw [OpenClaim.pre_eq_preRow]; exact lifted os started H enc F)

/-- No parameter wants a stand-in: what the card asks. -/
theorem plain (f : FuncId) (fn : Func) (hf : Tryd.pinned.checked.prog.funcNamed "loop.example/cerberus/laws.FnExactKnowBuild" = some f) (hfn : Tryd.pinned.checked.prog.funcs[f]? = some fn) :
    true = Tryd.pinned.checked.prog.looks [] ∧ ∀ (j : Nat) t, fn.params[j]? = some t → Tryd.pinned.checked.prog.wantsStandIn t = false := by
  obtain rfl : f = 3 := Option.some.inj ((show Tryd.prog.funcNamed "loop.example/cerberus/laws.FnExactKnowBuild" = some 3 by kernel_rfl).symm.trans hf) |>.symm
  obtain rfl : fn = Tryd.f3 := (Option.some.inj (Tryd.func3.symm.trans hfn)).symm
  refine ⟨by kernel_rfl, fun j t ht => ?_⟩
  rw [Tryd.params3] at ht
  have hm : t = 22 ∨ t = 23 ∨ t = 25 := by simpa using Array.mem_of_getElem? ht
  rcases hm with rfl | rfl | rfl
  · exact (show Tryd.prog.wantsStandIn 22 = false by kernel_rfl)
  · exact (show Tryd.prog.wantsStandIn 23 = false by kernel_rfl)
  · exact (show Tryd.prog.wantsStandIn 25 = false by kernel_rfl)

end ExactKnowBuild
theorem exactKnowBuild_card : Rows.FnExactKnowBuildCardSaid :=
  Claim7.holds_tied_plain_at .later [] _ _ _ _ ExactKnowBuild.said (fun _ h => by cases h) (by kernel_rfl) (fun _ h => by cases h) fnExactKnowBuild_row_tie rfl ⟨rfl, rfl⟩ (by kernel_rfl) rfl ExactKnowBuild.plain (by kernel_rfl)

end Go.Proofs.YtepnijocfilgoaaDoor
