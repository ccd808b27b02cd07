/-
  NARROWER THAN 'FOR EVERY INPUT', by the rows' own cells (each row's printed sentence says how): FnExactKnowBuild: laid · FnKnowNothing: laid · FnBuildNot: laid · FnKnowBuild: laid · FnBuildMore: laid.
  DERIVED. THE GIVEN ROWS OF THIS SEAT. 5 by the template 'for every input the law returns true; each argument reads behind the call as it read before'; 0 by the template 'total and deterministic' (their statements: YtepnijocfilgoaaDoorTotals.lean).
  GIVEN WITH THE SEED: the statements are not yours to turn. If you find one false, say at which input.
  Laid BY PROGRAM, IN A SANDBOX (cutbox-rows.mjs): the forced cells as the released guide's own fill.sh prints them over the translation 3da47e1cc8bd08eb… (all of the seat's roots in one cut). By AI agents, Wed Nov 11 2026. No macro, syntax, notation, axiom, sorry.
-/
import Derived.Test.YtepnijocfilgoaaDoorChecked
import GoSem.Claim
import GoSem.ClaimJoined
import GoSem.ClaimMapViews
import Derived.JoinedTies
import Derived.KernelRfl
namespace Go.Proofs.YtepnijocfilgoaaDoor
/- THE CELL 'sum', in the pinned program and in every row, IS THE sha256 OF THE DUMP (.gsa) THAT YtepnijocfilgoaaDoorProg.lean LOADS. Nothing in Lean hashes anything: it is a label: what it is worth is what the hold of that sum in a sandbox is worth. -/
noncomputable def Tryd.pinned : Pinned := { name := "ytepnijocfilgoaadoor", sum := "3da47e1cc8bd08eb5dd08c71fe874a1dda3e79d02da1e7496d16049243578d83", checked := Tryd.checked }
namespace Rows
def none {H : Type} : Left H := { results := [], args := [] }

/- WHAT THE LISTED PACKAGE-LEVEL VARIABLES READ AS WHEN THE CALL BEGINS. Each datum BY PROGRAM (the guide's laid-datum.mjs) off the statement by which the dump's own 'gosem.cut.vars' lays the variable. In a bare row this is a premise. The card (YtepnijocfilgoaaDoorCards.lean) ties it to the program's text. -/
def laid_loop_example_cerberus_impl_msgForms {H : Type} : DataW H := .agg [.agg [.lit (.bool false), .lit (.bool false), .lit (.bool false), .lit (.int .i64 0)], .agg [.lit (.bool true), .lit (.bool false), .lit (.bool true), .lit (.int .i64 0)], .agg [.lit (.bool true), .lit (.bool false), .lit (.bool false), .lit (.int .i64 2)], .agg [.lit (.bool false), .lit (.bool true), .lit (.bool true), .lit (.int .i64 2)], .agg [.lit (.bool true), .lit (.bool false), .lit (.bool false), .lit (.int .i64 2)], .agg [.lit (.bool false), .lit (.bool true), .lit (.bool false), .lit (.int .i64 2)], .agg [.lit (.bool true), .lit (.bool false), .lit (.bool false), .lit (.int .i64 1)]]

/-- 'laws.FnExactKnowBuild': WHATEVER THE INPUT: true; the input reads as it did. -/
def fnExactKnowBuildSpec : ChangeSpec := { name := "fnExactKnowBuild", vars := ["loop.example/cerberus/impl.msgForms"], fn := fun _ => fun
  | [d1, d2, d3, g1] => { results := [.lit (.bool true)], args := [d1, d2, d3], vars := [g1] }
  | _ => none }
def fnExactKnowBuildRow : OpenClaim := { program := "ytepnijocfilgoaadoor", sum := "3da47e1cc8bd08eb5dd08c71fe874a1dda3e79d02da1e7496d16049243578d83", func := "loop.example/cerberus/laws.FnExactKnowBuild", spec := "fnExactKnowBuild", unfollowed := true, recurses := true, named := ["loop.example/cerberus/impl.msgForms"], apart := false, laid := [("loop.example/cerberus/impl.msgForms", laid_loop_example_cerberus_impl_msgForms)] }
def FnExactKnowBuildSaid : Prop := fnExactKnowBuildRow.holds Tryd.pinned (OpenSpec.ofChange fnExactKnowBuildSpec)

/-- ITS FALSE NEIGHBOUR: 'it returns false'. Refute it at one input. -/
def fnExactKnowBuildWrong : ChangeSpec := { name := "fnExactKnowBuild", vars := ["loop.example/cerberus/impl.msgForms"], fn := fun _ => fun
  | [d1, d2, d3, g1] => { results := [.lit (.bool false)], args := [d1, d2, d3], vars := [g1] }
  | _ => none }
def FnExactKnowBuildWrongFalsely : Prop := fnExactKnowBuildRow.holds Tryd.pinned (OpenSpec.ofChange fnExactKnowBuildWrong)

/-- 'laws.FnKnowNothing': WHATEVER THE INPUT: true; the input reads as it did. -/
def fnKnowNothingSpec : ChangeSpec := { name := "fnKnowNothing", vars := ["loop.example/cerberus/impl.msgForms"], fn := fun _ => fun
  | [d, g1] => { results := [.lit (.bool true)], args := [d], vars := [g1] }
  | _ => none }
def fnKnowNothingRow : OpenClaim := { program := "ytepnijocfilgoaadoor", sum := "3da47e1cc8bd08eb5dd08c71fe874a1dda3e79d02da1e7496d16049243578d83", func := "loop.example/cerberus/laws.FnKnowNothing", spec := "fnKnowNothing", unfollowed := true, recurses := true, named := ["loop.example/cerberus/impl.msgForms"], apart := false, laid := [("loop.example/cerberus/impl.msgForms", laid_loop_example_cerberus_impl_msgForms)] }
def FnKnowNothingSaid : Prop := fnKnowNothingRow.holds Tryd.pinned (OpenSpec.ofChange fnKnowNothingSpec)

/-- ITS FALSE NEIGHBOUR: 'it returns false'. Refute it at one input. -/
def fnKnowNothingWrong : ChangeSpec := { name := "fnKnowNothing", vars := ["loop.example/cerberus/impl.msgForms"], fn := fun _ => fun
  | [d, g1] => { results := [.lit (.bool false)], args := [d], vars := [g1] }
  | _ => none }
def FnKnowNothingWrongFalsely : Prop := fnKnowNothingRow.holds Tryd.pinned (OpenSpec.ofChange fnKnowNothingWrong)

/-- 'laws.FnBuildNot': WHATEVER THE INPUT: true; the input reads as it did. -/
def fnBuildNotSpec : ChangeSpec := { name := "fnBuildNot", vars := ["loop.example/cerberus/impl.msgForms"], fn := fun _ => fun
  | [d, g1] => { results := [.lit (.bool true)], args := [d], vars := [g1] }
  | _ => none }
def fnBuildNotRow : OpenClaim := { program := "ytepnijocfilgoaadoor", sum := "3da47e1cc8bd08eb5dd08c71fe874a1dda3e79d02da1e7496d16049243578d83", func := "loop.example/cerberus/laws.FnBuildNot", spec := "fnBuildNot", unfollowed := true, recurses := true, named := ["loop.example/cerberus/impl.msgForms"], apart := false, laid := [("loop.example/cerberus/impl.msgForms", laid_loop_example_cerberus_impl_msgForms)] }
def FnBuildNotSaid : Prop := fnBuildNotRow.holds Tryd.pinned (OpenSpec.ofChange fnBuildNotSpec)

/-- ITS FALSE NEIGHBOUR: 'it returns false'. Refute it at one input. -/
def fnBuildNotWrong : ChangeSpec := { name := "fnBuildNot", vars := ["loop.example/cerberus/impl.msgForms"], fn := fun _ => fun
  | [d, g1] => { results := [.lit (.bool false)], args := [d], vars := [g1] }
  | _ => none }
def FnBuildNotWrongFalsely : Prop := fnBuildNotRow.holds Tryd.pinned (OpenSpec.ofChange fnBuildNotWrong)

/-- 'laws.FnKnowBuild': WHATEVER THE INPUT: true; the input reads as it did. -/
def fnKnowBuildSpec : ChangeSpec := { name := "fnKnowBuild", vars := ["loop.example/cerberus/impl.msgForms"], fn := fun _ => fun
  | [d, g1] => { results := [.lit (.bool true)], args := [d], vars := [g1] }
  | _ => none }
def fnKnowBuildRow : OpenClaim := { program := "ytepnijocfilgoaadoor", sum := "3da47e1cc8bd08eb5dd08c71fe874a1dda3e79d02da1e7496d16049243578d83", func := "loop.example/cerberus/laws.FnKnowBuild", spec := "fnKnowBuild", unfollowed := true, recurses := true, named := ["loop.example/cerberus/impl.msgForms"], apart := false, laid := [("loop.example/cerberus/impl.msgForms", laid_loop_example_cerberus_impl_msgForms)] }
def FnKnowBuildSaid : Prop := fnKnowBuildRow.holds Tryd.pinned (OpenSpec.ofChange fnKnowBuildSpec)

/-- ITS FALSE NEIGHBOUR: 'it returns false'. Refute it at one input. -/
def fnKnowBuildWrong : ChangeSpec := { name := "fnKnowBuild", vars := ["loop.example/cerberus/impl.msgForms"], fn := fun _ => fun
  | [d, g1] => { results := [.lit (.bool false)], args := [d], vars := [g1] }
  | _ => none }
def FnKnowBuildWrongFalsely : Prop := fnKnowBuildRow.holds Tryd.pinned (OpenSpec.ofChange fnKnowBuildWrong)

/-- 'laws.FnBuildMore': WHATEVER THE INPUT: true; the input reads as it did. -/
def fnBuildMoreSpec : ChangeSpec := { name := "fnBuildMore", vars := ["loop.example/cerberus/impl.msgForms"], fn := fun _ => fun
  | [d1, d2, g1] => { results := [.lit (.bool true)], args := [d1, d2], vars := [g1] }
  | _ => none }
def fnBuildMoreRow : OpenClaim := { program := "ytepnijocfilgoaadoor", sum := "3da47e1cc8bd08eb5dd08c71fe874a1dda3e79d02da1e7496d16049243578d83", func := "loop.example/cerberus/laws.FnBuildMore", spec := "fnBuildMore", unfollowed := true, recurses := true, named := ["loop.example/cerberus/impl.msgForms"], apart := false, laid := [("loop.example/cerberus/impl.msgForms", laid_loop_example_cerberus_impl_msgForms)] }
def FnBuildMoreSaid : Prop := fnBuildMoreRow.holds Tryd.pinned (OpenSpec.ofChange fnBuildMoreSpec)

/-- ITS FALSE NEIGHBOUR: 'it returns false'. Refute it at one input. -/
def fnBuildMoreWrong : ChangeSpec := { name := "fnBuildMore", vars := ["loop.example/cerberus/impl.msgForms"], fn := fun _ => fun
  | [d1, d2, g1] => { results := [.lit (.bool false)], args := [d1, d2], vars := [g1] }
  | _ => none }
def FnBuildMoreWrongFalsely : Prop := fnBuildMoreRow.holds Tryd.pinned (OpenSpec.ofChange fnBuildMoreWrong)

/- THE SECOND FORM. 'bulk': how many values and letters a reading holds, each counted each time it is reached (what is shared counts as often as it is met; a slice's spare places count too). A statement '..UptoSaid' is the law's where the arguments, and the package variables that the reading takes, are together of bulk at most 1048576: NARROWER than '..Said'. Prove '..Said' where nothing that the law and all that it calls make is longer than what came in: it says more and counts as full. Else prove '..UptoSaid'. A law counts once. -/
mutual
def uptoBulk {H : Type} : DataW H → Nat
  | .lit (.string bytes) => bytes.length + 1
  | .lit _ => 1
  | .nil => 1
  | .ptr d => uptoBulk d + 1
  | .slice elems spare => uptoBulkAll elems + uptoBulkAll spare + 1
  | .agg parts => uptoBulkAll parts + 1
  | .iface _ d => uptoBulk d + 1
  | .map entries => uptoBulkEntries entries + 1
  | .held _ => 1
def uptoBulkAll {H : Type} : List (DataW H) → Nat
  | [] => 0
  | d :: r => uptoBulk d + uptoBulkAll r
def uptoBulkEntries {H : Type} : List (Lit × DataW H) → Nat
  | [] => 0
  | x :: r => uptoBulkEntry x + uptoBulkEntries r
def uptoBulkEntry {H : Type} : Lit × DataW H → Nat
  | (.string bytes, d) => bytes.length + uptoBulk d + 1
  | (_, d) => uptoBulk d + 1
 end
def uptoSmall : (H : Type) → List (DataW H) → Bool := fun _ ds => decide (uptoBulkAll ds ≤ 1048576)
def OpenSpec.upto (s : _root_.Go.ChangeSpec) : _root_.Go.OpenSpec := { _root_.Go.OpenSpec.ofChange s with cond := some uptoSmall }

/-- 'laws.FnExactKnowBuild', WHERE WHAT IT READS IS OF BULK AT MOST 1048576: true; the input reads as it did. -/
def fnExactKnowBuildUptoRow : OpenClaim := { program := "ytepnijocfilgoaadoor", sum := "3da47e1cc8bd08eb5dd08c71fe874a1dda3e79d02da1e7496d16049243578d83", func := "loop.example/cerberus/laws.FnExactKnowBuild", spec := "fnExactKnowBuild", unfollowed := true, recurses := true, named := ["loop.example/cerberus/impl.msgForms"], apart := false, laid := [("loop.example/cerberus/impl.msgForms", laid_loop_example_cerberus_impl_msgForms)], narrowed := true }
def FnExactKnowBuildUptoSaid : Prop := fnExactKnowBuildUptoRow.holds Tryd.pinned (OpenSpec.upto fnExactKnowBuildSpec)

/-- 'laws.FnKnowNothing', WHERE WHAT IT READS IS OF BULK AT MOST 1048576: true; the input reads as it did. -/
def fnKnowNothingUptoRow : OpenClaim := { program := "ytepnijocfilgoaadoor", sum := "3da47e1cc8bd08eb5dd08c71fe874a1dda3e79d02da1e7496d16049243578d83", func := "loop.example/cerberus/laws.FnKnowNothing", spec := "fnKnowNothing", unfollowed := true, recurses := true, named := ["loop.example/cerberus/impl.msgForms"], apart := false, laid := [("loop.example/cerberus/impl.msgForms", laid_loop_example_cerberus_impl_msgForms)], narrowed := true }
def FnKnowNothingUptoSaid : Prop := fnKnowNothingUptoRow.holds Tryd.pinned (OpenSpec.upto fnKnowNothingSpec)

/-- 'laws.FnBuildNot', WHERE WHAT IT READS IS OF BULK AT MOST 1048576: true; the input reads as it did. -/
def fnBuildNotUptoRow : OpenClaim := { program := "ytepnijocfilgoaadoor", sum := "3da47e1cc8bd08eb5dd08c71fe874a1dda3e79d02da1e7496d16049243578d83", func := "loop.example/cerberus/laws.FnBuildNot", spec := "fnBuildNot", unfollowed := true, recurses := true, named := ["loop.example/cerberus/impl.msgForms"], apart := false, laid := [("loop.example/cerberus/impl.msgForms", laid_loop_example_cerberus_impl_msgForms)], narrowed := true }
def FnBuildNotUptoSaid : Prop := fnBuildNotUptoRow.holds Tryd.pinned (OpenSpec.upto fnBuildNotSpec)

/-- 'laws.FnKnowBuild', WHERE WHAT IT READS IS OF BULK AT MOST 1048576: true; the input reads as it did. -/
def fnKnowBuildUptoRow : OpenClaim := { program := "ytepnijocfilgoaadoor", sum := "3da47e1cc8bd08eb5dd08c71fe874a1dda3e79d02da1e7496d16049243578d83", func := "loop.example/cerberus/laws.FnKnowBuild", spec := "fnKnowBuild", unfollowed := true, recurses := true, named := ["loop.example/cerberus/impl.msgForms"], apart := false, laid := [("loop.example/cerberus/impl.msgForms", laid_loop_example_cerberus_impl_msgForms)], narrowed := true }
def FnKnowBuildUptoSaid : Prop := fnKnowBuildUptoRow.holds Tryd.pinned (OpenSpec.upto fnKnowBuildSpec)

/-- 'laws.FnBuildMore', WHERE WHAT IT READS IS OF BULK AT MOST 1048576: true; the input reads as it did. -/
def fnBuildMoreUptoRow : OpenClaim := { program := "ytepnijocfilgoaadoor", sum := "3da47e1cc8bd08eb5dd08c71fe874a1dda3e79d02da1e7496d16049243578d83", func := "loop.example/cerberus/laws.FnBuildMore", spec := "fnBuildMore", unfollowed := true, recurses := true, named := ["loop.example/cerberus/impl.msgForms"], apart := false, laid := [("loop.example/cerberus/impl.msgForms", laid_loop_example_cerberus_impl_msgForms)], narrowed := true }
def FnBuildMoreUptoSaid : Prop := fnBuildMoreUptoRow.holds Tryd.pinned (OpenSpec.upto fnBuildMoreSpec)

end Rows
end Go.Proofs.YtepnijocfilgoaaDoor
