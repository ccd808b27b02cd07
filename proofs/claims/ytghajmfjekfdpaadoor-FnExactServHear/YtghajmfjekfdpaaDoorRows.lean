/-
  NARROWER THAN 'FOR EVERY INPUT', by the rows' own cells (each row's printed sentence says how): FnExactKdcTgs: laid · FnExactServHear: laid.
  DERIVED. THE GIVEN ROWS OF THIS SEAT. 2 by the template 'for every input the law returns true; each argument reads behind the call as it read before'; 0 by the template 'total and deterministic' (their statements: YtghajmfjekfdpaaDoorTotals.lean).
  GIVEN WITH THE SEED: the statements are not yours to turn. If you find one false, say at which input.
  Laid BY PROGRAM, IN A SANDBOX (cutbox-rows.mjs): the forced cells as the released guide's own fill.sh prints them over the translation efb7cc62eeb01d49… (all of the seat's roots in one cut). By AI agents, Wed Nov 11 2026. No macro, syntax, notation, axiom, sorry.
-/
import Derived.Test.YtghajmfjekfdpaaDoorChecked
import GoSem.Claim
import GoSem.ClaimJoined
import GoSem.ClaimMapViews
import Derived.JoinedTies
import Derived.KernelRfl
namespace Go.Proofs.YtghajmfjekfdpaaDoor
/- THE CELL 'sum', in the pinned program and in every row, IS THE sha256 OF THE DUMP (.gsa) THAT YtghajmfjekfdpaaDoorProg.lean LOADS. Nothing in Lean hashes anything: it is a label: what it is worth is what the hold of that sum in a sandbox is worth. -/
noncomputable def Tryd.pinned : Pinned := { name := "ytghajmfjekfdpaadoor", sum := "efb7cc62eeb01d493ee18555afad8ffed5be76d24d5d40595fd5c4056998726f", checked := Tryd.checked }
namespace Rows
def none {H : Type} : Left H := { results := [], args := [] }

/- WHAT THE LISTED PACKAGE-LEVEL VARIABLES READ AS WHEN THE CALL BEGINS. Each datum BY PROGRAM (the guide's laid-datum.mjs) off the statement by which the dump's own 'gosem.cut.vars' lays the variable. In a bare row this is a premise. The card (YtghajmfjekfdpaaDoorCards.lean) ties it to the program's text. -/
def laid_loop_example_cerberus_impl_msgForms {H : Type} : DataW H := .agg [.agg [.lit (.bool false), .lit (.bool false), .lit (.bool false), .lit (.int .i64 0)], .agg [.lit (.bool true), .lit (.bool false), .lit (.bool true), .lit (.int .i64 0)], .agg [.lit (.bool true), .lit (.bool false), .lit (.bool false), .lit (.int .i64 2)], .agg [.lit (.bool false), .lit (.bool true), .lit (.bool true), .lit (.int .i64 2)], .agg [.lit (.bool true), .lit (.bool false), .lit (.bool false), .lit (.int .i64 2)], .agg [.lit (.bool false), .lit (.bool true), .lit (.bool false), .lit (.int .i64 2)], .agg [.lit (.bool true), .lit (.bool false), .lit (.bool false), .lit (.int .i64 1)]]

/-- 'laws.FnExactKdcTgs': WHATEVER THE INPUT: true; the input reads as it did. -/
def fnExactKdcTgsSpec : ChangeSpec := { name := "fnExactKdcTgs", vars := ["loop.example/cerberus/impl.msgForms"], fn := fun _ => fun
  | [d1, d2, d3, g1] => { results := [.lit (.bool true)], args := [d1, d2, d3], vars := [g1] }
  | _ => none }
def fnExactKdcTgsRow : OpenClaim := { program := "ytghajmfjekfdpaadoor", sum := "efb7cc62eeb01d493ee18555afad8ffed5be76d24d5d40595fd5c4056998726f", func := "loop.example/cerberus/laws.FnExactKdcTgs", spec := "fnExactKdcTgs", unfollowed := true, recurses := true, named := ["loop.example/cerberus/impl.msgForms"], apart := false, laid := [("loop.example/cerberus/impl.msgForms", laid_loop_example_cerberus_impl_msgForms)] }
def FnExactKdcTgsSaid : Prop := fnExactKdcTgsRow.holds Tryd.pinned (OpenSpec.ofChange fnExactKdcTgsSpec)

/-- ITS FALSE NEIGHBOUR: 'it returns false'. Refute it at one input. -/
def fnExactKdcTgsWrong : ChangeSpec := { name := "fnExactKdcTgs", vars := ["loop.example/cerberus/impl.msgForms"], fn := fun _ => fun
  | [d1, d2, d3, g1] => { results := [.lit (.bool false)], args := [d1, d2, d3], vars := [g1] }
  | _ => none }
def FnExactKdcTgsWrongFalsely : Prop := fnExactKdcTgsRow.holds Tryd.pinned (OpenSpec.ofChange fnExactKdcTgsWrong)

/-- 'laws.FnExactServHear': WHATEVER THE INPUT: true; the input reads as it did. -/
def fnExactServHearSpec : ChangeSpec := { name := "fnExactServHear", vars := ["loop.example/cerberus/impl.msgForms"], fn := fun _ => fun
  | [d1, d2, d3, g1] => { results := [.lit (.bool true)], args := [d1, d2, d3], vars := [g1] }
  | _ => none }
def fnExactServHearRow : OpenClaim := { program := "ytghajmfjekfdpaadoor", sum := "efb7cc62eeb01d493ee18555afad8ffed5be76d24d5d40595fd5c4056998726f", func := "loop.example/cerberus/laws.FnExactServHear", spec := "fnExactServHear", unfollowed := true, recurses := true, named := ["loop.example/cerberus/impl.msgForms"], apart := false, laid := [("loop.example/cerberus/impl.msgForms", laid_loop_example_cerberus_impl_msgForms)] }
def FnExactServHearSaid : Prop := fnExactServHearRow.holds Tryd.pinned (OpenSpec.ofChange fnExactServHearSpec)

/-- ITS FALSE NEIGHBOUR: 'it returns false'. Refute it at one input. -/
def fnExactServHearWrong : ChangeSpec := { name := "fnExactServHear", vars := ["loop.example/cerberus/impl.msgForms"], fn := fun _ => fun
  | [d1, d2, d3, g1] => { results := [.lit (.bool false)], args := [d1, d2, d3], vars := [g1] }
  | _ => none }
def FnExactServHearWrongFalsely : Prop := fnExactServHearRow.holds Tryd.pinned (OpenSpec.ofChange fnExactServHearWrong)

/- THE SECOND FORM. 'bulk': how many values and letters a reading holds, each counted each time it is reached (what is shared counts as often as it is met; a slice's spare places count too). A statement '..UptoSaid' is the law's where the arguments, and the package variables that the reading takes, are together of bulk at most 1048576: NARROWER than '..Said'. Prove '..Said' where nothing that the law and all that it calls make is longer than what came in: it says more and counts as full. Else prove '..UptoSaid'. A law counts once. -/
mutual
def uptoBulk {H : Type} : DataW H → Nat
  | .lit (.string bytes) => bytes.length + 1
  | .lit _ => 1
  | .nil => 1
  | .ptr d => uptoBulk d + 1
  | .slice elems spare => uptoBulkAll elems + uptoBulkAll spare + 1
  | .agg parts => uptoBulkAll parts + 1
  | .iface _ d => uptoBulk d + 1
  | .map entries => uptoBulkEntries entries + 1
  | .held _ => 1
def uptoBulkAll {H : Type} : List (DataW H) → Nat
  | [] => 0
  | d :: r => uptoBulk d + uptoBulkAll r
def uptoBulkEntries {H : Type} : List (Lit × DataW H) → Nat
  | [] => 0
  | x :: r => uptoBulkEntry x + uptoBulkEntries r
def uptoBulkEntry {H : Type} : Lit × DataW H → Nat
  | (.string bytes, d) => bytes.length + uptoBulk d + 1
  | (_, d) => uptoBulk d + 1
 end
def uptoSmall : (H : Type) → List (DataW H) → Bool := fun _ ds => decide (uptoBulkAll ds ≤ 1048576)
def OpenSpec.upto (s : _root_.Go.ChangeSpec) : _root_.Go.OpenSpec := { _root_.Go.OpenSpec.ofChange s with cond := some uptoSmall }

/-- 'laws.FnExactKdcTgs', WHERE WHAT IT READS IS OF BULK AT MOST 1048576: true; the input reads as it did. -/
def fnExactKdcTgsUptoRow : OpenClaim := { program := "ytghajmfjekfdpaadoor", sum := "efb7cc62eeb01d493ee18555afad8ffed5be76d24d5d40595fd5c4056998726f", func := "loop.example/cerberus/laws.FnExactKdcTgs", spec := "fnExactKdcTgs", unfollowed := true, recurses := true, named := ["loop.example/cerberus/impl.msgForms"], apart := false, laid := [("loop.example/cerberus/impl.msgForms", laid_loop_example_cerberus_impl_msgForms)], narrowed := true }
def FnExactKdcTgsUptoSaid : Prop := fnExactKdcTgsUptoRow.holds Tryd.pinned (OpenSpec.upto fnExactKdcTgsSpec)

/-- 'laws.FnExactServHear', WHERE WHAT IT READS IS OF BULK AT MOST 1048576: true; the input reads as it did. -/
def fnExactServHearUptoRow : OpenClaim := { program := "ytghajmfjekfdpaadoor", sum := "efb7cc62eeb01d493ee18555afad8ffed5be76d24d5d40595fd5c4056998726f", func := "loop.example/cerberus/laws.FnExactServHear", spec := "fnExactServHear", unfollowed := true, recurses := true, named := ["loop.example/cerberus/impl.msgForms"], apart := false, laid := [("loop.example/cerberus/impl.msgForms", laid_loop_example_cerberus_impl_msgForms)], narrowed := true }
def FnExactServHearUptoSaid : Prop := fnExactServHearUptoRow.holds Tryd.pinned (OpenSpec.upto fnExactServHearSpec)

end Rows
end Go.Proofs.YtghajmfjekfdpaaDoor
