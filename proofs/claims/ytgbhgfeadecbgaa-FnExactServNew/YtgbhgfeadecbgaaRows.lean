/-
  No cell of these rows narrows 'for every input' (looked for: loops, veiled, ifaces, maps, wideKeys, modest, calm, conditions, laid).
  DERIVED. THE GIVEN ROWS OF THIS SEAT. 3 by the template 'for every input the law returns true; each argument reads behind the call as it read before'; 0 by the template 'total and deterministic' (their statements: YtgbhgfeadecbgaaTotals.lean).
  GIVEN WITH THE SEED: the statements are not yours to turn. If you find one false, say at which input.
  Laid BY PROGRAM, IN A SANDBOX (cutbox-rows.mjs): the forced cells as the released guide's own fill.sh prints them over the translation c3f0857a608bd368… (all of the seat's roots in one cut). By AI agents, Wed Nov 11 2026. No macro, syntax, notation, axiom, sorry.
-/
import Derived.Test.YtgbhgfeadecbgaaChecked
import GoSem.Claim
import GoSem.ClaimJoined
import GoSem.ClaimMapViews
import Derived.JoinedTies
import Derived.KernelRfl
namespace Go.Proofs.Ytgbhgfeadecbgaa
/- THE CELL 'sum', in the pinned program and in every row, IS THE sha256 OF THE DUMP (.gsa) THAT YtgbhgfeadecbgaaProg.lean LOADS. Nothing in Lean hashes anything: it is a label: what it is worth is what the hold of that sum in a sandbox is worth. -/
noncomputable def Try.pinned : Pinned := { name := "ytgbhgfeadecbgaa", sum := "c3f0857a608bd3689fd96f9f5dd57a66b0e0a7515b923282aca5aa547c780774", checked := Try.checked }
namespace Rows
def none {H : Type} : Left H := { results := [], args := [] }

/-- 'laws.FnExactServNew': WHATEVER THE INPUT: true; the input reads as it did. -/
def fnExactServNewSpec : ChangeSpec := { name := "fnExactServNew", fn := fun _ => fun
  | [d] => { results := [.lit (.bool true)], args := [d] }
  | _ => none }
def fnExactServNewRow : OpenClaim := { program := "ytgbhgfeadecbgaa", sum := "c3f0857a608bd3689fd96f9f5dd57a66b0e0a7515b923282aca5aa547c780774", func := "loop.example/cerberus/laws.FnExactServNew", spec := "fnExactServNew", apart := false }
def FnExactServNewSaid : Prop := fnExactServNewRow.holds Try.pinned (OpenSpec.ofChange fnExactServNewSpec)

/-- ITS FALSE NEIGHBOUR: 'it returns false'. Refute it at one input. -/
def fnExactServNewWrong : ChangeSpec := { name := "fnExactServNew", fn := fun _ => fun
  | [d] => { results := [.lit (.bool false)], args := [d] }
  | _ => none }
def FnExactServNewWrongFalsely : Prop := fnExactServNewRow.holds Try.pinned (OpenSpec.ofChange fnExactServNewWrong)

/-- 'laws.FnExactServOk': WHATEVER THE INPUT: true; the input reads as it did. -/
def fnExactServOkSpec : ChangeSpec := { name := "fnExactServOk", fn := fun _ => fun
  | [d] => { results := [.lit (.bool true)], args := [d] }
  | _ => none }
def fnExactServOkRow : OpenClaim := { program := "ytgbhgfeadecbgaa", sum := "c3f0857a608bd3689fd96f9f5dd57a66b0e0a7515b923282aca5aa547c780774", func := "loop.example/cerberus/laws.FnExactServOk", spec := "fnExactServOk", unfollowed := true, recurses := true, apart := false }
def FnExactServOkSaid : Prop := fnExactServOkRow.holds Try.pinned (OpenSpec.ofChange fnExactServOkSpec)

/-- ITS FALSE NEIGHBOUR: 'it returns false'. Refute it at one input. -/
def fnExactServOkWrong : ChangeSpec := { name := "fnExactServOk", fn := fun _ => fun
  | [d] => { results := [.lit (.bool false)], args := [d] }
  | _ => none }
def FnExactServOkWrongFalsely : Prop := fnExactServOkRow.holds Try.pinned (OpenSpec.ofChange fnExactServOkWrong)

/-- 'laws.FnExactServFall': WHATEVER THE INPUT: true; the input reads as it did. -/
def fnExactServFallSpec : ChangeSpec := { name := "fnExactServFall", fn := fun _ => fun
  | [d1, d2] => { results := [.lit (.bool true)], args := [d1, d2] }
  | _ => none }
def fnExactServFallRow : OpenClaim := { program := "ytgbhgfeadecbgaa", sum := "c3f0857a608bd3689fd96f9f5dd57a66b0e0a7515b923282aca5aa547c780774", func := "loop.example/cerberus/laws.FnExactServFall", spec := "fnExactServFall", unfollowed := true, recurses := true, apart := false }
def FnExactServFallSaid : Prop := fnExactServFallRow.holds Try.pinned (OpenSpec.ofChange fnExactServFallSpec)

/-- ITS FALSE NEIGHBOUR: 'it returns false'. Refute it at one input. -/
def fnExactServFallWrong : ChangeSpec := { name := "fnExactServFall", fn := fun _ => fun
  | [d1, d2] => { results := [.lit (.bool false)], args := [d1, d2] }
  | _ => none }
def FnExactServFallWrongFalsely : Prop := fnExactServFallRow.holds Try.pinned (OpenSpec.ofChange fnExactServFallWrong)

/- THE SECOND FORM. 'bulk': how many values and letters a reading holds, each counted each time it is reached (what is shared counts as often as it is met; a slice's spare places count too). A statement '..UptoSaid' is the law's where the arguments, and the package variables that the reading takes, are together of bulk at most 1048576: NARROWER than '..Said'. Prove '..Said' where nothing that the law and all that it calls make is longer than what came in: it says more and counts as full. Else prove '..UptoSaid'. A law counts once. -/
mutual
def uptoBulk {H : Type} : DataW H → Nat
  | .lit (.string bytes) => bytes.length + 1
  | .lit _ => 1
  | .nil => 1
  | .ptr d => uptoBulk d + 1
  | .slice elems spare => uptoBulkAll elems + uptoBulkAll spare + 1
  | .agg parts => uptoBulkAll parts + 1
  | .iface _ d => uptoBulk d + 1
  | .map entries => uptoBulkEntries entries + 1
  | .held _ => 1
def uptoBulkAll {H : Type} : List (DataW H) → Nat
  | [] => 0
  | d :: r => uptoBulk d + uptoBulkAll r
def uptoBulkEntries {H : Type} : List (Lit × DataW H) → Nat
  | [] => 0
  | x :: r => uptoBulkEntry x + uptoBulkEntries r
def uptoBulkEntry {H : Type} : Lit × DataW H → Nat
  | (.string bytes, d) => bytes.length + uptoBulk d + 1
  | (_, d) => uptoBulk d + 1
 end
def uptoSmall : (H : Type) → List (DataW H) → Bool := fun _ ds => decide (uptoBulkAll ds ≤ 1048576)
def OpenSpec.upto (s : _root_.Go.ChangeSpec) : _root_.Go.OpenSpec := { _root_.Go.OpenSpec.ofChange s with cond := some uptoSmall }

/-- 'laws.FnExactServNew', WHERE WHAT IT READS IS OF BULK AT MOST 1048576: true; the input reads as it did. -/
def fnExactServNewUptoRow : OpenClaim := { program := "ytgbhgfeadecbgaa", sum := "c3f0857a608bd3689fd96f9f5dd57a66b0e0a7515b923282aca5aa547c780774", func := "loop.example/cerberus/laws.FnExactServNew", spec := "fnExactServNew", apart := false, narrowed := true }
def FnExactServNewUptoSaid : Prop := fnExactServNewUptoRow.holds Try.pinned (OpenSpec.upto fnExactServNewSpec)

/-- 'laws.FnExactServOk', WHERE WHAT IT READS IS OF BULK AT MOST 1048576: true; the input reads as it did. -/
def fnExactServOkUptoRow : OpenClaim := { program := "ytgbhgfeadecbgaa", sum := "c3f0857a608bd3689fd96f9f5dd57a66b0e0a7515b923282aca5aa547c780774", func := "loop.example/cerberus/laws.FnExactServOk", spec := "fnExactServOk", unfollowed := true, recurses := true, apart := false, narrowed := true }
def FnExactServOkUptoSaid : Prop := fnExactServOkUptoRow.holds Try.pinned (OpenSpec.upto fnExactServOkSpec)

/-- 'laws.FnExactServFall', WHERE WHAT IT READS IS OF BULK AT MOST 1048576: true; the input reads as it did. -/
def fnExactServFallUptoRow : OpenClaim := { program := "ytgbhgfeadecbgaa", sum := "c3f0857a608bd3689fd96f9f5dd57a66b0e0a7515b923282aca5aa547c780774", func := "loop.example/cerberus/laws.FnExactServFall", spec := "fnExactServFall", unfollowed := true, recurses := true, apart := false, narrowed := true }
def FnExactServFallUptoSaid : Prop := fnExactServFallUptoRow.holds Try.pinned (OpenSpec.upto fnExactServFallSpec)

end Rows
end Go.Proofs.Ytgbhgfeadecbgaa
