/-
  No cell of these rows narrows 'for every input' (looked for: loops, veiled, ifaces, maps, wideKeys, modest, calm, conditions, laid).
  DERIVED. THE GIVEN ROWS OF THIS SEAT. 3 by the template 'for every input the law returns true; each argument reads behind the call as it read before'; 0 by the template 'total and deterministic' (their statements: YtdkkaipejpphmaaTotals.lean).
  GIVEN WITH THE SEED: the statements are not yours to turn. If you find one false, say at which input.
  Laid BY PROGRAM, IN A SANDBOX (cutbox-rows.mjs): the forced cells as the released guide's own fill.sh prints them over the translation 9ce482d3c9935d0d… (all of the seat's roots in one cut). By AI agents, Wed Nov 11 2026. No macro, syntax, notation, axiom, sorry.
-/
import Derived.Test.YtdkkaipejpphmaaChecked
import GoSem.Claim
import GoSem.ClaimJoined
import GoSem.ClaimMapViews
import Derived.JoinedTies
import Derived.KernelRfl
namespace Go.Proofs.Ytdkkaipejpphmaa
/- THE CELL 'sum', in the pinned program and in every row, IS THE sha256 OF THE DUMP (.gsa) THAT YtdkkaipejpphmaaProg.lean LOADS. Nothing in Lean hashes anything: it is a label: what it is worth is what the hold of that sum in a sandbox is worth. -/
noncomputable def Try.pinned : Pinned := { name := "ytdkkaipejpphmaa", sum := "9ce482d3c9935d0dc881cd4506dcabfbb160579de2466487083aaaa852626409", checked := Try.checked }
namespace Rows
def none {H : Type} : Left H := { results := [], args := [] }

/-- 'laws.FnSealForm': WHATEVER THE INPUT: true; the input reads as it did. -/
def fnSealFormSpec : ChangeSpec := { name := "fnSealForm", fn := fun _ => fun
  | [d] => { results := [.lit (.bool true)], args := [d] }
  | _ => none }
def fnSealFormRow : OpenClaim := { program := "ytdkkaipejpphmaa", sum := "9ce482d3c9935d0dc881cd4506dcabfbb160579de2466487083aaaa852626409", func := "loop.example/cerberus/laws.FnSealForm", spec := "fnSealForm", unfollowed := true, recurses := true, apart := false }
def FnSealFormSaid : Prop := fnSealFormRow.holds Try.pinned (OpenSpec.ofChange fnSealFormSpec)

/-- ITS FALSE NEIGHBOUR: 'it returns false'. Refute it at one input. -/
def fnSealFormWrong : ChangeSpec := { name := "fnSealForm", fn := fun _ => fun
  | [d] => { results := [.lit (.bool false)], args := [d] }
  | _ => none }
def FnSealFormWrongFalsely : Prop := fnSealFormRow.holds Try.pinned (OpenSpec.ofChange fnSealFormWrong)

/-- 'laws.FnSealHolds': WHATEVER THE INPUT: true; the input reads as it did. -/
def fnSealHoldsSpec : ChangeSpec := { name := "fnSealHolds", fn := fun _ => fun
  | [d] => { results := [.lit (.bool true)], args := [d] }
  | _ => none }
def fnSealHoldsRow : OpenClaim := { program := "ytdkkaipejpphmaa", sum := "9ce482d3c9935d0dc881cd4506dcabfbb160579de2466487083aaaa852626409", func := "loop.example/cerberus/laws.FnSealHolds", spec := "fnSealHolds", unfollowed := true, recurses := true, apart := false }
def FnSealHoldsSaid : Prop := fnSealHoldsRow.holds Try.pinned (OpenSpec.ofChange fnSealHoldsSpec)

/-- ITS FALSE NEIGHBOUR: 'it returns false'. Refute it at one input. -/
def fnSealHoldsWrong : ChangeSpec := { name := "fnSealHolds", fn := fun _ => fun
  | [d] => { results := [.lit (.bool false)], args := [d] }
  | _ => none }
def FnSealHoldsWrongFalsely : Prop := fnSealHoldsRow.holds Try.pinned (OpenSpec.ofChange fnSealHoldsWrong)

/-- 'laws.FnSealKey': WHATEVER THE INPUT: true; the input reads as it did. -/
def fnSealKeySpec : ChangeSpec := { name := "fnSealKey", fn := fun _ => fun
  | [d1, d2] => { results := [.lit (.bool true)], args := [d1, d2] }
  | _ => none }
def fnSealKeyRow : OpenClaim := { program := "ytdkkaipejpphmaa", sum := "9ce482d3c9935d0dc881cd4506dcabfbb160579de2466487083aaaa852626409", func := "loop.example/cerberus/laws.FnSealKey", spec := "fnSealKey", unfollowed := true, recurses := true, apart := false }
def FnSealKeySaid : Prop := fnSealKeyRow.holds Try.pinned (OpenSpec.ofChange fnSealKeySpec)

/-- ITS FALSE NEIGHBOUR: 'it returns false'. Refute it at one input. -/
def fnSealKeyWrong : ChangeSpec := { name := "fnSealKey", fn := fun _ => fun
  | [d1, d2] => { results := [.lit (.bool false)], args := [d1, d2] }
  | _ => none }
def FnSealKeyWrongFalsely : Prop := fnSealKeyRow.holds Try.pinned (OpenSpec.ofChange fnSealKeyWrong)

/- THE SECOND FORM. 'bulk': how many values and letters a reading holds, each counted each time it is reached (what is shared counts as often as it is met; a slice's spare places count too). A statement '..UptoSaid' is the law's where the arguments, and the package variables that the reading takes, are together of bulk at most 1048576: NARROWER than '..Said'. Prove '..Said' where nothing that the law and all that it calls make is longer than what came in: it says more and counts as full. Else prove '..UptoSaid'. A law counts once. -/
mutual
def uptoBulk {H : Type} : DataW H → Nat
  | .lit (.string bytes) => bytes.length + 1
  | .lit _ => 1
  | .nil => 1
  | .ptr d => uptoBulk d + 1
  | .slice elems spare => uptoBulkAll elems + uptoBulkAll spare + 1
  | .agg parts => uptoBulkAll parts + 1
  | .iface _ d => uptoBulk d + 1
  | .map entries => uptoBulkEntries entries + 1
  | .held _ => 1
def uptoBulkAll {H : Type} : List (DataW H) → Nat
  | [] => 0
  | d :: r => uptoBulk d + uptoBulkAll r
def uptoBulkEntries {H : Type} : List (Lit × DataW H) → Nat
  | [] => 0
  | x :: r => uptoBulkEntry x + uptoBulkEntries r
def uptoBulkEntry {H : Type} : Lit × DataW H → Nat
  | (.string bytes, d) => bytes.length + uptoBulk d + 1
  | (_, d) => uptoBulk d + 1
 end
def uptoSmall : (H : Type) → List (DataW H) → Bool := fun _ ds => decide (uptoBulkAll ds ≤ 1048576)
def OpenSpec.upto (s : _root_.Go.ChangeSpec) : _root_.Go.OpenSpec := { _root_.Go.OpenSpec.ofChange s with cond := some uptoSmall }

/-- 'laws.FnSealForm', WHERE WHAT IT READS IS OF BULK AT MOST 1048576: true; the input reads as it did. -/
def fnSealFormUptoRow : OpenClaim := { program := "ytdkkaipejpphmaa", sum := "9ce482d3c9935d0dc881cd4506dcabfbb160579de2466487083aaaa852626409", func := "loop.example/cerberus/laws.FnSealForm", spec := "fnSealForm", unfollowed := true, recurses := true, apart := false, narrowed := true }
def FnSealFormUptoSaid : Prop := fnSealFormUptoRow.holds Try.pinned (OpenSpec.upto fnSealFormSpec)

/-- 'laws.FnSealHolds', WHERE WHAT IT READS IS OF BULK AT MOST 1048576: true; the input reads as it did. -/
def fnSealHoldsUptoRow : OpenClaim := { program := "ytdkkaipejpphmaa", sum := "9ce482d3c9935d0dc881cd4506dcabfbb160579de2466487083aaaa852626409", func := "loop.example/cerberus/laws.FnSealHolds", spec := "fnSealHolds", unfollowed := true, recurses := true, apart := false, narrowed := true }
def FnSealHoldsUptoSaid : Prop := fnSealHoldsUptoRow.holds Try.pinned (OpenSpec.upto fnSealHoldsSpec)

/-- 'laws.FnSealKey', WHERE WHAT IT READS IS OF BULK AT MOST 1048576: true; the input reads as it did. -/
def fnSealKeyUptoRow : OpenClaim := { program := "ytdkkaipejpphmaa", sum := "9ce482d3c9935d0dc881cd4506dcabfbb160579de2466487083aaaa852626409", func := "loop.example/cerberus/laws.FnSealKey", spec := "fnSealKey", unfollowed := true, recurses := true, apart := false, narrowed := true }
def FnSealKeyUptoSaid : Prop := fnSealKeyUptoRow.holds Try.pinned (OpenSpec.upto fnSealKeySpec)

end Rows
end Go.Proofs.Ytdkkaipejpphmaa
