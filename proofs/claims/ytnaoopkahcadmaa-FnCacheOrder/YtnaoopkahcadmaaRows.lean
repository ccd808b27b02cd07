/-
  No cell of these rows narrows 'for every input' (looked for: loops, veiled, ifaces, maps, wideKeys, modest, calm, conditions, laid).
  DERIVED. THE GIVEN ROWS OF THIS SEAT. 6 by the template 'for every input the law returns true; each argument reads behind the call as it read before'; 0 by the template 'total and deterministic' (their statements: YtnaoopkahcadmaaTotals.lean).
  GIVEN WITH THE SEED: the statements are not yours to turn. If you find one false, say at which input.
  Laid BY PROGRAM, IN A SANDBOX (cutbox-rows.mjs): the forced cells as the released guide's own fill.sh prints them over the translation 2c4df3b52360b9c0… (all of the seat's roots in one cut). By AI agents, Wed Nov 11 2026. No macro, syntax, notation, axiom, sorry.
-/
import Derived.Test.YtnaoopkahcadmaaChecked
import GoSem.Claim
import GoSem.ClaimJoined
import GoSem.ClaimMapViews
import Derived.JoinedTies
import Derived.KernelRfl
namespace Go.Proofs.Ytnaoopkahcadmaa
/- THE CELL 'sum', in the pinned program and in every row, IS THE sha256 OF THE DUMP (.gsa) THAT YtnaoopkahcadmaaProg.lean LOADS. Nothing in Lean hashes anything: it is a label: what it is worth is what the hold of that sum in a sandbox is worth. -/
noncomputable def Try.pinned : Pinned := { name := "ytnaoopkahcadmaa", sum := "2c4df3b52360b9c094f9fb97234743b5115f04c12ec2537825a5d4fcc3faa43d", checked := Try.checked }
namespace Rows
def none {H : Type} : Left H := { results := [], args := [] }

/-- 'laws.FnCacheOnce': WHATEVER THE INPUT: true; the input reads as it did. -/
def fnCacheOnceSpec : ChangeSpec := { name := "fnCacheOnce", fn := fun _ => fun
  | [d1, d2] => { results := [.lit (.bool true)], args := [d1, d2] }
  | _ => none }
def fnCacheOnceRow : OpenClaim := { program := "ytnaoopkahcadmaa", sum := "2c4df3b52360b9c094f9fb97234743b5115f04c12ec2537825a5d4fcc3faa43d", func := "loop.example/cerberus/laws.FnCacheOnce", spec := "fnCacheOnce", unfollowed := true, recurses := true, apart := false }
def FnCacheOnceSaid : Prop := fnCacheOnceRow.holds Try.pinned (OpenSpec.ofChange fnCacheOnceSpec)

/-- ITS FALSE NEIGHBOUR: 'it returns false'. Refute it at one input. -/
def fnCacheOnceWrong : ChangeSpec := { name := "fnCacheOnce", fn := fun _ => fun
  | [d1, d2] => { results := [.lit (.bool false)], args := [d1, d2] }
  | _ => none }
def FnCacheOnceWrongFalsely : Prop := fnCacheOnceRow.holds Try.pinned (OpenSpec.ofChange fnCacheOnceWrong)

/-- 'laws.FnCacheFresh': WHATEVER THE INPUT: true; the input reads as it did. -/
def fnCacheFreshSpec : ChangeSpec := { name := "fnCacheFresh", fn := fun _ => fun
  | [d] => { results := [.lit (.bool true)], args := [d] }
  | _ => none }
def fnCacheFreshRow : OpenClaim := { program := "ytnaoopkahcadmaa", sum := "2c4df3b52360b9c094f9fb97234743b5115f04c12ec2537825a5d4fcc3faa43d", func := "loop.example/cerberus/laws.FnCacheFresh", spec := "fnCacheFresh", unfollowed := true, recurses := true, apart := false }
def FnCacheFreshSaid : Prop := fnCacheFreshRow.holds Try.pinned (OpenSpec.ofChange fnCacheFreshSpec)

/-- ITS FALSE NEIGHBOUR: 'it returns false'. Refute it at one input. -/
def fnCacheFreshWrong : ChangeSpec := { name := "fnCacheFresh", fn := fun _ => fun
  | [d] => { results := [.lit (.bool false)], args := [d] }
  | _ => none }
def FnCacheFreshWrongFalsely : Prop := fnCacheFreshRow.holds Try.pinned (OpenSpec.ofChange fnCacheFreshWrong)

/-- 'laws.FnCacheKeeps': WHATEVER THE INPUT: true; the input reads as it did. -/
def fnCacheKeepsSpec : ChangeSpec := { name := "fnCacheKeeps", fn := fun _ => fun
  | [d] => { results := [.lit (.bool true)], args := [d] }
  | _ => none }
def fnCacheKeepsRow : OpenClaim := { program := "ytnaoopkahcadmaa", sum := "2c4df3b52360b9c094f9fb97234743b5115f04c12ec2537825a5d4fcc3faa43d", func := "loop.example/cerberus/laws.FnCacheKeeps", spec := "fnCacheKeeps", unfollowed := true, recurses := true, apart := false }
def FnCacheKeepsSaid : Prop := fnCacheKeepsRow.holds Try.pinned (OpenSpec.ofChange fnCacheKeepsSpec)

/-- ITS FALSE NEIGHBOUR: 'it returns false'. Refute it at one input. -/
def fnCacheKeepsWrong : ChangeSpec := { name := "fnCacheKeeps", fn := fun _ => fun
  | [d] => { results := [.lit (.bool false)], args := [d] }
  | _ => none }
def FnCacheKeepsWrongFalsely : Prop := fnCacheKeepsRow.holds Try.pinned (OpenSpec.ofChange fnCacheKeepsWrong)

/-- 'laws.FnCacheLater': WHATEVER THE INPUT: true; the input reads as it did. -/
def fnCacheLaterSpec : ChangeSpec := { name := "fnCacheLater", fn := fun _ => fun
  | [d] => { results := [.lit (.bool true)], args := [d] }
  | _ => none }
def fnCacheLaterRow : OpenClaim := { program := "ytnaoopkahcadmaa", sum := "2c4df3b52360b9c094f9fb97234743b5115f04c12ec2537825a5d4fcc3faa43d", func := "loop.example/cerberus/laws.FnCacheLater", spec := "fnCacheLater", unfollowed := true, recurses := true, apart := false }
def FnCacheLaterSaid : Prop := fnCacheLaterRow.holds Try.pinned (OpenSpec.ofChange fnCacheLaterSpec)

/-- ITS FALSE NEIGHBOUR: 'it returns false'. Refute it at one input. -/
def fnCacheLaterWrong : ChangeSpec := { name := "fnCacheLater", fn := fun _ => fun
  | [d] => { results := [.lit (.bool false)], args := [d] }
  | _ => none }
def FnCacheLaterWrongFalsely : Prop := fnCacheLaterRow.holds Try.pinned (OpenSpec.ofChange fnCacheLaterWrong)

/-- 'laws.FnCacheOrder': WHATEVER THE INPUT: true; the input reads as it did. -/
def fnCacheOrderSpec : ChangeSpec := { name := "fnCacheOrder", fn := fun _ => fun
  | [d1, d2] => { results := [.lit (.bool true)], args := [d1, d2] }
  | _ => none }
def fnCacheOrderRow : OpenClaim := { program := "ytnaoopkahcadmaa", sum := "2c4df3b52360b9c094f9fb97234743b5115f04c12ec2537825a5d4fcc3faa43d", func := "loop.example/cerberus/laws.FnCacheOrder", spec := "fnCacheOrder", unfollowed := true, recurses := true, apart := false }
def FnCacheOrderSaid : Prop := fnCacheOrderRow.holds Try.pinned (OpenSpec.ofChange fnCacheOrderSpec)

/-- ITS FALSE NEIGHBOUR: 'it returns false'. Refute it at one input. -/
def fnCacheOrderWrong : ChangeSpec := { name := "fnCacheOrder", fn := fun _ => fun
  | [d1, d2] => { results := [.lit (.bool false)], args := [d1, d2] }
  | _ => none }
def FnCacheOrderWrongFalsely : Prop := fnCacheOrderRow.holds Try.pinned (OpenSpec.ofChange fnCacheOrderWrong)

/-- 'laws.FnCacheFull': WHATEVER THE INPUT: true; the input reads as it did. -/
def fnCacheFullSpec : ChangeSpec := { name := "fnCacheFull", fn := fun _ => fun
  | [d] => { results := [.lit (.bool true)], args := [d] }
  | _ => none }
def fnCacheFullRow : OpenClaim := { program := "ytnaoopkahcadmaa", sum := "2c4df3b52360b9c094f9fb97234743b5115f04c12ec2537825a5d4fcc3faa43d", func := "loop.example/cerberus/laws.FnCacheFull", spec := "fnCacheFull", unfollowed := true, recurses := true, apart := false }
def FnCacheFullSaid : Prop := fnCacheFullRow.holds Try.pinned (OpenSpec.ofChange fnCacheFullSpec)

/-- ITS FALSE NEIGHBOUR: 'it returns false'. Refute it at one input. -/
def fnCacheFullWrong : ChangeSpec := { name := "fnCacheFull", fn := fun _ => fun
  | [d] => { results := [.lit (.bool false)], args := [d] }
  | _ => none }
def FnCacheFullWrongFalsely : Prop := fnCacheFullRow.holds Try.pinned (OpenSpec.ofChange fnCacheFullWrong)

/- THE SECOND FORM. 'bulk': how many values and letters a reading holds, each counted each time it is reached (what is shared counts as often as it is met; a slice's spare places count too). A statement '..UptoSaid' is the law's where the arguments, and the package variables that the reading takes, are together of bulk at most 1048576: NARROWER than '..Said'. Prove '..Said' where nothing that the law and all that it calls make is longer than what came in: it says more and counts as full. Else prove '..UptoSaid'. A law counts once. -/
mutual
def uptoBulk {H : Type} : DataW H → Nat
  | .lit (.string bytes) => bytes.length + 1
  | .lit _ => 1
  | .nil => 1
  | .ptr d => uptoBulk d + 1
  | .slice elems spare => uptoBulkAll elems + uptoBulkAll spare + 1
  | .agg parts => uptoBulkAll parts + 1
  | .iface _ d => uptoBulk d + 1
  | .map entries => uptoBulkEntries entries + 1
  | .held _ => 1
def uptoBulkAll {H : Type} : List (DataW H) → Nat
  | [] => 0
  | d :: r => uptoBulk d + uptoBulkAll r
def uptoBulkEntries {H : Type} : List (Lit × DataW H) → Nat
  | [] => 0
  | x :: r => uptoBulkEntry x + uptoBulkEntries r
def uptoBulkEntry {H : Type} : Lit × DataW H → Nat
  | (.string bytes, d) => bytes.length + uptoBulk d + 1
  | (_, d) => uptoBulk d + 1
 end
def uptoSmall : (H : Type) → List (DataW H) → Bool := fun _ ds => decide (uptoBulkAll ds ≤ 1048576)
def OpenSpec.upto (s : _root_.Go.ChangeSpec) : _root_.Go.OpenSpec := { _root_.Go.OpenSpec.ofChange s with cond := some uptoSmall }

/-- 'laws.FnCacheOnce', WHERE WHAT IT READS IS OF BULK AT MOST 1048576: true; the input reads as it did. -/
def fnCacheOnceUptoRow : OpenClaim := { program := "ytnaoopkahcadmaa", sum := "2c4df3b52360b9c094f9fb97234743b5115f04c12ec2537825a5d4fcc3faa43d", func := "loop.example/cerberus/laws.FnCacheOnce", spec := "fnCacheOnce", unfollowed := true, recurses := true, apart := false, narrowed := true }
def FnCacheOnceUptoSaid : Prop := fnCacheOnceUptoRow.holds Try.pinned (OpenSpec.upto fnCacheOnceSpec)

/-- 'laws.FnCacheFresh', WHERE WHAT IT READS IS OF BULK AT MOST 1048576: true; the input reads as it did. -/
def fnCacheFreshUptoRow : OpenClaim := { program := "ytnaoopkahcadmaa", sum := "2c4df3b52360b9c094f9fb97234743b5115f04c12ec2537825a5d4fcc3faa43d", func := "loop.example/cerberus/laws.FnCacheFresh", spec := "fnCacheFresh", unfollowed := true, recurses := true, apart := false, narrowed := true }
def FnCacheFreshUptoSaid : Prop := fnCacheFreshUptoRow.holds Try.pinned (OpenSpec.upto fnCacheFreshSpec)

/-- 'laws.FnCacheKeeps', WHERE WHAT IT READS IS OF BULK AT MOST 1048576: true; the input reads as it did. -/
def fnCacheKeepsUptoRow : OpenClaim := { program := "ytnaoopkahcadmaa", sum := "2c4df3b52360b9c094f9fb97234743b5115f04c12ec2537825a5d4fcc3faa43d", func := "loop.example/cerberus/laws.FnCacheKeeps", spec := "fnCacheKeeps", unfollowed := true, recurses := true, apart := false, narrowed := true }
def FnCacheKeepsUptoSaid : Prop := fnCacheKeepsUptoRow.holds Try.pinned (OpenSpec.upto fnCacheKeepsSpec)

/-- 'laws.FnCacheLater', WHERE WHAT IT READS IS OF BULK AT MOST 1048576: true; the input reads as it did. -/
def fnCacheLaterUptoRow : OpenClaim := { program := "ytnaoopkahcadmaa", sum := "2c4df3b52360b9c094f9fb97234743b5115f04c12ec2537825a5d4fcc3faa43d", func := "loop.example/cerberus/laws.FnCacheLater", spec := "fnCacheLater", unfollowed := true, recurses := true, apart := false, narrowed := true }
def FnCacheLaterUptoSaid : Prop := fnCacheLaterUptoRow.holds Try.pinned (OpenSpec.upto fnCacheLaterSpec)

/-- 'laws.FnCacheOrder', WHERE WHAT IT READS IS OF BULK AT MOST 1048576: true; the input reads as it did. -/
def fnCacheOrderUptoRow : OpenClaim := { program := "ytnaoopkahcadmaa", sum := "2c4df3b52360b9c094f9fb97234743b5115f04c12ec2537825a5d4fcc3faa43d", func := "loop.example/cerberus/laws.FnCacheOrder", spec := "fnCacheOrder", unfollowed := true, recurses := true, apart := false, narrowed := true }
def FnCacheOrderUptoSaid : Prop := fnCacheOrderUptoRow.holds Try.pinned (OpenSpec.upto fnCacheOrderSpec)

/-- 'laws.FnCacheFull', WHERE WHAT IT READS IS OF BULK AT MOST 1048576: true; the input reads as it did. -/
def fnCacheFullUptoRow : OpenClaim := { program := "ytnaoopkahcadmaa", sum := "2c4df3b52360b9c094f9fb97234743b5115f04c12ec2537825a5d4fcc3faa43d", func := "loop.example/cerberus/laws.FnCacheFull", spec := "fnCacheFull", unfollowed := true, recurses := true, apart := false, narrowed := true }
def FnCacheFullUptoSaid : Prop := fnCacheFullUptoRow.holds Try.pinned (OpenSpec.upto fnCacheFullSpec)

end Rows
end Go.Proofs.Ytnaoopkahcadmaa
