/-
  No cell of these rows narrows 'for every input' (looked for: loops, veiled, ifaces, maps, wideKeys, modest, calm, conditions, laid).
  DERIVED. THE GIVEN ROWS OF THIS SEAT. 5 by the template 'for every input the law returns true; each argument reads behind the call as it read before'; 0 by the template 'total and deterministic' (their statements: YtadjphljohdieaaTotals.lean).
  GIVEN WITH THE SEED: the statements are not yours to turn. If you find one false, say at which input.
  Laid BY PROGRAM, IN A SANDBOX (cutbox-rows.mjs): the forced cells as the released guide's own fill.sh prints them over the translation 48f3bcded6606502… (all of the seat's roots in one cut). By AI agents, Wed Nov 11 2026. No macro, syntax, notation, axiom, sorry.
-/
import Derived.Test.YtadjphljohdieaaChecked
import GoSem.Claim
import GoSem.ClaimJoined
import GoSem.ClaimMapViews
import Derived.JoinedTies
import Derived.KernelRfl
namespace Go.Proofs.Ytadjphljohdieaa
/- THE CELL 'sum', in the pinned program and in every row, IS THE sha256 OF THE DUMP (.gsa) THAT YtadjphljohdieaaProg.lean LOADS. Nothing in Lean hashes anything: it is a label: what it is worth is what the hold of that sum in a sandbox is worth. -/
noncomputable def Try.pinned : Pinned := { name := "ytadjphljohdieaa", sum := "48f3bcded6606502a467f8a3dca8f5b28610b1e137cba62c6128307d7d7c0c86", checked := Try.checked }
namespace Rows
def none {H : Type} : Left H := { results := [], args := [] }

/-- 'laws.FnExactKnowRead': WHATEVER THE INPUT: true; the input reads as it did. -/
def fnExactKnowReadSpec : ChangeSpec := { name := "fnExactKnowRead", fn := fun _ => fun
  | [d1, d2] => { results := [.lit (.bool true)], args := [d1, d2] }
  | _ => none }
def fnExactKnowReadRow : OpenClaim := { program := "ytadjphljohdieaa", sum := "48f3bcded6606502a467f8a3dca8f5b28610b1e137cba62c6128307d7d7c0c86", func := "loop.example/cerberus/laws.FnExactKnowRead", spec := "fnExactKnowRead", unfollowed := true, recurses := true, apart := false }
def FnExactKnowReadSaid : Prop := fnExactKnowReadRow.holds Try.pinned (OpenSpec.ofChange fnExactKnowReadSpec)

/-- ITS FALSE NEIGHBOUR: 'it returns false'. Refute it at one input. -/
def fnExactKnowReadWrong : ChangeSpec := { name := "fnExactKnowRead", fn := fun _ => fun
  | [d1, d2] => { results := [.lit (.bool false)], args := [d1, d2] }
  | _ => none }
def FnExactKnowReadWrongFalsely : Prop := fnExactKnowReadRow.holds Try.pinned (OpenSpec.ofChange fnExactKnowReadWrong)

/-- 'laws.FnKnowStep': WHATEVER THE INPUT: true; the input reads as it did. -/
def fnKnowStepSpec : ChangeSpec := { name := "fnKnowStep", fn := fun _ => fun
  | [d1, d2] => { results := [.lit (.bool true)], args := [d1, d2] }
  | _ => none }
def fnKnowStepRow : OpenClaim := { program := "ytadjphljohdieaa", sum := "48f3bcded6606502a467f8a3dca8f5b28610b1e137cba62c6128307d7d7c0c86", func := "loop.example/cerberus/laws.FnKnowStep", spec := "fnKnowStep", unfollowed := true, recurses := true, apart := false }
def FnKnowStepSaid : Prop := fnKnowStepRow.holds Try.pinned (OpenSpec.ofChange fnKnowStepSpec)

/-- ITS FALSE NEIGHBOUR: 'it returns false'. Refute it at one input. -/
def fnKnowStepWrong : ChangeSpec := { name := "fnKnowStep", fn := fun _ => fun
  | [d1, d2] => { results := [.lit (.bool false)], args := [d1, d2] }
  | _ => none }
def FnKnowStepWrongFalsely : Prop := fnKnowStepRow.holds Try.pinned (OpenSpec.ofChange fnKnowStepWrong)

/-- 'laws.FnKnowReads': WHATEVER THE INPUT: true; the input reads as it did. -/
def fnKnowReadsSpec : ChangeSpec := { name := "fnKnowReads", fn := fun _ => fun
  | [d] => { results := [.lit (.bool true)], args := [d] }
  | _ => none }
def fnKnowReadsRow : OpenClaim := { program := "ytadjphljohdieaa", sum := "48f3bcded6606502a467f8a3dca8f5b28610b1e137cba62c6128307d7d7c0c86", func := "loop.example/cerberus/laws.FnKnowReads", spec := "fnKnowReads", unfollowed := true, recurses := true, apart := false }
def FnKnowReadsSaid : Prop := fnKnowReadsRow.holds Try.pinned (OpenSpec.ofChange fnKnowReadsSpec)

/-- ITS FALSE NEIGHBOUR: 'it returns false'. Refute it at one input. -/
def fnKnowReadsWrong : ChangeSpec := { name := "fnKnowReads", fn := fun _ => fun
  | [d] => { results := [.lit (.bool false)], args := [d] }
  | _ => none }
def FnKnowReadsWrongFalsely : Prop := fnKnowReadsRow.holds Try.pinned (OpenSpec.ofChange fnKnowReadsWrong)

/-- 'laws.FnKnowRead': WHATEVER THE INPUT: true; the input reads as it did. -/
def fnKnowReadSpec : ChangeSpec := { name := "fnKnowRead", fn := fun _ => fun
  | [d] => { results := [.lit (.bool true)], args := [d] }
  | _ => none }
def fnKnowReadRow : OpenClaim := { program := "ytadjphljohdieaa", sum := "48f3bcded6606502a467f8a3dca8f5b28610b1e137cba62c6128307d7d7c0c86", func := "loop.example/cerberus/laws.FnKnowRead", spec := "fnKnowRead", unfollowed := true, recurses := true, apart := false }
def FnKnowReadSaid : Prop := fnKnowReadRow.holds Try.pinned (OpenSpec.ofChange fnKnowReadSpec)

/-- ITS FALSE NEIGHBOUR: 'it returns false'. Refute it at one input. -/
def fnKnowReadWrong : ChangeSpec := { name := "fnKnowRead", fn := fun _ => fun
  | [d] => { results := [.lit (.bool false)], args := [d] }
  | _ => none }
def FnKnowReadWrongFalsely : Prop := fnKnowReadRow.holds Try.pinned (OpenSpec.ofChange fnKnowReadWrong)

/-- 'laws.FnKnowAll': WHATEVER THE INPUT: true; the input reads as it did. -/
def fnKnowAllSpec : ChangeSpec := { name := "fnKnowAll", fn := fun _ => fun
  | [d] => { results := [.lit (.bool true)], args := [d] }
  | _ => none }
def fnKnowAllRow : OpenClaim := { program := "ytadjphljohdieaa", sum := "48f3bcded6606502a467f8a3dca8f5b28610b1e137cba62c6128307d7d7c0c86", func := "loop.example/cerberus/laws.FnKnowAll", spec := "fnKnowAll", unfollowed := true, recurses := true, apart := false }
def FnKnowAllSaid : Prop := fnKnowAllRow.holds Try.pinned (OpenSpec.ofChange fnKnowAllSpec)

/-- ITS FALSE NEIGHBOUR: 'it returns false'. Refute it at one input. -/
def fnKnowAllWrong : ChangeSpec := { name := "fnKnowAll", fn := fun _ => fun
  | [d] => { results := [.lit (.bool false)], args := [d] }
  | _ => none }
def FnKnowAllWrongFalsely : Prop := fnKnowAllRow.holds Try.pinned (OpenSpec.ofChange fnKnowAllWrong)

/- THE SECOND FORM. 'bulk': how many values and letters a reading holds, each counted each time it is reached (what is shared counts as often as it is met; a slice's spare places count too). A statement '..UptoSaid' is the law's where the arguments, and the package variables that the reading takes, are together of bulk at most 1048576: NARROWER than '..Said'. Prove '..Said' where nothing that the law and all that it calls make is longer than what came in: it says more and counts as full. Else prove '..UptoSaid'. A law counts once. -/
mutual
def uptoBulk {H : Type} : DataW H → Nat
  | .lit (.string bytes) => bytes.length + 1
  | .lit _ => 1
  | .nil => 1
  | .ptr d => uptoBulk d + 1
  | .slice elems spare => uptoBulkAll elems + uptoBulkAll spare + 1
  | .agg parts => uptoBulkAll parts + 1
  | .iface _ d => uptoBulk d + 1
  | .map entries => uptoBulkEntries entries + 1
  | .held _ => 1
def uptoBulkAll {H : Type} : List (DataW H) → Nat
  | [] => 0
  | d :: r => uptoBulk d + uptoBulkAll r
def uptoBulkEntries {H : Type} : List (Lit × DataW H) → Nat
  | [] => 0
  | x :: r => uptoBulkEntry x + uptoBulkEntries r
def uptoBulkEntry {H : Type} : Lit × DataW H → Nat
  | (.string bytes, d) => bytes.length + uptoBulk d + 1
  | (_, d) => uptoBulk d + 1
 end
def uptoSmall : (H : Type) → List (DataW H) → Bool := fun _ ds => decide (uptoBulkAll ds ≤ 1048576)
def OpenSpec.upto (s : _root_.Go.ChangeSpec) : _root_.Go.OpenSpec := { _root_.Go.OpenSpec.ofChange s with cond := some uptoSmall }

/-- 'laws.FnExactKnowRead', WHERE WHAT IT READS IS OF BULK AT MOST 1048576: true; the input reads as it did. -/
def fnExactKnowReadUptoRow : OpenClaim := { program := "ytadjphljohdieaa", sum := "48f3bcded6606502a467f8a3dca8f5b28610b1e137cba62c6128307d7d7c0c86", func := "loop.example/cerberus/laws.FnExactKnowRead", spec := "fnExactKnowRead", unfollowed := true, recurses := true, apart := false, narrowed := true }
def FnExactKnowReadUptoSaid : Prop := fnExactKnowReadUptoRow.holds Try.pinned (OpenSpec.upto fnExactKnowReadSpec)

/-- 'laws.FnKnowStep', WHERE WHAT IT READS IS OF BULK AT MOST 1048576: true; the input reads as it did. -/
def fnKnowStepUptoRow : OpenClaim := { program := "ytadjphljohdieaa", sum := "48f3bcded6606502a467f8a3dca8f5b28610b1e137cba62c6128307d7d7c0c86", func := "loop.example/cerberus/laws.FnKnowStep", spec := "fnKnowStep", unfollowed := true, recurses := true, apart := false, narrowed := true }
def FnKnowStepUptoSaid : Prop := fnKnowStepUptoRow.holds Try.pinned (OpenSpec.upto fnKnowStepSpec)

/-- 'laws.FnKnowReads', WHERE WHAT IT READS IS OF BULK AT MOST 1048576: true; the input reads as it did. -/
def fnKnowReadsUptoRow : OpenClaim := { program := "ytadjphljohdieaa", sum := "48f3bcded6606502a467f8a3dca8f5b28610b1e137cba62c6128307d7d7c0c86", func := "loop.example/cerberus/laws.FnKnowReads", spec := "fnKnowReads", unfollowed := true, recurses := true, apart := false, narrowed := true }
def FnKnowReadsUptoSaid : Prop := fnKnowReadsUptoRow.holds Try.pinned (OpenSpec.upto fnKnowReadsSpec)

/-- 'laws.FnKnowRead', WHERE WHAT IT READS IS OF BULK AT MOST 1048576: true; the input reads as it did. -/
def fnKnowReadUptoRow : OpenClaim := { program := "ytadjphljohdieaa", sum := "48f3bcded6606502a467f8a3dca8f5b28610b1e137cba62c6128307d7d7c0c86", func := "loop.example/cerberus/laws.FnKnowRead", spec := "fnKnowRead", unfollowed := true, recurses := true, apart := false, narrowed := true }
def FnKnowReadUptoSaid : Prop := fnKnowReadUptoRow.holds Try.pinned (OpenSpec.upto fnKnowReadSpec)

/-- 'laws.FnKnowAll', WHERE WHAT IT READS IS OF BULK AT MOST 1048576: true; the input reads as it did. -/
def fnKnowAllUptoRow : OpenClaim := { program := "ytadjphljohdieaa", sum := "48f3bcded6606502a467f8a3dca8f5b28610b1e137cba62c6128307d7d7c0c86", func := "loop.example/cerberus/laws.FnKnowAll", spec := "fnKnowAll", unfollowed := true, recurses := true, apart := false, narrowed := true }
def FnKnowAllUptoSaid : Prop := fnKnowAllUptoRow.holds Try.pinned (OpenSpec.upto fnKnowAllSpec)

end Rows
end Go.Proofs.Ytadjphljohdieaa
