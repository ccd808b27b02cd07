/-
  No cell of these rows narrows 'for every input' (looked for: loops, veiled, ifaces, maps, wideKeys, modest, calm, conditions, laid).
  DERIVED. THE GIVEN ROWS OF THIS SEAT. 4 by the template 'for every input the law returns true; each argument reads behind the call as it read before'; 0 by the template 'total and deterministic' (their statements: YthgglnjjbpjonaaTotals.lean).
  GIVEN WITH THE SEED: the statements are not yours to turn. If you find one false, say at which input.
  Laid BY PROGRAM, IN A SANDBOX (cutbox-rows.mjs): the forced cells as the released guide's own fill.sh prints them over the translation 84685e2b55a587cc… (all of the seat's roots in one cut). By AI agents, Wed Nov 11 2026. No macro, syntax, notation, axiom, sorry.
-/
import Derived.Test.YthgglnjjbpjonaaChecked
import GoSem.Claim
import GoSem.ClaimJoined
import GoSem.ClaimMapViews
import Derived.JoinedTies
import Derived.KernelRfl
namespace Go.Proofs.Ythgglnjjbpjonaa
/- THE CELL 'sum', in the pinned program and in every row, IS THE sha256 OF THE DUMP (.gsa) THAT YthgglnjjbpjonaaProg.lean LOADS. Nothing in Lean hashes anything: it is a label: what it is worth is what the hold of that sum in a sandbox is worth. -/
noncomputable def Try.pinned : Pinned := { name := "ythgglnjjbpjonaa", sum := "84685e2b55a587ccf5e7ec72e2142aa3b6e58e2edf26e857c0b3cf76f023f611", checked := Try.checked }
namespace Rows
def none {H : Type} : Left H := { results := [], args := [] }

/-- 'laws.FnExactKnowKeys': WHATEVER THE INPUT: true; the input reads as it did. -/
def fnExactKnowKeysSpec : ChangeSpec := { name := "fnExactKnowKeys", fn := fun _ => fun
  | [d1, d2] => { results := [.lit (.bool true)], args := [d1, d2] }
  | _ => none }
def fnExactKnowKeysRow : OpenClaim := { program := "ythgglnjjbpjonaa", sum := "84685e2b55a587ccf5e7ec72e2142aa3b6e58e2edf26e857c0b3cf76f023f611", func := "loop.example/cerberus/laws.FnExactKnowKeys", spec := "fnExactKnowKeys", unfollowed := true, recurses := true, apart := false }
def FnExactKnowKeysSaid : Prop := fnExactKnowKeysRow.holds Try.pinned (OpenSpec.ofChange fnExactKnowKeysSpec)

/-- ITS FALSE NEIGHBOUR: 'it returns false'. Refute it at one input. -/
def fnExactKnowKeysWrong : ChangeSpec := { name := "fnExactKnowKeys", fn := fun _ => fun
  | [d1, d2] => { results := [.lit (.bool false)], args := [d1, d2] }
  | _ => none }
def FnExactKnowKeysWrongFalsely : Prop := fnExactKnowKeysRow.holds Try.pinned (OpenSpec.ofChange fnExactKnowKeysWrong)

/-- 'laws.FnKnowMore': WHATEVER THE INPUT: true; the input reads as it did. -/
def fnKnowMoreSpec : ChangeSpec := { name := "fnKnowMore", fn := fun _ => fun
  | [d1, d2] => { results := [.lit (.bool true)], args := [d1, d2] }
  | _ => none }
def fnKnowMoreRow : OpenClaim := { program := "ythgglnjjbpjonaa", sum := "84685e2b55a587ccf5e7ec72e2142aa3b6e58e2edf26e857c0b3cf76f023f611", func := "loop.example/cerberus/laws.FnKnowMore", spec := "fnKnowMore", unfollowed := true, recurses := true, apart := false }
def FnKnowMoreSaid : Prop := fnKnowMoreRow.holds Try.pinned (OpenSpec.ofChange fnKnowMoreSpec)

/-- ITS FALSE NEIGHBOUR: 'it returns false'. Refute it at one input. -/
def fnKnowMoreWrong : ChangeSpec := { name := "fnKnowMore", fn := fun _ => fun
  | [d1, d2] => { results := [.lit (.bool false)], args := [d1, d2] }
  | _ => none }
def FnKnowMoreWrongFalsely : Prop := fnKnowMoreRow.holds Try.pinned (OpenSpec.ofChange fnKnowMoreWrong)

/-- 'laws.FnKnowOnce': WHATEVER THE INPUT: true; the input reads as it did. -/
def fnKnowOnceSpec : ChangeSpec := { name := "fnKnowOnce", fn := fun _ => fun
  | [d] => { results := [.lit (.bool true)], args := [d] }
  | _ => none }
def fnKnowOnceRow : OpenClaim := { program := "ythgglnjjbpjonaa", sum := "84685e2b55a587ccf5e7ec72e2142aa3b6e58e2edf26e857c0b3cf76f023f611", func := "loop.example/cerberus/laws.FnKnowOnce", spec := "fnKnowOnce", unfollowed := true, recurses := true, apart := false }
def FnKnowOnceSaid : Prop := fnKnowOnceRow.holds Try.pinned (OpenSpec.ofChange fnKnowOnceSpec)

/-- ITS FALSE NEIGHBOUR: 'it returns false'. Refute it at one input. -/
def fnKnowOnceWrong : ChangeSpec := { name := "fnKnowOnce", fn := fun _ => fun
  | [d] => { results := [.lit (.bool false)], args := [d] }
  | _ => none }
def FnKnowOnceWrongFalsely : Prop := fnKnowOnceRow.holds Try.pinned (OpenSpec.ofChange fnKnowOnceWrong)

/-- 'laws.FnKnowFrom': WHATEVER THE INPUT: true; the input reads as it did. -/
def fnKnowFromSpec : ChangeSpec := { name := "fnKnowFrom", fn := fun _ => fun
  | [d] => { results := [.lit (.bool true)], args := [d] }
  | _ => none }
def fnKnowFromRow : OpenClaim := { program := "ythgglnjjbpjonaa", sum := "84685e2b55a587ccf5e7ec72e2142aa3b6e58e2edf26e857c0b3cf76f023f611", func := "loop.example/cerberus/laws.FnKnowFrom", spec := "fnKnowFrom", unfollowed := true, recurses := true, apart := false }
def FnKnowFromSaid : Prop := fnKnowFromRow.holds Try.pinned (OpenSpec.ofChange fnKnowFromSpec)

/-- ITS FALSE NEIGHBOUR: 'it returns false'. Refute it at one input. -/
def fnKnowFromWrong : ChangeSpec := { name := "fnKnowFrom", fn := fun _ => fun
  | [d] => { results := [.lit (.bool false)], args := [d] }
  | _ => none }
def FnKnowFromWrongFalsely : Prop := fnKnowFromRow.holds Try.pinned (OpenSpec.ofChange fnKnowFromWrong)

/- THE SECOND FORM. 'bulk': how many values and letters a reading holds, each counted each time it is reached (what is shared counts as often as it is met; a slice's spare places count too). A statement '..UptoSaid' is the law's where the arguments, and the package variables that the reading takes, are together of bulk at most 1048576: NARROWER than '..Said'. Prove '..Said' where nothing that the law and all that it calls make is longer than what came in: it says more and counts as full. Else prove '..UptoSaid'. A law counts once. -/
mutual
def uptoBulk {H : Type} : DataW H → Nat
  | .lit (.string bytes) => bytes.length + 1
  | .lit _ => 1
  | .nil => 1
  | .ptr d => uptoBulk d + 1
  | .slice elems spare => uptoBulkAll elems + uptoBulkAll spare + 1
  | .agg parts => uptoBulkAll parts + 1
  | .iface _ d => uptoBulk d + 1
  | .map entries => uptoBulkEntries entries + 1
  | .held _ => 1
def uptoBulkAll {H : Type} : List (DataW H) → Nat
  | [] => 0
  | d :: r => uptoBulk d + uptoBulkAll r
def uptoBulkEntries {H : Type} : List (Lit × DataW H) → Nat
  | [] => 0
  | x :: r => uptoBulkEntry x + uptoBulkEntries r
def uptoBulkEntry {H : Type} : Lit × DataW H → Nat
  | (.string bytes, d) => bytes.length + uptoBulk d + 1
  | (_, d) => uptoBulk d + 1
 end
def uptoSmall : (H : Type) → List (DataW H) → Bool := fun _ ds => decide (uptoBulkAll ds ≤ 1048576)
def OpenSpec.upto (s : _root_.Go.ChangeSpec) : _root_.Go.OpenSpec := { _root_.Go.OpenSpec.ofChange s with cond := some uptoSmall }

/-- 'laws.FnExactKnowKeys', WHERE WHAT IT READS IS OF BULK AT MOST 1048576: true; the input reads as it did. -/
def fnExactKnowKeysUptoRow : OpenClaim := { program := "ythgglnjjbpjonaa", sum := "84685e2b55a587ccf5e7ec72e2142aa3b6e58e2edf26e857c0b3cf76f023f611", func := "loop.example/cerberus/laws.FnExactKnowKeys", spec := "fnExactKnowKeys", unfollowed := true, recurses := true, apart := false, narrowed := true }
def FnExactKnowKeysUptoSaid : Prop := fnExactKnowKeysUptoRow.holds Try.pinned (OpenSpec.upto fnExactKnowKeysSpec)

/-- 'laws.FnKnowMore', WHERE WHAT IT READS IS OF BULK AT MOST 1048576: true; the input reads as it did. -/
def fnKnowMoreUptoRow : OpenClaim := { program := "ythgglnjjbpjonaa", sum := "84685e2b55a587ccf5e7ec72e2142aa3b6e58e2edf26e857c0b3cf76f023f611", func := "loop.example/cerberus/laws.FnKnowMore", spec := "fnKnowMore", unfollowed := true, recurses := true, apart := false, narrowed := true }
def FnKnowMoreUptoSaid : Prop := fnKnowMoreUptoRow.holds Try.pinned (OpenSpec.upto fnKnowMoreSpec)

/-- 'laws.FnKnowOnce', WHERE WHAT IT READS IS OF BULK AT MOST 1048576: true; the input reads as it did. -/
def fnKnowOnceUptoRow : OpenClaim := { program := "ythgglnjjbpjonaa", sum := "84685e2b55a587ccf5e7ec72e2142aa3b6e58e2edf26e857c0b3cf76f023f611", func := "loop.example/cerberus/laws.FnKnowOnce", spec := "fnKnowOnce", unfollowed := true, recurses := true, apart := false, narrowed := true }
def FnKnowOnceUptoSaid : Prop := fnKnowOnceUptoRow.holds Try.pinned (OpenSpec.upto fnKnowOnceSpec)

/-- 'laws.FnKnowFrom', WHERE WHAT IT READS IS OF BULK AT MOST 1048576: true; the input reads as it did. -/
def fnKnowFromUptoRow : OpenClaim := { program := "ythgglnjjbpjonaa", sum := "84685e2b55a587ccf5e7ec72e2142aa3b6e58e2edf26e857c0b3cf76f023f611", func := "loop.example/cerberus/laws.FnKnowFrom", spec := "fnKnowFrom", unfollowed := true, recurses := true, apart := false, narrowed := true }
def FnKnowFromUptoSaid : Prop := fnKnowFromUptoRow.holds Try.pinned (OpenSpec.upto fnKnowFromSpec)

end Rows
end Go.Proofs.Ythgglnjjbpjonaa
