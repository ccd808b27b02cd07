/-
  No cell of these rows narrows 'for every input' (looked for: loops, veiled, ifaces, maps, wideKeys, modest, calm, conditions, laid).
  DERIVED. THE GIVEN ROWS OF THIS SEAT. 3 by the template 'for every input the law returns true; each argument reads behind the call as it read before'; 0 by the template 'total and deterministic' (their statements: YtdogpkeolhonbaaTotals.lean).
  GIVEN WITH THE SEED: the statements are not yours to turn. If you find one false, say at which input.
  Laid BY PROGRAM, IN A SANDBOX (cutbox-rows.mjs): the forced cells as the released guide's own fill.sh prints them over the translation 4ec4ce443c37cb54… (all of the seat's roots in one cut). By AI agents, Wed Nov 11 2026. No macro, syntax, notation, axiom, sorry.
-/
import Derived.Test.YtdogpkeolhonbaaChecked
import GoSem.Claim
import GoSem.ClaimJoined
import GoSem.ClaimMapViews
import Derived.JoinedTies
import Derived.KernelRfl
namespace Go.Proofs.Ytdogpkeolhonbaa
/- THE CELL 'sum', in the pinned program and in every row, IS THE sha256 OF THE DUMP (.gsa) THAT YtdogpkeolhonbaaProg.lean LOADS. Nothing in Lean hashes anything: it is a label: what it is worth is what the hold of that sum in a sandbox is worth. -/
noncomputable def Try.pinned : Pinned := { name := "ytdogpkeolhonbaa", sum := "4ec4ce443c37cb54fd069793ab36f2b4a218a54bf7cbad38a4ee6749219f1646", checked := Try.checked }
namespace Rows
def none {H : Type} : Left H := { results := [], args := [] }

/-- 'laws.FnExactKdcNew': WHATEVER THE INPUT: true; the input reads as it did. -/
def fnExactKdcNewSpec : ChangeSpec := { name := "fnExactKdcNew", fn := fun _ => fun
  | [] => { results := [.lit (.bool true)], args := [] }
  | _ => none }
def fnExactKdcNewRow : OpenClaim := { program := "ytdogpkeolhonbaa", sum := "4ec4ce443c37cb54fd069793ab36f2b4a218a54bf7cbad38a4ee6749219f1646", func := "loop.example/cerberus/laws.FnExactKdcNew", spec := "fnExactKdcNew", apart := false }
def FnExactKdcNewSaid : Prop := fnExactKdcNewRow.holds Try.pinned (OpenSpec.ofChange fnExactKdcNewSpec)

/-- ITS FALSE NEIGHBOUR: 'it returns false'. Refute it at one input. -/
def fnExactKdcNewWrong : ChangeSpec := { name := "fnExactKdcNew", fn := fun _ => fun
  | [] => { results := [.lit (.bool false)], args := [] }
  | _ => none }
def FnExactKdcNewWrongFalsely : Prop := fnExactKdcNewRow.holds Try.pinned (OpenSpec.ofChange fnExactKdcNewWrong)

/-- 'laws.FnExactKdcOk': WHATEVER THE INPUT: true; the input reads as it did. -/
def fnExactKdcOkSpec : ChangeSpec := { name := "fnExactKdcOk", fn := fun _ => fun
  | [d] => { results := [.lit (.bool true)], args := [d] }
  | _ => none }
def fnExactKdcOkRow : OpenClaim := { program := "ytdogpkeolhonbaa", sum := "4ec4ce443c37cb54fd069793ab36f2b4a218a54bf7cbad38a4ee6749219f1646", func := "loop.example/cerberus/laws.FnExactKdcOk", spec := "fnExactKdcOk", unfollowed := true, recurses := true, apart := false }
def FnExactKdcOkSaid : Prop := fnExactKdcOkRow.holds Try.pinned (OpenSpec.ofChange fnExactKdcOkSpec)

/-- ITS FALSE NEIGHBOUR: 'it returns false'. Refute it at one input. -/
def fnExactKdcOkWrong : ChangeSpec := { name := "fnExactKdcOk", fn := fun _ => fun
  | [d] => { results := [.lit (.bool false)], args := [d] }
  | _ => none }
def FnExactKdcOkWrongFalsely : Prop := fnExactKdcOkRow.holds Try.pinned (OpenSpec.ofChange fnExactKdcOkWrong)

/-- 'laws.FnExactCacheWith': WHATEVER THE INPUT: true; the input reads as it did. -/
def fnExactCacheWithSpec : ChangeSpec := { name := "fnExactCacheWith", fn := fun _ => fun
  | [d1, d2, d3] => { results := [.lit (.bool true)], args := [d1, d2, d3] }
  | _ => none }
def fnExactCacheWithRow : OpenClaim := { program := "ytdogpkeolhonbaa", sum := "4ec4ce443c37cb54fd069793ab36f2b4a218a54bf7cbad38a4ee6749219f1646", func := "loop.example/cerberus/laws.FnExactCacheWith", spec := "fnExactCacheWith", unfollowed := true, recurses := true, apart := false }
def FnExactCacheWithSaid : Prop := fnExactCacheWithRow.holds Try.pinned (OpenSpec.ofChange fnExactCacheWithSpec)

/-- ITS FALSE NEIGHBOUR: 'it returns false'. Refute it at one input. -/
def fnExactCacheWithWrong : ChangeSpec := { name := "fnExactCacheWith", fn := fun _ => fun
  | [d1, d2, d3] => { results := [.lit (.bool false)], args := [d1, d2, d3] }
  | _ => none }
def FnExactCacheWithWrongFalsely : Prop := fnExactCacheWithRow.holds Try.pinned (OpenSpec.ofChange fnExactCacheWithWrong)

/- THE SECOND FORM. 'bulk': how many values and letters a reading holds, each counted each time it is reached (what is shared counts as often as it is met; a slice's spare places count too). A statement '..UptoSaid' is the law's where the arguments, and the package variables that the reading takes, are together of bulk at most 1048576: NARROWER than '..Said'. Prove '..Said' where nothing that the law and all that it calls make is longer than what came in: it says more and counts as full. Else prove '..UptoSaid'. A law counts once. -/
mutual
def uptoBulk {H : Type} : DataW H → Nat
  | .lit (.string bytes) => bytes.length + 1
  | .lit _ => 1
  | .nil => 1
  | .ptr d => uptoBulk d + 1
  | .slice elems spare => uptoBulkAll elems + uptoBulkAll spare + 1
  | .agg parts => uptoBulkAll parts + 1
  | .iface _ d => uptoBulk d + 1
  | .map entries => uptoBulkEntries entries + 1
  | .held _ => 1
def uptoBulkAll {H : Type} : List (DataW H) → Nat
  | [] => 0
  | d :: r => uptoBulk d + uptoBulkAll r
def uptoBulkEntries {H : Type} : List (Lit × DataW H) → Nat
  | [] => 0
  | x :: r => uptoBulkEntry x + uptoBulkEntries r
def uptoBulkEntry {H : Type} : Lit × DataW H → Nat
  | (.string bytes, d) => bytes.length + uptoBulk d + 1
  | (_, d) => uptoBulk d + 1
 end
def uptoSmall : (H : Type) → List (DataW H) → Bool := fun _ ds => decide (uptoBulkAll ds ≤ 1048576)
def OpenSpec.upto (s : _root_.Go.ChangeSpec) : _root_.Go.OpenSpec := { _root_.Go.OpenSpec.ofChange s with cond := some uptoSmall }

/-- 'laws.FnExactKdcNew', WHERE WHAT IT READS IS OF BULK AT MOST 1048576: true; the input reads as it did. -/
def fnExactKdcNewUptoRow : OpenClaim := { program := "ytdogpkeolhonbaa", sum := "4ec4ce443c37cb54fd069793ab36f2b4a218a54bf7cbad38a4ee6749219f1646", func := "loop.example/cerberus/laws.FnExactKdcNew", spec := "fnExactKdcNew", apart := false, narrowed := true }
def FnExactKdcNewUptoSaid : Prop := fnExactKdcNewUptoRow.holds Try.pinned (OpenSpec.upto fnExactKdcNewSpec)

/-- 'laws.FnExactKdcOk', WHERE WHAT IT READS IS OF BULK AT MOST 1048576: true; the input reads as it did. -/
def fnExactKdcOkUptoRow : OpenClaim := { program := "ytdogpkeolhonbaa", sum := "4ec4ce443c37cb54fd069793ab36f2b4a218a54bf7cbad38a4ee6749219f1646", func := "loop.example/cerberus/laws.FnExactKdcOk", spec := "fnExactKdcOk", unfollowed := true, recurses := true, apart := false, narrowed := true }
def FnExactKdcOkUptoSaid : Prop := fnExactKdcOkUptoRow.holds Try.pinned (OpenSpec.upto fnExactKdcOkSpec)

/-- 'laws.FnExactCacheWith', WHERE WHAT IT READS IS OF BULK AT MOST 1048576: true; the input reads as it did. -/
def fnExactCacheWithUptoRow : OpenClaim := { program := "ytdogpkeolhonbaa", sum := "4ec4ce443c37cb54fd069793ab36f2b4a218a54bf7cbad38a4ee6749219f1646", func := "loop.example/cerberus/laws.FnExactCacheWith", spec := "fnExactCacheWith", unfollowed := true, recurses := true, apart := false, narrowed := true }
def FnExactCacheWithUptoSaid : Prop := fnExactCacheWithUptoRow.holds Try.pinned (OpenSpec.upto fnExactCacheWithSpec)

end Rows
end Go.Proofs.Ytdogpkeolhonbaa
