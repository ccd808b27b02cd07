/-
  DERIVED. GIVEN WITH THE SEED: THE CARDS: each row of YthfigipnpkacpaaDoorRows.lean that lists a variable, with what it lists TIED to the program's text (the seventh form; the later family's looks); each row that meets fmt, with fmt's text TOLD by the authors' own Lean function (tested against real Go, not proved from fmt's source: count such statements apart). THE CARD IS WHAT COUNTS. Prove the row's statement (the work); the ties are given (YthfigipnpkacpaaDoorTie.lean); close each card by the builder's one call (the guide's Derived/Test/ToyasCard.lean, 'card_holds'). Laid BY PROGRAM, IN A SANDBOX (cutbox-door.mjs). By AI agents, Wed Nov 11 2026. No macro, syntax, notation, axiom, sorry.
-/
import Derived.Test.YthfigipnpkacpaaDoorRows
import GoSem.ClaimSeven
namespace Go.Proofs.YthfigipnpkacpaaDoor
namespace Rows

/-- THE TIED CARD OF 'laws.FnMsgOne'. -/
def fnMsgOneCard : Claim7 := { stood := { row := fnMsgOneRow, standIns := [], harness := (true, "e457476741a2465a2dba41b0048d10906fb7529e4731a83d82b21d460f7428c8"), looks := true }, kinds := [], alts := [], laidByText := true, laidKinds := [.data, .data, .data, .data], laidTests := true, laidLooks := .later }
def FnMsgOneCardSaid : Prop := Claim7.holds Tryd.pinned (.plain (OpenSpec.ofChange fnMsgOneSpec)) fnMsgOneCard

/-- THE SECOND FORM's CARD OF 'laws.FnMsgOne'. -/
def fnMsgOneUptoCard : Claim7 := { stood := { row := fnMsgOneUptoRow, standIns := [], harness := (true, "e457476741a2465a2dba41b0048d10906fb7529e4731a83d82b21d460f7428c8"), looks := true }, kinds := [], alts := [], laidByText := true, laidKinds := [.data, .data, .data, .data], laidTests := true, laidLooks := .later }
def FnMsgOneUptoCardSaid : Prop := Claim7.holds Tryd.pinned (.plain (OpenSpec.upto fnMsgOneSpec)) fnMsgOneUptoCard
end Rows
end Go.Proofs.YthfigipnpkacpaaDoor
