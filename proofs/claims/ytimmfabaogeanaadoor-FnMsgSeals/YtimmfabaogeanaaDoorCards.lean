/-
  DERIVED. GIVEN WITH THE SEED: THE CARDS: each row of YtimmfabaogeanaaDoorRows.lean that lists a variable, with what it lists TIED to the program's text (the seventh form; the later family's looks); each row that meets fmt, with fmt's text TOLD by the authors' own Lean function (tested against real Go, not proved from fmt's source: count such statements apart). THE CARD IS WHAT COUNTS. Prove the row's statement (the work); the ties are given (YtimmfabaogeanaaDoorTie.lean); close each card by the builder's one call (the guide's Derived/Test/ToyasCard.lean, 'card_holds'). Laid BY PROGRAM, IN A SANDBOX (cutbox-door.mjs). By AI agents, Wed Nov 11 2026. No macro, syntax, notation, axiom, sorry.
-/
import Derived.Test.YtimmfabaogeanaaDoorRows
import GoSem.ClaimSeven
namespace Go.Proofs.YtimmfabaogeanaaDoor
namespace Rows

/-- THE TIED CARD OF 'laws.FnMsgSeals'. -/
def fnMsgSealsCard : Claim7 := { stood := { row := fnMsgSealsRow, standIns := [], harness := (true, "3ac176336a324b4a4d97ba915ae685010aea786cd138611d1ec8db0af6b2e006"), looks := false }, kinds := [], alts := [], laidByText := true, laidKinds := [.data], laidTests := true, laidLooks := .later }
def FnMsgSealsCardSaid : Prop := Claim7.holds Tryd.pinned (.plain (OpenSpec.ofChange fnMsgSealsSpec)) fnMsgSealsCard

/-- THE SECOND FORM's CARD OF 'laws.FnMsgSeals'. -/
def fnMsgSealsUptoCard : Claim7 := { stood := { row := fnMsgSealsUptoRow, standIns := [], harness := (true, "3ac176336a324b4a4d97ba915ae685010aea786cd138611d1ec8db0af6b2e006"), looks := false }, kinds := [], alts := [], laidByText := true, laidKinds := [.data], laidTests := true, laidLooks := .later }
def FnMsgSealsUptoCardSaid : Prop := Claim7.holds Tryd.pinned (.plain (OpenSpec.upto fnMsgSealsSpec)) fnMsgSealsUptoCard
end Rows
end Go.Proofs.YtimmfabaogeanaaDoor
