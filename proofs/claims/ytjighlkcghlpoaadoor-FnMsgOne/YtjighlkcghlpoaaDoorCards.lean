/-
  DERIVED. GIVEN WITH THE SEED: THE CARDS: each row of YtjighlkcghlpoaaDoorRows.lean that lists a variable, with what it lists TIED to the program's text (the seventh form; the later family's looks); each row that meets fmt, with fmt's text TOLD by the authors' own Lean function (tested against real Go, not proved from fmt's source: count such statements apart). THE CARD IS WHAT COUNTS. Prove the row's statement (the work); the ties are given (YtjighlkcghlpoaaDoorTie.lean); close each card by the builder's one call (the guide's Derived/Test/ToyasCard.lean, 'card_holds'). Laid BY PROGRAM, IN A SANDBOX (cutbox-door.mjs). By AI agents, Wed Nov 11 2026. No macro, syntax, notation, axiom, sorry.
-/
import Derived.Test.YtjighlkcghlpoaaDoorRows
import GoSem.ClaimSeven
namespace Go.Proofs.YtjighlkcghlpoaaDoor
namespace Rows

/-- THE TIED CARD OF 'laws.FnExactMsgText'. -/
def fnExactMsgTextCard : Claim7 := { stood := { row := fnExactMsgTextRow, standIns := [], harness := (true, "64799d43155cad7914acfa3d146fd23a2e9f058c0148d83dcdf3510485e5bb5d"), looks := true }, kinds := [], alts := [], laidByText := true, laidKinds := [.data, .data, .data, .data], laidTests := true, laidLooks := .later }
def FnExactMsgTextCardSaid : Prop := Claim7.holds Tryd.pinned (.plain (OpenSpec.ofChange fnExactMsgTextSpec)) fnExactMsgTextCard

/-- THE TIED CARD OF 'laws.FnMsgOne'. -/
def fnMsgOneCard : Claim7 := { stood := { row := fnMsgOneRow, standIns := [], harness := (true, "64799d43155cad7914acfa3d146fd23a2e9f058c0148d83dcdf3510485e5bb5d"), looks := true }, kinds := [], alts := [], laidByText := true, laidKinds := [.data, .data, .data, .data], laidTests := true, laidLooks := .later }
def FnMsgOneCardSaid : Prop := Claim7.holds Tryd.pinned (.plain (OpenSpec.ofChange fnMsgOneSpec)) fnMsgOneCard

/-- THE SECOND FORM's CARD OF 'laws.FnExactMsgText'. -/
def fnExactMsgTextUptoCard : Claim7 := { stood := { row := fnExactMsgTextUptoRow, standIns := [], harness := (true, "64799d43155cad7914acfa3d146fd23a2e9f058c0148d83dcdf3510485e5bb5d"), looks := true }, kinds := [], alts := [], laidByText := true, laidKinds := [.data, .data, .data, .data], laidTests := true, laidLooks := .later }
def FnExactMsgTextUptoCardSaid : Prop := Claim7.holds Tryd.pinned (.plain (OpenSpec.upto fnExactMsgTextSpec)) fnExactMsgTextUptoCard

/-- THE SECOND FORM's CARD OF 'laws.FnMsgOne'. -/
def fnMsgOneUptoCard : Claim7 := { stood := { row := fnMsgOneUptoRow, standIns := [], harness := (true, "64799d43155cad7914acfa3d146fd23a2e9f058c0148d83dcdf3510485e5bb5d"), looks := true }, kinds := [], alts := [], laidByText := true, laidKinds := [.data, .data, .data, .data], laidTests := true, laidLooks := .later }
def FnMsgOneUptoCardSaid : Prop := Claim7.holds Tryd.pinned (.plain (OpenSpec.upto fnMsgOneSpec)) fnMsgOneUptoCard
end Rows
end Go.Proofs.YtjighlkcghlpoaaDoor
