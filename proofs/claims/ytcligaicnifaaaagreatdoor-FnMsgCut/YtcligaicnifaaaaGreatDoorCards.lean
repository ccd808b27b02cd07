/-
  DERIVED. GIVEN WITH THE SEED: THE CARDS: each row of YtcligaicnifaaaaGreatDoorRows.lean that lists a variable, with what it lists TIED to the program's text (the seventh form; the later family's looks); each row that meets fmt, with fmt's text TOLD by the authors' own Lean function (tested against real Go, not proved from fmt's source: count such statements apart). THE CARD IS WHAT COUNTS. Prove the row's statement (the work); the ties are given (YtcligaicnifaaaaGreatDoorTie.lean); close each card by the builder's one call (the guide's Derived/Test/ToyasCard.lean, 'card_holds'). Laid BY PROGRAM, IN A SANDBOX (cutbox-door.mjs). By AI agents, Wed Nov 11 2026. No macro, syntax, notation, axiom, sorry.
-/
import Derived.Test.YtcligaicnifaaaaGreatDoorRows
import GoSem.ClaimSeven
namespace Go.Proofs.YtcligaicnifaaaaGreatDoor
namespace Rows

/-- THE TIED CARD OF 'laws.FnExactMsgRead'. -/
def fnExactMsgReadCard : Claim7 := { stood := { row := fnExactMsgReadRow, standIns := [], harness := (true, "f25fa23bed7222c934a60bae241ff0779e40b494f71605cc7fb4e6f9c8a8fc3a"), looks := true }, kinds := [], alts := [], laidByText := true, laidKinds := [.data, .data, .data, .data, .handle, .sentinel, .sentinel, .sentinel, .sentinel, .sentinel, .data, .pinned], laidTests := true, laidLooks := .later }
def FnExactMsgReadCardSaid : Prop := Claim7.holds Tryz.pinned (.plain (OpenSpec.ofChange fnExactMsgReadSpec)) fnExactMsgReadCard

/-- THE TIED CARD OF 'laws.FnMsgCut'. -/
def fnMsgCutCard : Claim7 := { stood := { row := fnMsgCutRow, standIns := [], harness := (true, "f25fa23bed7222c934a60bae241ff0779e40b494f71605cc7fb4e6f9c8a8fc3a"), looks := true }, kinds := [], alts := [], laidByText := true, laidKinds := [.data, .data, .data, .data, .handle, .sentinel, .sentinel, .sentinel, .sentinel, .sentinel, .data, .pinned], laidTests := true, laidLooks := .later }
def FnMsgCutCardSaid : Prop := Claim7.holds Tryz.pinned (.plain (OpenSpec.ofChange fnMsgCutSpec)) fnMsgCutCard

/-- THE SECOND FORM's CARD OF 'laws.FnExactMsgRead'. -/
def fnExactMsgReadUptoCard : Claim7 := { stood := { row := fnExactMsgReadUptoRow, standIns := [], harness := (true, "f25fa23bed7222c934a60bae241ff0779e40b494f71605cc7fb4e6f9c8a8fc3a"), looks := true }, kinds := [], alts := [], laidByText := true, laidKinds := [.data, .data, .data, .data, .handle, .sentinel, .sentinel, .sentinel, .sentinel, .sentinel, .data, .pinned], laidTests := true, laidLooks := .later }
def FnExactMsgReadUptoCardSaid : Prop := Claim7.holds Tryz.pinned (.plain (OpenSpec.upto fnExactMsgReadSpec)) fnExactMsgReadUptoCard

/-- THE SECOND FORM's CARD OF 'laws.FnMsgCut'. -/
def fnMsgCutUptoCard : Claim7 := { stood := { row := fnMsgCutUptoRow, standIns := [], harness := (true, "f25fa23bed7222c934a60bae241ff0779e40b494f71605cc7fb4e6f9c8a8fc3a"), looks := true }, kinds := [], alts := [], laidByText := true, laidKinds := [.data, .data, .data, .data, .handle, .sentinel, .sentinel, .sentinel, .sentinel, .sentinel, .data, .pinned], laidTests := true, laidLooks := .later }
def FnMsgCutUptoCardSaid : Prop := Claim7.holds Tryz.pinned (.plain (OpenSpec.upto fnMsgCutSpec)) fnMsgCutUptoCard
end Rows
end Go.Proofs.YtcligaicnifaaaaGreatDoor
