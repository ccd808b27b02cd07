/-
  DERIVED. GIVEN WITH THE SEED: THE CARDS: each row of YtopikapamfmalaaGreatDoorRows.lean that lists a variable, with what it lists TIED to the program's text (the seventh form; the later family's looks); each row that meets fmt, with fmt's text TOLD by the authors' own Lean function (tested against real Go, not proved from fmt's source: count such statements apart). THE CARD IS WHAT COUNTS. Prove the row's statement (the work); the ties are given (YtopikapamfmalaaGreatDoorTie.lean); close each card by the builder's one call (the guide's Derived/Test/ToyasCard.lean, 'card_holds'). Laid BY PROGRAM, IN A SANDBOX (cutbox-door.mjs). By AI agents, Wed Nov 11 2026. No macro, syntax, notation, axiom, sorry.
-/
import Derived.Test.YtopikapamfmalaaGreatDoorRows
import GoSem.ClaimSeven
namespace Go.Proofs.YtopikapamfmalaaGreatDoor
namespace Rows

/-- THE TIED CARD OF 'laws.FnExactMsgRead'. -/
def fnExactMsgReadCard : Claim7 := { stood := { row := fnExactMsgReadRow, standIns := [], harness := (true, "2ad6d806d796655b4bf8f1109d4bc89f9c0a4616f2793e5b32f34a4910a4076f"), looks := true }, kinds := [], alts := [], laidByText := true, laidKinds := [.data, .data, .data, .data, .handle, .sentinel, .sentinel, .sentinel, .sentinel, .sentinel, .data, .pinned], laidTests := true, laidLooks := .later }
def FnExactMsgReadCardSaid : Prop := Claim7.holds Tryz.pinned (.plain (OpenSpec.ofChange fnExactMsgReadSpec)) fnExactMsgReadCard

/-- THE TIED CARD OF 'laws.FnMsgStrict'. -/
def fnMsgStrictCard : Claim7 := { stood := { row := fnMsgStrictRow, standIns := [], harness := (true, "2ad6d806d796655b4bf8f1109d4bc89f9c0a4616f2793e5b32f34a4910a4076f"), looks := true }, kinds := [], alts := [], laidByText := true, laidKinds := [.data, .data, .data, .data, .handle, .sentinel, .sentinel, .sentinel, .sentinel, .sentinel, .data, .pinned], laidTests := true, laidLooks := .later }
def FnMsgStrictCardSaid : Prop := Claim7.holds Tryz.pinned (.plain (OpenSpec.ofChange fnMsgStrictSpec)) fnMsgStrictCard

/-- THE SECOND FORM's CARD OF 'laws.FnExactMsgRead'. -/
def fnExactMsgReadUptoCard : Claim7 := { stood := { row := fnExactMsgReadUptoRow, standIns := [], harness := (true, "2ad6d806d796655b4bf8f1109d4bc89f9c0a4616f2793e5b32f34a4910a4076f"), looks := true }, kinds := [], alts := [], laidByText := true, laidKinds := [.data, .data, .data, .data, .handle, .sentinel, .sentinel, .sentinel, .sentinel, .sentinel, .data, .pinned], laidTests := true, laidLooks := .later }
def FnExactMsgReadUptoCardSaid : Prop := Claim7.holds Tryz.pinned (.plain (OpenSpec.upto fnExactMsgReadSpec)) fnExactMsgReadUptoCard

/-- THE SECOND FORM's CARD OF 'laws.FnMsgStrict'. -/
def fnMsgStrictUptoCard : Claim7 := { stood := { row := fnMsgStrictUptoRow, standIns := [], harness := (true, "2ad6d806d796655b4bf8f1109d4bc89f9c0a4616f2793e5b32f34a4910a4076f"), looks := true }, kinds := [], alts := [], laidByText := true, laidKinds := [.data, .data, .data, .data, .handle, .sentinel, .sentinel, .sentinel, .sentinel, .sentinel, .data, .pinned], laidTests := true, laidLooks := .later }
def FnMsgStrictUptoCardSaid : Prop := Claim7.holds Tryz.pinned (.plain (OpenSpec.upto fnMsgStrictSpec)) fnMsgStrictUptoCard
end Rows
end Go.Proofs.YtopikapamfmalaaGreatDoor
