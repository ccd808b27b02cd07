/-
  DERIVED. GIVEN WITH THE SEED: THE CARDS: each row of YtghajmfjekfdpaaDoorRows.lean that lists a variable, with what it lists TIED to the program's text (the seventh form; the later family's looks); each row that meets fmt, with fmt's text TOLD by the authors' own Lean function (tested against real Go, not proved from fmt's source: count such statements apart). THE CARD IS WHAT COUNTS. Prove the row's statement (the work); the ties are given (YtghajmfjekfdpaaDoorTie.lean); close each card by the builder's one call (the guide's Derived/Test/ToyasCard.lean, 'card_holds'). Laid BY PROGRAM, IN A SANDBOX (cutbox-door.mjs). By AI agents, Wed Nov 11 2026. No macro, syntax, notation, axiom, sorry.
-/
import Derived.Test.YtghajmfjekfdpaaDoorRows
import GoSem.ClaimSeven
namespace Go.Proofs.YtghajmfjekfdpaaDoor
namespace Rows

/-- THE TIED CARD OF 'laws.FnExactKdcTgs'. -/
def fnExactKdcTgsCard : Claim7 := { stood := { row := fnExactKdcTgsRow, standIns := [], harness := (true, "7903c3ae77602944b6f9e82c4c82fc52c17749002d024e218810d97c611f9636"), looks := false }, kinds := [], alts := [], laidByText := true, laidKinds := [.data], laidTests := true, laidLooks := .later }
def FnExactKdcTgsCardSaid : Prop := Claim7.holds Tryd.pinned (.plain (OpenSpec.ofChange fnExactKdcTgsSpec)) fnExactKdcTgsCard

/-- THE TIED CARD OF 'laws.FnExactServHear'. -/
def fnExactServHearCard : Claim7 := { stood := { row := fnExactServHearRow, standIns := [], harness := (true, "7903c3ae77602944b6f9e82c4c82fc52c17749002d024e218810d97c611f9636"), looks := false }, kinds := [], alts := [], laidByText := true, laidKinds := [.data], laidTests := true, laidLooks := .later }
def FnExactServHearCardSaid : Prop := Claim7.holds Tryd.pinned (.plain (OpenSpec.ofChange fnExactServHearSpec)) fnExactServHearCard

/-- THE SECOND FORM's CARD OF 'laws.FnExactKdcTgs'. -/
def fnExactKdcTgsUptoCard : Claim7 := { stood := { row := fnExactKdcTgsUptoRow, standIns := [], harness := (true, "7903c3ae77602944b6f9e82c4c82fc52c17749002d024e218810d97c611f9636"), looks := false }, kinds := [], alts := [], laidByText := true, laidKinds := [.data], laidTests := true, laidLooks := .later }
def FnExactKdcTgsUptoCardSaid : Prop := Claim7.holds Tryd.pinned (.plain (OpenSpec.upto fnExactKdcTgsSpec)) fnExactKdcTgsUptoCard

/-- THE SECOND FORM's CARD OF 'laws.FnExactServHear'. -/
def fnExactServHearUptoCard : Claim7 := { stood := { row := fnExactServHearUptoRow, standIns := [], harness := (true, "7903c3ae77602944b6f9e82c4c82fc52c17749002d024e218810d97c611f9636"), looks := false }, kinds := [], alts := [], laidByText := true, laidKinds := [.data], laidTests := true, laidLooks := .later }
def FnExactServHearUptoCardSaid : Prop := Claim7.holds Tryd.pinned (.plain (OpenSpec.upto fnExactServHearSpec)) fnExactServHearUptoCard
end Rows
end Go.Proofs.YtghajmfjekfdpaaDoor
