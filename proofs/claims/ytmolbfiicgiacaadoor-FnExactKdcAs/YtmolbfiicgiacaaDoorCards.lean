/-
  DERIVED. GIVEN WITH THE SEED: THE CARDS: each row of YtmolbfiicgiacaaDoorRows.lean that lists a variable, with what it lists TIED to the program's text (the seventh form; the later family's looks); each row that meets fmt, with fmt's text TOLD by the authors' own Lean function (tested against real Go, not proved from fmt's source: count such statements apart). THE CARD IS WHAT COUNTS. Prove the row's statement (the work); the ties are given (YtmolbfiicgiacaaDoorTie.lean); close each card by the builder's one call (the guide's Derived/Test/ToyasCard.lean, 'card_holds'). Laid BY PROGRAM, IN A SANDBOX (cutbox-door.mjs). By AI agents, Wed Nov 11 2026. No macro, syntax, notation, axiom, sorry.
-/
import Derived.Test.YtmolbfiicgiacaaDoorRows
import GoSem.ClaimSeven
namespace Go.Proofs.YtmolbfiicgiacaaDoor
namespace Rows

/-- THE TIED CARD OF 'laws.FnExactKdcAs'. -/
def fnExactKdcAsCard : Claim7 := { stood := { row := fnExactKdcAsRow, standIns := [], harness := (true, "83c006a5a32f97fa6e9878bcd6d736ed60d81e0f59228e9d4fdbaa5a1acfa179"), looks := false }, kinds := [], alts := [], laidByText := true, laidKinds := [.data], laidTests := true, laidLooks := .later }
def FnExactKdcAsCardSaid : Prop := Claim7.holds Tryd.pinned (.plain (OpenSpec.ofChange fnExactKdcAsSpec)) fnExactKdcAsCard

/-- THE TIED CARD OF 'laws.FnExactKdcTgs'. -/
def fnExactKdcTgsCard : Claim7 := { stood := { row := fnExactKdcTgsRow, standIns := [], harness := (true, "83c006a5a32f97fa6e9878bcd6d736ed60d81e0f59228e9d4fdbaa5a1acfa179"), looks := false }, kinds := [], alts := [], laidByText := true, laidKinds := [.data], laidTests := true, laidLooks := .later }
def FnExactKdcTgsCardSaid : Prop := Claim7.holds Tryd.pinned (.plain (OpenSpec.ofChange fnExactKdcTgsSpec)) fnExactKdcTgsCard

/-- THE SECOND FORM's CARD OF 'laws.FnExactKdcAs'. -/
def fnExactKdcAsUptoCard : Claim7 := { stood := { row := fnExactKdcAsUptoRow, standIns := [], harness := (true, "83c006a5a32f97fa6e9878bcd6d736ed60d81e0f59228e9d4fdbaa5a1acfa179"), looks := false }, kinds := [], alts := [], laidByText := true, laidKinds := [.data], laidTests := true, laidLooks := .later }
def FnExactKdcAsUptoCardSaid : Prop := Claim7.holds Tryd.pinned (.plain (OpenSpec.upto fnExactKdcAsSpec)) fnExactKdcAsUptoCard

/-- THE SECOND FORM's CARD OF 'laws.FnExactKdcTgs'. -/
def fnExactKdcTgsUptoCard : Claim7 := { stood := { row := fnExactKdcTgsUptoRow, standIns := [], harness := (true, "83c006a5a32f97fa6e9878bcd6d736ed60d81e0f59228e9d4fdbaa5a1acfa179"), looks := false }, kinds := [], alts := [], laidByText := true, laidKinds := [.data], laidTests := true, laidLooks := .later }
def FnExactKdcTgsUptoCardSaid : Prop := Claim7.holds Tryd.pinned (.plain (OpenSpec.upto fnExactKdcTgsSpec)) fnExactKdcTgsUptoCard
end Rows
end Go.Proofs.YtmolbfiicgiacaaDoor
