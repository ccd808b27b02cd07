/-
  DERIVED. GIVEN WITH THE SEED: THE CARDS: each row of YtepnijocfilgoaaDoorRows.lean that lists a variable, with what it lists TIED to the program's text (the seventh form; the later family's looks); each row that meets fmt, with fmt's text TOLD by the authors' own Lean function (tested against real Go, not proved from fmt's source: count such statements apart). THE CARD IS WHAT COUNTS. Prove the row's statement (the work); the ties are given (YtepnijocfilgoaaDoorTie.lean); close each card by the builder's one call (the guide's Derived/Test/ToyasCard.lean, 'card_holds'). Laid BY PROGRAM, IN A SANDBOX (cutbox-door.mjs). By AI agents, Wed Nov 11 2026. No macro, syntax, notation, axiom, sorry.
-/
import Derived.Test.YtepnijocfilgoaaDoorRows
import GoSem.ClaimSeven
namespace Go.Proofs.YtepnijocfilgoaaDoor
namespace Rows

/-- THE TIED CARD OF 'laws.FnExactKnowBuild'. -/
def fnExactKnowBuildCard : Claim7 := { stood := { row := fnExactKnowBuildRow, standIns := [], harness := (true, "c88bad51aa2b9e569185839a4f88a850ac0721a9e7c0c1daad2118d4413df742"), looks := true }, kinds := [], alts := [], laidByText := true, laidKinds := [.data], laidTests := true, laidLooks := .later }
def FnExactKnowBuildCardSaid : Prop := Claim7.holds Tryd.pinned (.plain (OpenSpec.ofChange fnExactKnowBuildSpec)) fnExactKnowBuildCard

/-- THE TIED CARD OF 'laws.FnKnowNothing'. -/
def fnKnowNothingCard : Claim7 := { stood := { row := fnKnowNothingRow, standIns := [], harness := (true, "c88bad51aa2b9e569185839a4f88a850ac0721a9e7c0c1daad2118d4413df742"), looks := true }, kinds := [], alts := [], laidByText := true, laidKinds := [.data], laidTests := true, laidLooks := .later }
def FnKnowNothingCardSaid : Prop := Claim7.holds Tryd.pinned (.plain (OpenSpec.ofChange fnKnowNothingSpec)) fnKnowNothingCard

/-- THE TIED CARD OF 'laws.FnBuildNot'. -/
def fnBuildNotCard : Claim7 := { stood := { row := fnBuildNotRow, standIns := [], harness := (true, "c88bad51aa2b9e569185839a4f88a850ac0721a9e7c0c1daad2118d4413df742"), looks := true }, kinds := [], alts := [], laidByText := true, laidKinds := [.data], laidTests := true, laidLooks := .later }
def FnBuildNotCardSaid : Prop := Claim7.holds Tryd.pinned (.plain (OpenSpec.ofChange fnBuildNotSpec)) fnBuildNotCard

/-- THE TIED CARD OF 'laws.FnKnowBuild'. -/
def fnKnowBuildCard : Claim7 := { stood := { row := fnKnowBuildRow, standIns := [], harness := (true, "c88bad51aa2b9e569185839a4f88a850ac0721a9e7c0c1daad2118d4413df742"), looks := true }, kinds := [], alts := [], laidByText := true, laidKinds := [.data], laidTests := true, laidLooks := .later }
def FnKnowBuildCardSaid : Prop := Claim7.holds Tryd.pinned (.plain (OpenSpec.ofChange fnKnowBuildSpec)) fnKnowBuildCard

/-- THE TIED CARD OF 'laws.FnBuildMore'. -/
def fnBuildMoreCard : Claim7 := { stood := { row := fnBuildMoreRow, standIns := [], harness := (true, "c88bad51aa2b9e569185839a4f88a850ac0721a9e7c0c1daad2118d4413df742"), looks := true }, kinds := [], alts := [], laidByText := true, laidKinds := [.data], laidTests := true, laidLooks := .later }
def FnBuildMoreCardSaid : Prop := Claim7.holds Tryd.pinned (.plain (OpenSpec.ofChange fnBuildMoreSpec)) fnBuildMoreCard

/-- THE SECOND FORM's CARD OF 'laws.FnExactKnowBuild'. -/
def fnExactKnowBuildUptoCard : Claim7 := { stood := { row := fnExactKnowBuildUptoRow, standIns := [], harness := (true, "c88bad51aa2b9e569185839a4f88a850ac0721a9e7c0c1daad2118d4413df742"), looks := true }, kinds := [], alts := [], laidByText := true, laidKinds := [.data], laidTests := true, laidLooks := .later }
def FnExactKnowBuildUptoCardSaid : Prop := Claim7.holds Tryd.pinned (.plain (OpenSpec.upto fnExactKnowBuildSpec)) fnExactKnowBuildUptoCard

/-- THE SECOND FORM's CARD OF 'laws.FnKnowNothing'. -/
def fnKnowNothingUptoCard : Claim7 := { stood := { row := fnKnowNothingUptoRow, standIns := [], harness := (true, "c88bad51aa2b9e569185839a4f88a850ac0721a9e7c0c1daad2118d4413df742"), looks := true }, kinds := [], alts := [], laidByText := true, laidKinds := [.data], laidTests := true, laidLooks := .later }
def FnKnowNothingUptoCardSaid : Prop := Claim7.holds Tryd.pinned (.plain (OpenSpec.upto fnKnowNothingSpec)) fnKnowNothingUptoCard

/-- THE SECOND FORM's CARD OF 'laws.FnBuildNot'. -/
def fnBuildNotUptoCard : Claim7 := { stood := { row := fnBuildNotUptoRow, standIns := [], harness := (true, "c88bad51aa2b9e569185839a4f88a850ac0721a9e7c0c1daad2118d4413df742"), looks := true }, kinds := [], alts := [], laidByText := true, laidKinds := [.data], laidTests := true, laidLooks := .later }
def FnBuildNotUptoCardSaid : Prop := Claim7.holds Tryd.pinned (.plain (OpenSpec.upto fnBuildNotSpec)) fnBuildNotUptoCard

/-- THE SECOND FORM's CARD OF 'laws.FnKnowBuild'. -/
def fnKnowBuildUptoCard : Claim7 := { stood := { row := fnKnowBuildUptoRow, standIns := [], harness := (true, "c88bad51aa2b9e569185839a4f88a850ac0721a9e7c0c1daad2118d4413df742"), looks := true }, kinds := [], alts := [], laidByText := true, laidKinds := [.data], laidTests := true, laidLooks := .later }
def FnKnowBuildUptoCardSaid : Prop := Claim7.holds Tryd.pinned (.plain (OpenSpec.upto fnKnowBuildSpec)) fnKnowBuildUptoCard

/-- THE SECOND FORM's CARD OF 'laws.FnBuildMore'. -/
def fnBuildMoreUptoCard : Claim7 := { stood := { row := fnBuildMoreUptoRow, standIns := [], harness := (true, "c88bad51aa2b9e569185839a4f88a850ac0721a9e7c0c1daad2118d4413df742"), looks := true }, kinds := [], alts := [], laidByText := true, laidKinds := [.data], laidTests := true, laidLooks := .later }
def FnBuildMoreUptoCardSaid : Prop := Claim7.holds Tryd.pinned (.plain (OpenSpec.upto fnBuildMoreSpec)) fnBuildMoreUptoCard
end Rows
end Go.Proofs.YtepnijocfilgoaaDoor
