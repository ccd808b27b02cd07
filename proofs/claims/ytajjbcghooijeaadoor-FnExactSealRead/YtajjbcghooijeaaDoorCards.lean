/-
  DERIVED. GIVEN WITH THE SEED: THE CARDS: each row of YtajjbcghooijeaaDoorRows.lean that lists a variable, with what it lists TIED to the program's text (the seventh form; the later family's looks); each row that meets fmt, with fmt's text TOLD by the authors' own Lean function (tested against real Go, not proved from fmt's source: count such statements apart). THE CARD IS WHAT COUNTS. Prove the row's statement (the work); the ties are given (YtajjbcghooijeaaDoorTie.lean); close each card by the builder's one call (the guide's Derived/Test/ToyasCard.lean, 'card_holds'). Laid BY PROGRAM, IN A SANDBOX (cutbox-door.mjs). By AI agents, Wed Nov 11 2026. No macro, syntax, notation, axiom, sorry.
-/
import Derived.Test.YtajjbcghooijeaaDoorRows
import GoSem.ClaimSeven
namespace Go.Proofs.YtajjbcghooijeaaDoor
namespace Rows

/-- THE TIED CARD OF 'laws.FnSealOne'. -/
def fnSealOneCard : Claim7 := { stood := { row := fnSealOneRow, standIns := [], harness := (true, "bb985e2660e41009251c6b65ef210500845209ccaa5aa67827fabb4da70ff47e"), looks := true }, kinds := [], alts := [], laidByText := true, laidKinds := [.data, .data, .data], laidTests := true, laidLooks := .later }
def FnSealOneCardSaid : Prop := Claim7.holds Tryd.pinned (.plain (OpenSpec.ofChange fnSealOneSpec)) fnSealOneCard

/-- THE TIED CARD OF 'laws.FnSealCut'. -/
def fnSealCutCard : Claim7 := { stood := { row := fnSealCutRow, standIns := [], harness := (true, "bb985e2660e41009251c6b65ef210500845209ccaa5aa67827fabb4da70ff47e"), looks := true }, kinds := [], alts := [], laidByText := true, laidKinds := [.data, .data, .data, .data, .sentinel, .sentinel, .pinned], laidTests := true, laidLooks := .later }
def FnSealCutCardSaid : Prop := Claim7.holds Tryd.pinned (.plain (OpenSpec.ofChange fnSealCutSpec)) fnSealCutCard

/-- THE TIED CARD OF 'laws.FnExactSealText'. -/
def fnExactSealTextCard : Claim7 := { stood := { row := fnExactSealTextRow, standIns := [], harness := (true, "bb985e2660e41009251c6b65ef210500845209ccaa5aa67827fabb4da70ff47e"), looks := true }, kinds := [], alts := [], laidByText := true, laidKinds := [.data, .data, .data], laidTests := true, laidLooks := .later }
def FnExactSealTextCardSaid : Prop := Claim7.holds Tryd.pinned (.plain (OpenSpec.ofChange fnExactSealTextSpec)) fnExactSealTextCard

/-- THE TIED CARD OF 'laws.FnExactSealRead'. -/
def fnExactSealReadCard : Claim7 := { stood := { row := fnExactSealReadRow, standIns := [], harness := (true, "bb985e2660e41009251c6b65ef210500845209ccaa5aa67827fabb4da70ff47e"), looks := true }, kinds := [], alts := [], laidByText := true, laidKinds := [.data, .data, .data, .data, .sentinel, .sentinel, .pinned], laidTests := true, laidLooks := .later }
def FnExactSealReadCardSaid : Prop := Claim7.holds Tryd.pinned (.plain (OpenSpec.ofChange fnExactSealReadSpec)) fnExactSealReadCard

/-- THE SECOND FORM's CARD OF 'laws.FnSealOne'. -/
def fnSealOneUptoCard : Claim7 := { stood := { row := fnSealOneUptoRow, standIns := [], harness := (true, "bb985e2660e41009251c6b65ef210500845209ccaa5aa67827fabb4da70ff47e"), looks := true }, kinds := [], alts := [], laidByText := true, laidKinds := [.data, .data, .data], laidTests := true, laidLooks := .later }
def FnSealOneUptoCardSaid : Prop := Claim7.holds Tryd.pinned (.plain (OpenSpec.upto fnSealOneSpec)) fnSealOneUptoCard

/-- THE SECOND FORM's CARD OF 'laws.FnSealCut'. -/
def fnSealCutUptoCard : Claim7 := { stood := { row := fnSealCutUptoRow, standIns := [], harness := (true, "bb985e2660e41009251c6b65ef210500845209ccaa5aa67827fabb4da70ff47e"), looks := true }, kinds := [], alts := [], laidByText := true, laidKinds := [.data, .data, .data, .data, .sentinel, .sentinel, .pinned], laidTests := true, laidLooks := .later }
def FnSealCutUptoCardSaid : Prop := Claim7.holds Tryd.pinned (.plain (OpenSpec.upto fnSealCutSpec)) fnSealCutUptoCard

/-- THE SECOND FORM's CARD OF 'laws.FnExactSealText'. -/
def fnExactSealTextUptoCard : Claim7 := { stood := { row := fnExactSealTextUptoRow, standIns := [], harness := (true, "bb985e2660e41009251c6b65ef210500845209ccaa5aa67827fabb4da70ff47e"), looks := true }, kinds := [], alts := [], laidByText := true, laidKinds := [.data, .data, .data], laidTests := true, laidLooks := .later }
def FnExactSealTextUptoCardSaid : Prop := Claim7.holds Tryd.pinned (.plain (OpenSpec.upto fnExactSealTextSpec)) fnExactSealTextUptoCard

/-- THE SECOND FORM's CARD OF 'laws.FnExactSealRead'. -/
def fnExactSealReadUptoCard : Claim7 := { stood := { row := fnExactSealReadUptoRow, standIns := [], harness := (true, "bb985e2660e41009251c6b65ef210500845209ccaa5aa67827fabb4da70ff47e"), looks := true }, kinds := [], alts := [], laidByText := true, laidKinds := [.data, .data, .data, .data, .sentinel, .sentinel, .pinned], laidTests := true, laidLooks := .later }
def FnExactSealReadUptoCardSaid : Prop := Claim7.holds Tryd.pinned (.plain (OpenSpec.upto fnExactSealReadSpec)) fnExactSealReadUptoCard
end Rows
end Go.Proofs.YtajjbcghooijeaaDoor
