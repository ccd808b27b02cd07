/-
  DERIVED. GIVEN WITH THE SEED: THE CARDS: each row of YtdloiialaeincaaDoorRows.lean that lists a variable, with what it lists TIED to the program's text (the seventh form; the later family's looks); each row that meets fmt, with fmt's text TOLD by the authors' own Lean function (tested against real Go, not proved from fmt's source: count such statements apart). THE CARD IS WHAT COUNTS. Prove the row's statement (the work); the ties are given (YtdloiialaeincaaDoorTie.lean); close each card by the builder's one call (the guide's Derived/Test/ToyasCard.lean, 'card_holds'). Laid BY PROGRAM, IN A SANDBOX (cutbox-door.mjs). By AI agents, Wed Nov 11 2026. No macro, syntax, notation, axiom, sorry.
-/
import Derived.Test.YtdloiialaeincaaDoorRows
import GoSem.ClaimSeven
namespace Go.Proofs.YtdloiialaeincaaDoor
namespace Rows

/-- THE TIED CARD OF 'laws.FnExactMsgOk'. -/
def fnExactMsgOkCard : Claim7 := { stood := { row := fnExactMsgOkRow, standIns := [], harness := (true, "2004a5f9c3b20a9471b16c73bbe82d7781f31f248d4c46ce17506078494e14fc"), looks := false }, kinds := [], alts := [], laidByText := true, laidKinds := [.data], laidTests := true, laidLooks := .later }
def FnExactMsgOkCardSaid : Prop := Claim7.holds Tryd.pinned (.plain (OpenSpec.ofChange fnExactMsgOkSpec)) fnExactMsgOkCard

/-- THE TIED CARD OF 'laws.FnMsgForm'. -/
def fnMsgFormCard : Claim7 := { stood := { row := fnMsgFormRow, standIns := [], harness := (true, "2004a5f9c3b20a9471b16c73bbe82d7781f31f248d4c46ce17506078494e14fc"), looks := false }, kinds := [], alts := [], laidByText := true, laidKinds := [.data], laidTests := true, laidLooks := .later }
def FnMsgFormCardSaid : Prop := Claim7.holds Tryd.pinned (.plain (OpenSpec.ofChange fnMsgFormSpec)) fnMsgFormCard

/-- THE TIED CARD OF 'laws.FnMsgSeals'. -/
def fnMsgSealsCard : Claim7 := { stood := { row := fnMsgSealsRow, standIns := [], harness := (true, "2004a5f9c3b20a9471b16c73bbe82d7781f31f248d4c46ce17506078494e14fc"), looks := false }, kinds := [], alts := [], laidByText := true, laidKinds := [.data], laidTests := true, laidLooks := .later }
def FnMsgSealsCardSaid : Prop := Claim7.holds Tryd.pinned (.plain (OpenSpec.ofChange fnMsgSealsSpec)) fnMsgSealsCard

/-- THE TIED CARD OF 'laws.FnMsgKinds'. -/
def fnMsgKindsCard : Claim7 := { stood := { row := fnMsgKindsRow, standIns := [], harness := (true, "2004a5f9c3b20a9471b16c73bbe82d7781f31f248d4c46ce17506078494e14fc"), looks := false }, kinds := [], alts := [], laidByText := true, laidKinds := [.data], laidTests := true, laidLooks := .later }
def FnMsgKindsCardSaid : Prop := Claim7.holds Tryd.pinned (.plain (OpenSpec.ofChange fnMsgKindsSpec)) fnMsgKindsCard

/-- THE SECOND FORM's CARD OF 'laws.FnExactMsgOk'. -/
def fnExactMsgOkUptoCard : Claim7 := { stood := { row := fnExactMsgOkUptoRow, standIns := [], harness := (true, "2004a5f9c3b20a9471b16c73bbe82d7781f31f248d4c46ce17506078494e14fc"), looks := false }, kinds := [], alts := [], laidByText := true, laidKinds := [.data], laidTests := true, laidLooks := .later }
def FnExactMsgOkUptoCardSaid : Prop := Claim7.holds Tryd.pinned (.plain (OpenSpec.upto fnExactMsgOkSpec)) fnExactMsgOkUptoCard

/-- THE SECOND FORM's CARD OF 'laws.FnMsgForm'. -/
def fnMsgFormUptoCard : Claim7 := { stood := { row := fnMsgFormUptoRow, standIns := [], harness := (true, "2004a5f9c3b20a9471b16c73bbe82d7781f31f248d4c46ce17506078494e14fc"), looks := false }, kinds := [], alts := [], laidByText := true, laidKinds := [.data], laidTests := true, laidLooks := .later }
def FnMsgFormUptoCardSaid : Prop := Claim7.holds Tryd.pinned (.plain (OpenSpec.upto fnMsgFormSpec)) fnMsgFormUptoCard

/-- THE SECOND FORM's CARD OF 'laws.FnMsgSeals'. -/
def fnMsgSealsUptoCard : Claim7 := { stood := { row := fnMsgSealsUptoRow, standIns := [], harness := (true, "2004a5f9c3b20a9471b16c73bbe82d7781f31f248d4c46ce17506078494e14fc"), looks := false }, kinds := [], alts := [], laidByText := true, laidKinds := [.data], laidTests := true, laidLooks := .later }
def FnMsgSealsUptoCardSaid : Prop := Claim7.holds Tryd.pinned (.plain (OpenSpec.upto fnMsgSealsSpec)) fnMsgSealsUptoCard

/-- THE SECOND FORM's CARD OF 'laws.FnMsgKinds'. -/
def fnMsgKindsUptoCard : Claim7 := { stood := { row := fnMsgKindsUptoRow, standIns := [], harness := (true, "2004a5f9c3b20a9471b16c73bbe82d7781f31f248d4c46ce17506078494e14fc"), looks := false }, kinds := [], alts := [], laidByText := true, laidKinds := [.data], laidTests := true, laidLooks := .later }
def FnMsgKindsUptoCardSaid : Prop := Claim7.holds Tryd.pinned (.plain (OpenSpec.upto fnMsgKindsSpec)) fnMsgKindsUptoCard
end Rows
end Go.Proofs.YtdloiialaeincaaDoor
