/-
  DERIVED. GIVEN WITH THE SEED: THE CARDS: each row of YthekgdenplcnoaaDoorRows.lean that lists a variable, with what it lists TIED to the program's text (the seventh form; the later family's looks); each row that meets fmt, with fmt's text TOLD by the authors' own Lean function (tested against real Go, not proved from fmt's source: count such statements apart). THE CARD IS WHAT COUNTS. Prove the row's statement (the work); the ties are given (YthekgdenplcnoaaDoorTie.lean); close each card by the builder's one call (the guide's Derived/Test/ToyasCard.lean, 'card_holds'). Laid BY PROGRAM, IN A SANDBOX (cutbox-door.mjs). By AI agents, Wed Nov 11 2026. No macro, syntax, notation, axiom, sorry.
-/
import Derived.Test.YthekgdenplcnoaaDoorRows
import GoSem.ClaimSeven
namespace Go.Proofs.YthekgdenplcnoaaDoor
namespace Rows

/-- THE TIED CARD OF 'laws.FnSealBack'. -/
def fnSealBackCard : Claim7 := { stood := { row := fnSealBackRow, standIns := [], harness := (true, "8b35250280cae11fa895544d9eacb405ad3606ca740f54151b784aa0211f9833"), looks := true }, kinds := [], alts := [], laidByText := true, laidKinds := [.data, .data, .data, .data, .sentinel, .sentinel, .pinned], laidTests := true, laidLooks := .later }
def FnSealBackCardSaid : Prop := Claim7.holds Tryd.pinned (.plain (OpenSpec.ofChange fnSealBackSpec)) fnSealBackCard

/-- THE TIED CARD OF 'laws.FnSealStrict'. -/
def fnSealStrictCard : Claim7 := { stood := { row := fnSealStrictRow, standIns := [], harness := (true, "8b35250280cae11fa895544d9eacb405ad3606ca740f54151b784aa0211f9833"), looks := true }, kinds := [], alts := [], laidByText := true, laidKinds := [.data, .data, .data, .data, .sentinel, .sentinel, .pinned], laidTests := true, laidLooks := .later }
def FnSealStrictCardSaid : Prop := Claim7.holds Tryd.pinned (.plain (OpenSpec.ofChange fnSealStrictSpec)) fnSealStrictCard

/-- THE TIED CARD OF 'laws.FnSealRange'. -/
def fnSealRangeCard : Claim7 := { stood := { row := fnSealRangeRow, standIns := [], harness := (true, "8b35250280cae11fa895544d9eacb405ad3606ca740f54151b784aa0211f9833"), looks := true }, kinds := [], alts := [], laidByText := true, laidKinds := [.data, .data, .data], laidTests := true, laidLooks := .later }
def FnSealRangeCardSaid : Prop := Claim7.holds Tryd.pinned (.plain (OpenSpec.ofChange fnSealRangeSpec)) fnSealRangeCard

/-- THE SECOND FORM's CARD OF 'laws.FnSealBack'. -/
def fnSealBackUptoCard : Claim7 := { stood := { row := fnSealBackUptoRow, standIns := [], harness := (true, "8b35250280cae11fa895544d9eacb405ad3606ca740f54151b784aa0211f9833"), looks := true }, kinds := [], alts := [], laidByText := true, laidKinds := [.data, .data, .data, .data, .sentinel, .sentinel, .pinned], laidTests := true, laidLooks := .later }
def FnSealBackUptoCardSaid : Prop := Claim7.holds Tryd.pinned (.plain (OpenSpec.upto fnSealBackSpec)) fnSealBackUptoCard

/-- THE SECOND FORM's CARD OF 'laws.FnSealStrict'. -/
def fnSealStrictUptoCard : Claim7 := { stood := { row := fnSealStrictUptoRow, standIns := [], harness := (true, "8b35250280cae11fa895544d9eacb405ad3606ca740f54151b784aa0211f9833"), looks := true }, kinds := [], alts := [], laidByText := true, laidKinds := [.data, .data, .data, .data, .sentinel, .sentinel, .pinned], laidTests := true, laidLooks := .later }
def FnSealStrictUptoCardSaid : Prop := Claim7.holds Tryd.pinned (.plain (OpenSpec.upto fnSealStrictSpec)) fnSealStrictUptoCard

/-- THE SECOND FORM's CARD OF 'laws.FnSealRange'. -/
def fnSealRangeUptoCard : Claim7 := { stood := { row := fnSealRangeUptoRow, standIns := [], harness := (true, "8b35250280cae11fa895544d9eacb405ad3606ca740f54151b784aa0211f9833"), looks := true }, kinds := [], alts := [], laidByText := true, laidKinds := [.data, .data, .data], laidTests := true, laidLooks := .later }
def FnSealRangeUptoCardSaid : Prop := Claim7.holds Tryd.pinned (.plain (OpenSpec.upto fnSealRangeSpec)) fnSealRangeUptoCard
end Rows
end Go.Proofs.YthekgdenplcnoaaDoor
