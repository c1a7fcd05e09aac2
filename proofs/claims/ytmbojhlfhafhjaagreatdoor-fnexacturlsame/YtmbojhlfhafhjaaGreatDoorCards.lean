/-
  DERIVED. GIVEN WITH THE SEED: THE CARDS: each row of YtmbojhlfhafhjaaGreatDoorRows.lean that lists a variable, with what it lists TIED to the program's text (the seventh form; the later family's looks); each row that meets fmt, with fmt's text TOLD by the authors' own Lean function (tested against real Go, not proved from fmt's source: count such statements apart). THE CARD IS WHAT COUNTS. Prove the row's statement (the work); the ties are given (YtmbojhlfhafhjaaGreatDoorTie.lean); close each card by the builder's one call (the guide's Derived/Test/ToyasCard.lean, 'card_holds'). Laid BY PROGRAM, IN A SANDBOX (cutbox-door.mjs). By AI agents, Wed Nov 11 2026. No macro, syntax, notation, axiom, sorry.
-/
import Derived.Test.YtmbojhlfhafhjaaGreatDoorRows
import GoSem.ClaimSeven
namespace Go.Proofs.YtmbojhlfhafhjaaGreatDoor
namespace Rows

/-- THE TIED CARD OF 'laws.FnExactUrlGet'. -/
def fnExactUrlGetCard : Claim7 := { stood := { row := fnExactUrlGetRow, standIns := [], harness := (true, "71e13089e309b29417faf09916439ec905aec32b550548b15605116cf1ac1580"), looks := true }, kinds := [], alts := [], laidByText := true, laidKinds := [.data, .data, .data, .data, .sentinel, .pinned], laidTests := true, laidLooks := .later }
def FnExactUrlGetCardSaid : Prop := Claim7.holds Tryz.pinned (.plain (OpenSpec.ofChange fnExactUrlGetSpec)) fnExactUrlGetCard

/-- THE TIED CARD OF 'laws.FnExactUrlOk'. -/
def fnExactUrlOkCard : Claim7 := { stood := { row := fnExactUrlOkRow, standIns := [], harness := (true, "71e13089e309b29417faf09916439ec905aec32b550548b15605116cf1ac1580"), looks := true }, kinds := [], alts := [], laidByText := true, laidKinds := [.data, .data, .data, .data, .sentinel, .pinned], laidTests := true, laidLooks := .later }
def FnExactUrlOkCardSaid : Prop := Claim7.holds Tryz.pinned (.plain (OpenSpec.ofChange fnExactUrlOkSpec)) fnExactUrlOkCard

/-- THE TIED CARD OF 'laws.FnExactUrlPut'. -/
def fnExactUrlPutCard : Claim7 := { stood := { row := fnExactUrlPutRow, standIns := [], harness := (true, "71e13089e309b29417faf09916439ec905aec32b550548b15605116cf1ac1580"), looks := true }, kinds := [], alts := [], laidByText := true, laidKinds := [.data, .data, .data, .data, .sentinel, .pinned], laidTests := true, laidLooks := .later }
def FnExactUrlPutCardSaid : Prop := Claim7.holds Tryz.pinned (.plain (OpenSpec.ofChange fnExactUrlPutSpec)) fnExactUrlPutCard

/-- THE TIED CARD OF 'laws.FnExactUrlBase'. -/
def fnExactUrlBaseCard : Claim7 := { stood := { row := fnExactUrlBaseRow, standIns := [], harness := (true, "71e13089e309b29417faf09916439ec905aec32b550548b15605116cf1ac1580"), looks := true }, kinds := [], alts := [], laidByText := true, laidKinds := [.data, .data, .data, .data, .sentinel, .pinned], laidTests := true, laidLooks := .later }
def FnExactUrlBaseCardSaid : Prop := Claim7.holds Tryz.pinned (.plain (OpenSpec.ofChange fnExactUrlBaseSpec)) fnExactUrlBaseCard

/-- THE TIED CARD OF 'laws.FnExactUrlSame'. -/
def fnExactUrlSameCard : Claim7 := { stood := { row := fnExactUrlSameRow, standIns := [], harness := (true, "71e13089e309b29417faf09916439ec905aec32b550548b15605116cf1ac1580"), looks := true }, kinds := [], alts := [], laidByText := true, laidKinds := [.data, .data, .data, .data, .sentinel, .pinned], laidTests := true, laidLooks := .later }
def FnExactUrlSameCardSaid : Prop := Claim7.holds Tryz.pinned (.plain (OpenSpec.ofChange fnExactUrlSameSpec)) fnExactUrlSameCard

/-- THE TIED CARD OF 'laws.FnExactPortOf'. -/
def fnExactPortOfCard : Claim7 := { stood := { row := fnExactPortOfRow, standIns := [], harness := (true, "71e13089e309b29417faf09916439ec905aec32b550548b15605116cf1ac1580"), looks := true }, kinds := [], alts := [], laidByText := true, laidKinds := [.data, .data, .data, .data, .sentinel, .pinned], laidTests := true, laidLooks := .later }
def FnExactPortOfCardSaid : Prop := Claim7.holds Tryz.pinned (.plain (OpenSpec.ofChange fnExactPortOfSpec)) fnExactPortOfCard

/-- THE SECOND FORM's CARD OF 'laws.FnExactUrlGet'. -/
def fnExactUrlGetUptoCard : Claim7 := { stood := { row := fnExactUrlGetUptoRow, standIns := [], harness := (true, "71e13089e309b29417faf09916439ec905aec32b550548b15605116cf1ac1580"), looks := true }, kinds := [], alts := [], laidByText := true, laidKinds := [.data, .data, .data, .data, .sentinel, .pinned], laidTests := true, laidLooks := .later }
def FnExactUrlGetUptoCardSaid : Prop := Claim7.holds Tryz.pinned (.plain (OpenSpec.upto fnExactUrlGetSpec)) fnExactUrlGetUptoCard

/-- THE SECOND FORM's CARD OF 'laws.FnExactUrlOk'. -/
def fnExactUrlOkUptoCard : Claim7 := { stood := { row := fnExactUrlOkUptoRow, standIns := [], harness := (true, "71e13089e309b29417faf09916439ec905aec32b550548b15605116cf1ac1580"), looks := true }, kinds := [], alts := [], laidByText := true, laidKinds := [.data, .data, .data, .data, .sentinel, .pinned], laidTests := true, laidLooks := .later }
def FnExactUrlOkUptoCardSaid : Prop := Claim7.holds Tryz.pinned (.plain (OpenSpec.upto fnExactUrlOkSpec)) fnExactUrlOkUptoCard

/-- THE SECOND FORM's CARD OF 'laws.FnExactUrlPut'. -/
def fnExactUrlPutUptoCard : Claim7 := { stood := { row := fnExactUrlPutUptoRow, standIns := [], harness := (true, "71e13089e309b29417faf09916439ec905aec32b550548b15605116cf1ac1580"), looks := true }, kinds := [], alts := [], laidByText := true, laidKinds := [.data, .data, .data, .data, .sentinel, .pinned], laidTests := true, laidLooks := .later }
def FnExactUrlPutUptoCardSaid : Prop := Claim7.holds Tryz.pinned (.plain (OpenSpec.upto fnExactUrlPutSpec)) fnExactUrlPutUptoCard

/-- THE SECOND FORM's CARD OF 'laws.FnExactUrlBase'. -/
def fnExactUrlBaseUptoCard : Claim7 := { stood := { row := fnExactUrlBaseUptoRow, standIns := [], harness := (true, "71e13089e309b29417faf09916439ec905aec32b550548b15605116cf1ac1580"), looks := true }, kinds := [], alts := [], laidByText := true, laidKinds := [.data, .data, .data, .data, .sentinel, .pinned], laidTests := true, laidLooks := .later }
def FnExactUrlBaseUptoCardSaid : Prop := Claim7.holds Tryz.pinned (.plain (OpenSpec.upto fnExactUrlBaseSpec)) fnExactUrlBaseUptoCard

/-- THE SECOND FORM's CARD OF 'laws.FnExactUrlSame'. -/
def fnExactUrlSameUptoCard : Claim7 := { stood := { row := fnExactUrlSameUptoRow, standIns := [], harness := (true, "71e13089e309b29417faf09916439ec905aec32b550548b15605116cf1ac1580"), looks := true }, kinds := [], alts := [], laidByText := true, laidKinds := [.data, .data, .data, .data, .sentinel, .pinned], laidTests := true, laidLooks := .later }
def FnExactUrlSameUptoCardSaid : Prop := Claim7.holds Tryz.pinned (.plain (OpenSpec.upto fnExactUrlSameSpec)) fnExactUrlSameUptoCard

/-- THE SECOND FORM's CARD OF 'laws.FnExactPortOf'. -/
def fnExactPortOfUptoCard : Claim7 := { stood := { row := fnExactPortOfUptoRow, standIns := [], harness := (true, "71e13089e309b29417faf09916439ec905aec32b550548b15605116cf1ac1580"), looks := true }, kinds := [], alts := [], laidByText := true, laidKinds := [.data, .data, .data, .data, .sentinel, .pinned], laidTests := true, laidLooks := .later }
def FnExactPortOfUptoCardSaid : Prop := Claim7.holds Tryz.pinned (.plain (OpenSpec.upto fnExactPortOfSpec)) fnExactPortOfUptoCard
end Rows
end Go.Proofs.YtmbojhlfhafhjaaGreatDoor
