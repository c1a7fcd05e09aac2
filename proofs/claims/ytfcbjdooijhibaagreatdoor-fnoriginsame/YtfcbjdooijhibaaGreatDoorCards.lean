/-
  DERIVED. GIVEN WITH THE SEED: THE CARDS: each row of YtfcbjdooijhibaaGreatDoorRows.lean that lists a variable, with what it lists TIED to the program's text (the seventh form; the later family's looks); each row that meets fmt, with fmt's text TOLD by the authors' own Lean function (tested against real Go, not proved from fmt's source: count such statements apart). THE CARD IS WHAT COUNTS. Prove the row's statement (the work); the ties are given (YtfcbjdooijhibaaGreatDoorTie.lean); close each card by the builder's one call (the guide's Derived/Test/ToyasCard.lean, 'card_holds'). Laid BY PROGRAM, IN A SANDBOX (cutbox-door.mjs). By AI agents, Wed Nov 11 2026. No macro, syntax, notation, axiom, sorry.
-/
import Derived.Test.YtfcbjdooijhibaaGreatDoorRows
import GoSem.ClaimSeven
namespace Go.Proofs.YtfcbjdooijhibaaGreatDoor
namespace Rows

/-- THE TIED CARD OF 'laws.FnUrlSame'. -/
def fnUrlSameCard : Claim7 := { stood := { row := fnUrlSameRow, standIns := [], harness := (true, "c44a93143e6851e88662f090acb7c6fdd608e3267ff84eea9d987ad561e849bf"), looks := true }, kinds := [], alts := [], laidByText := true, laidKinds := [.data, .data, .data, .data, .sentinel, .pinned], laidTests := true, laidLooks := .later }
def FnUrlSameCardSaid : Prop := Claim7.holds Tryz.pinned (.plain (OpenSpec.ofChange fnUrlSameSpec)) fnUrlSameCard

/-- THE TIED CARD OF 'laws.FnExactOriginOf'. -/
def fnExactOriginOfCard : Claim7 := { stood := { row := fnExactOriginOfRow, standIns := [], harness := (true, "c44a93143e6851e88662f090acb7c6fdd608e3267ff84eea9d987ad561e849bf"), looks := true }, kinds := [], alts := [], laidByText := true, laidKinds := [.data, .data, .data, .data, .sentinel, .pinned], laidTests := true, laidLooks := .later }
def FnExactOriginOfCardSaid : Prop := Claim7.holds Tryz.pinned (.plain (OpenSpec.ofChange fnExactOriginOfSpec)) fnExactOriginOfCard

/-- THE TIED CARD OF 'laws.FnExactSiteSame'. -/
def fnExactSiteSameCard : Claim7 := { stood := { row := fnExactSiteSameRow, standIns := [], harness := (true, "c44a93143e6851e88662f090acb7c6fdd608e3267ff84eea9d987ad561e849bf"), looks := true }, kinds := [], alts := [], laidByText := true, laidKinds := [.data, .data, .data, .data, .sentinel, .pinned], laidTests := true, laidLooks := .later }
def FnExactSiteSameCardSaid : Prop := Claim7.holds Tryz.pinned (.plain (OpenSpec.ofChange fnExactSiteSameSpec)) fnExactSiteSameCard

/-- THE TIED CARD OF 'laws.FnExactOriginSame'. -/
def fnExactOriginSameCard : Claim7 := { stood := { row := fnExactOriginSameRow, standIns := [], harness := (true, "c44a93143e6851e88662f090acb7c6fdd608e3267ff84eea9d987ad561e849bf"), looks := true }, kinds := [], alts := [], laidByText := true, laidKinds := [.data, .data, .data, .data, .sentinel, .pinned], laidTests := true, laidLooks := .later }
def FnExactOriginSameCardSaid : Prop := Claim7.holds Tryz.pinned (.plain (OpenSpec.ofChange fnExactOriginSameSpec)) fnExactOriginSameCard

/-- THE TIED CARD OF 'laws.FnSiteSame'. -/
def fnSiteSameCard : Claim7 := { stood := { row := fnSiteSameRow, standIns := [], harness := (true, "c44a93143e6851e88662f090acb7c6fdd608e3267ff84eea9d987ad561e849bf"), looks := true }, kinds := [], alts := [], laidByText := true, laidKinds := [.data, .data, .data, .data, .sentinel, .pinned], laidTests := true, laidLooks := .later }
def FnSiteSameCardSaid : Prop := Claim7.holds Tryz.pinned (.plain (OpenSpec.ofChange fnSiteSameSpec)) fnSiteSameCard

/-- THE TIED CARD OF 'laws.FnOriginSame'. -/
def fnOriginSameCard : Claim7 := { stood := { row := fnOriginSameRow, standIns := [], harness := (true, "c44a93143e6851e88662f090acb7c6fdd608e3267ff84eea9d987ad561e849bf"), looks := true }, kinds := [], alts := [], laidByText := true, laidKinds := [.data, .data, .data, .data, .sentinel, .pinned], laidTests := true, laidLooks := .later }
def FnOriginSameCardSaid : Prop := Claim7.holds Tryz.pinned (.plain (OpenSpec.ofChange fnOriginSameSpec)) fnOriginSameCard

/-- THE SECOND FORM's CARD OF 'laws.FnUrlSame'. -/
def fnUrlSameUptoCard : Claim7 := { stood := { row := fnUrlSameUptoRow, standIns := [], harness := (true, "c44a93143e6851e88662f090acb7c6fdd608e3267ff84eea9d987ad561e849bf"), looks := true }, kinds := [], alts := [], laidByText := true, laidKinds := [.data, .data, .data, .data, .sentinel, .pinned], laidTests := true, laidLooks := .later }
def FnUrlSameUptoCardSaid : Prop := Claim7.holds Tryz.pinned (.plain (OpenSpec.upto fnUrlSameSpec)) fnUrlSameUptoCard

/-- THE SECOND FORM's CARD OF 'laws.FnExactOriginOf'. -/
def fnExactOriginOfUptoCard : Claim7 := { stood := { row := fnExactOriginOfUptoRow, standIns := [], harness := (true, "c44a93143e6851e88662f090acb7c6fdd608e3267ff84eea9d987ad561e849bf"), looks := true }, kinds := [], alts := [], laidByText := true, laidKinds := [.data, .data, .data, .data, .sentinel, .pinned], laidTests := true, laidLooks := .later }
def FnExactOriginOfUptoCardSaid : Prop := Claim7.holds Tryz.pinned (.plain (OpenSpec.upto fnExactOriginOfSpec)) fnExactOriginOfUptoCard

/-- THE SECOND FORM's CARD OF 'laws.FnExactSiteSame'. -/
def fnExactSiteSameUptoCard : Claim7 := { stood := { row := fnExactSiteSameUptoRow, standIns := [], harness := (true, "c44a93143e6851e88662f090acb7c6fdd608e3267ff84eea9d987ad561e849bf"), looks := true }, kinds := [], alts := [], laidByText := true, laidKinds := [.data, .data, .data, .data, .sentinel, .pinned], laidTests := true, laidLooks := .later }
def FnExactSiteSameUptoCardSaid : Prop := Claim7.holds Tryz.pinned (.plain (OpenSpec.upto fnExactSiteSameSpec)) fnExactSiteSameUptoCard

/-- THE SECOND FORM's CARD OF 'laws.FnExactOriginSame'. -/
def fnExactOriginSameUptoCard : Claim7 := { stood := { row := fnExactOriginSameUptoRow, standIns := [], harness := (true, "c44a93143e6851e88662f090acb7c6fdd608e3267ff84eea9d987ad561e849bf"), looks := true }, kinds := [], alts := [], laidByText := true, laidKinds := [.data, .data, .data, .data, .sentinel, .pinned], laidTests := true, laidLooks := .later }
def FnExactOriginSameUptoCardSaid : Prop := Claim7.holds Tryz.pinned (.plain (OpenSpec.upto fnExactOriginSameSpec)) fnExactOriginSameUptoCard

/-- THE SECOND FORM's CARD OF 'laws.FnSiteSame'. -/
def fnSiteSameUptoCard : Claim7 := { stood := { row := fnSiteSameUptoRow, standIns := [], harness := (true, "c44a93143e6851e88662f090acb7c6fdd608e3267ff84eea9d987ad561e849bf"), looks := true }, kinds := [], alts := [], laidByText := true, laidKinds := [.data, .data, .data, .data, .sentinel, .pinned], laidTests := true, laidLooks := .later }
def FnSiteSameUptoCardSaid : Prop := Claim7.holds Tryz.pinned (.plain (OpenSpec.upto fnSiteSameSpec)) fnSiteSameUptoCard

/-- THE SECOND FORM's CARD OF 'laws.FnOriginSame'. -/
def fnOriginSameUptoCard : Claim7 := { stood := { row := fnOriginSameUptoRow, standIns := [], harness := (true, "c44a93143e6851e88662f090acb7c6fdd608e3267ff84eea9d987ad561e849bf"), looks := true }, kinds := [], alts := [], laidByText := true, laidKinds := [.data, .data, .data, .data, .sentinel, .pinned], laidTests := true, laidLooks := .later }
def FnOriginSameUptoCardSaid : Prop := Claim7.holds Tryz.pinned (.plain (OpenSpec.upto fnOriginSameSpec)) fnOriginSameUptoCard
end Rows
end Go.Proofs.YtfcbjdooijhibaaGreatDoor
