/-
  DERIVED. GIVEN WITH THE SEED: THE CARDS: each row of YtmajfpmlpppnmabDoorRows.lean that lists a variable, with what it lists TIED to the program's text (the seventh form; the later family's looks); each row that meets fmt, with fmt's text TOLD by the authors' own Lean function (tested against real Go, not proved from fmt's source: count such statements apart). THE CARD IS WHAT COUNTS. Prove the row's statement (the work); the ties are given (YtmajfpmlpppnmabDoorTie.lean); close each card by the builder's one call (the guide's Derived/Test/ToyasCard.lean, 'card_holds'). Laid BY PROGRAM, IN A SANDBOX (cutbox-door.mjs). By AI agents, Wed Nov 11 2026. No macro, syntax, notation, axiom, sorry.
-/
import Derived.Test.YtmajfpmlpppnmabDoorRows
import GoSem.ClaimSeven
namespace Go.Proofs.YtmajfpmlpppnmabDoor
namespace Rows

/-- THE TIED CARD OF 'laws.FnExactHostSite'. -/
def fnExactHostSiteCard : Claim7 := { stood := { row := fnExactHostSiteRow, standIns := [], harness := (true, "5de498aa3888d8569c9a1252aff2eabc28634db7f5e63b8cd3d2f7c35fe2a304"), looks := true }, kinds := [], alts := [], laidByText := true, laidKinds := [.data, .data, .data, .data, .pinned], laidTests := true, laidLooks := .later }
def FnExactHostSiteCardSaid : Prop := Claim7.holds Tryd.pinned (.plain (OpenSpec.ofChange fnExactHostSiteSpec)) fnExactHostSiteCard

/-- THE TIED CARD OF 'laws.FnExactFourGet'. -/
def fnExactFourGetCard : Claim7 := { stood := { row := fnExactFourGetRow, standIns := [], harness := (true, "5de498aa3888d8569c9a1252aff2eabc28634db7f5e63b8cd3d2f7c35fe2a304"), looks := true }, kinds := [], alts := [], laidByText := true, laidKinds := [.data, .pinned], laidTests := true, laidLooks := .later }
def FnExactFourGetCardSaid : Prop := Claim7.holds Tryd.pinned (.plain (OpenSpec.ofChange fnExactFourGetSpec)) fnExactFourGetCard

/-- THE SECOND FORM's CARD OF 'laws.FnExactHostSite'. -/
def fnExactHostSiteUptoCard : Claim7 := { stood := { row := fnExactHostSiteUptoRow, standIns := [], harness := (true, "5de498aa3888d8569c9a1252aff2eabc28634db7f5e63b8cd3d2f7c35fe2a304"), looks := true }, kinds := [], alts := [], laidByText := true, laidKinds := [.data, .data, .data, .data, .pinned], laidTests := true, laidLooks := .later }
def FnExactHostSiteUptoCardSaid : Prop := Claim7.holds Tryd.pinned (.plain (OpenSpec.upto fnExactHostSiteSpec)) fnExactHostSiteUptoCard

/-- THE SECOND FORM's CARD OF 'laws.FnExactFourGet'. -/
def fnExactFourGetUptoCard : Claim7 := { stood := { row := fnExactFourGetUptoRow, standIns := [], harness := (true, "5de498aa3888d8569c9a1252aff2eabc28634db7f5e63b8cd3d2f7c35fe2a304"), looks := true }, kinds := [], alts := [], laidByText := true, laidKinds := [.data, .pinned], laidTests := true, laidLooks := .later }
def FnExactFourGetUptoCardSaid : Prop := Claim7.holds Tryd.pinned (.plain (OpenSpec.upto fnExactFourGetSpec)) fnExactFourGetUptoCard
end Rows
end Go.Proofs.YtmajfpmlpppnmabDoor
