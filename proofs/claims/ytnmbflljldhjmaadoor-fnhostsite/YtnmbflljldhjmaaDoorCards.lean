/-
  DERIVED. GIVEN WITH THE SEED: THE CARDS: each row of YtnmbflljldhjmaaDoorRows.lean that lists a variable, with what it lists TIED to the program's text (the seventh form; the later family's looks); each row that meets fmt, with fmt's text TOLD by the authors' own Lean function (tested against real Go, not proved from fmt's source: count such statements apart). THE CARD IS WHAT COUNTS. Prove the row's statement (the work); the ties are given (YtnmbflljldhjmaaDoorTie.lean); close each card by the builder's one call (the guide's Derived/Test/ToyasCard.lean, 'card_holds'). Laid BY PROGRAM, IN A SANDBOX (cutbox-door.mjs). By AI agents, Wed Nov 11 2026. No macro, syntax, notation, axiom, sorry.
-/
import Derived.Test.YtnmbflljldhjmaaDoorRows
import GoSem.ClaimSeven
namespace Go.Proofs.YtnmbflljldhjmaaDoor
namespace Rows

/-- THE TIED CARD OF 'laws.FnHostSite'. -/
def fnHostSiteCard : Claim7 := { stood := { row := fnHostSiteRow, standIns := [], harness := (true, "823d8a52f566a18d154bcadfffa104a831f46c1b0cb62fd8186e0b6b3a4f54b7"), looks := true }, kinds := [], alts := [], laidByText := true, laidKinds := [.data, .data, .data, .data, .pinned], laidTests := true, laidLooks := .later }
def FnHostSiteCardSaid : Prop := Claim7.holds Tryd.pinned (.plain (OpenSpec.ofChange fnHostSiteSpec)) fnHostSiteCard

/-- THE SECOND FORM's CARD OF 'laws.FnHostSite'. -/
def fnHostSiteUptoCard : Claim7 := { stood := { row := fnHostSiteUptoRow, standIns := [], harness := (true, "823d8a52f566a18d154bcadfffa104a831f46c1b0cb62fd8186e0b6b3a4f54b7"), looks := true }, kinds := [], alts := [], laidByText := true, laidKinds := [.data, .data, .data, .data, .pinned], laidTests := true, laidLooks := .later }
def FnHostSiteUptoCardSaid : Prop := Claim7.holds Tryd.pinned (.plain (OpenSpec.upto fnHostSiteSpec)) fnHostSiteUptoCard
end Rows
end Go.Proofs.YtnmbflljldhjmaaDoor
