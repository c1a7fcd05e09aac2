/-
  DERIVED. GIVEN WITH THE SEED: THE CARDS: each row of YtmajfpmlpppnmaaDoorRows.lean that lists a variable, with what it lists TIED to the program's text (the seventh form; the later family's looks); each row that meets fmt, with fmt's text TOLD by the authors' own Lean function (tested against real Go, not proved from fmt's source: count such statements apart). THE CARD IS WHAT COUNTS. Prove the row's statement (the work); the ties are given (YtmajfpmlpppnmaaDoorTie.lean); close each card by the builder's one call (the guide's Derived/Test/ToyasCard.lean, 'card_holds'). Laid BY PROGRAM, IN A SANDBOX (cutbox-door.mjs). By AI agents, Wed Nov 11 2026. No macro, syntax, notation, axiom, sorry.
-/
import Derived.Test.YtmajfpmlpppnmaaDoorRows
import GoSem.ClaimSeven
namespace Go.Proofs.YtmajfpmlpppnmaaDoor
namespace Rows

/-- THE TIED CARD OF 'laws.FnHostText'. -/
def fnHostTextCard : Claim7 := { stood := { row := fnHostTextRow, standIns := [], harness := (true, "a1e5843a23befd722b9faba214cbcd1a85b3811c2bd02d8c790f9a3b20b3f46e"), looks := true }, kinds := [], alts := [], laidByText := true, laidKinds := [.data, .pinned], laidTests := true, laidLooks := .later }
def FnHostTextCardSaid : Prop := Claim7.holds Tryd.pinned (.plain (OpenSpec.ofChange fnHostTextSpec)) fnHostTextCard

/-- THE TIED CARD OF 'laws.FnFour'. -/
def fnFourCard : Claim7 := { stood := { row := fnFourRow, standIns := [], harness := (true, "a1e5843a23befd722b9faba214cbcd1a85b3811c2bd02d8c790f9a3b20b3f46e"), looks := true }, kinds := [], alts := [], laidByText := true, laidKinds := [.data, .pinned], laidTests := true, laidLooks := .later }
def FnFourCardSaid : Prop := Claim7.holds Tryd.pinned (.plain (OpenSpec.ofChange fnFourSpec)) fnFourCard

/-- THE TIED CARD OF 'laws.FnHostSite'. -/
def fnHostSiteCard : Claim7 := { stood := { row := fnHostSiteRow, standIns := [], harness := (true, "a1e5843a23befd722b9faba214cbcd1a85b3811c2bd02d8c790f9a3b20b3f46e"), looks := true }, kinds := [], alts := [], laidByText := true, laidKinds := [.data, .data, .data, .data, .pinned], laidTests := true, laidLooks := .later }
def FnHostSiteCardSaid : Prop := Claim7.holds Tryd.pinned (.plain (OpenSpec.ofChange fnHostSiteSpec)) fnHostSiteCard

/-- THE TIED CARD OF 'laws.FnHostLower'. -/
def fnHostLowerCard : Claim7 := { stood := { row := fnHostLowerRow, standIns := [], harness := (true, "a1e5843a23befd722b9faba214cbcd1a85b3811c2bd02d8c790f9a3b20b3f46e"), looks := true }, kinds := [], alts := [], laidByText := true, laidKinds := [.data, .pinned], laidTests := true, laidLooks := .later }
def FnHostLowerCardSaid : Prop := Claim7.holds Tryd.pinned (.plain (OpenSpec.ofChange fnHostLowerSpec)) fnHostLowerCard

/-- THE TIED CARD OF 'laws.FnExactHostPut'. -/
def fnExactHostPutCard : Claim7 := { stood := { row := fnExactHostPutRow, standIns := [], harness := (true, "a1e5843a23befd722b9faba214cbcd1a85b3811c2bd02d8c790f9a3b20b3f46e"), looks := true }, kinds := [], alts := [], laidByText := true, laidKinds := [.data, .pinned], laidTests := true, laidLooks := .later }
def FnExactHostPutCardSaid : Prop := Claim7.holds Tryd.pinned (.plain (OpenSpec.ofChange fnExactHostPutSpec)) fnExactHostPutCard

/-- THE TIED CARD OF 'laws.FnExactHostOk'. -/
def fnExactHostOkCard : Claim7 := { stood := { row := fnExactHostOkRow, standIns := [], harness := (true, "a1e5843a23befd722b9faba214cbcd1a85b3811c2bd02d8c790f9a3b20b3f46e"), looks := true }, kinds := [], alts := [], laidByText := true, laidKinds := [.data, .pinned], laidTests := true, laidLooks := .later }
def FnExactHostOkCardSaid : Prop := Claim7.holds Tryd.pinned (.plain (OpenSpec.ofChange fnExactHostOkSpec)) fnExactHostOkCard

/-- THE SECOND FORM's CARD OF 'laws.FnHostText'. -/
def fnHostTextUptoCard : Claim7 := { stood := { row := fnHostTextUptoRow, standIns := [], harness := (true, "a1e5843a23befd722b9faba214cbcd1a85b3811c2bd02d8c790f9a3b20b3f46e"), looks := true }, kinds := [], alts := [], laidByText := true, laidKinds := [.data, .pinned], laidTests := true, laidLooks := .later }
def FnHostTextUptoCardSaid : Prop := Claim7.holds Tryd.pinned (.plain (OpenSpec.upto fnHostTextSpec)) fnHostTextUptoCard

/-- THE SECOND FORM's CARD OF 'laws.FnFour'. -/
def fnFourUptoCard : Claim7 := { stood := { row := fnFourUptoRow, standIns := [], harness := (true, "a1e5843a23befd722b9faba214cbcd1a85b3811c2bd02d8c790f9a3b20b3f46e"), looks := true }, kinds := [], alts := [], laidByText := true, laidKinds := [.data, .pinned], laidTests := true, laidLooks := .later }
def FnFourUptoCardSaid : Prop := Claim7.holds Tryd.pinned (.plain (OpenSpec.upto fnFourSpec)) fnFourUptoCard

/-- THE SECOND FORM's CARD OF 'laws.FnHostSite'. -/
def fnHostSiteUptoCard : Claim7 := { stood := { row := fnHostSiteUptoRow, standIns := [], harness := (true, "a1e5843a23befd722b9faba214cbcd1a85b3811c2bd02d8c790f9a3b20b3f46e"), looks := true }, kinds := [], alts := [], laidByText := true, laidKinds := [.data, .data, .data, .data, .pinned], laidTests := true, laidLooks := .later }
def FnHostSiteUptoCardSaid : Prop := Claim7.holds Tryd.pinned (.plain (OpenSpec.upto fnHostSiteSpec)) fnHostSiteUptoCard

/-- THE SECOND FORM's CARD OF 'laws.FnHostLower'. -/
def fnHostLowerUptoCard : Claim7 := { stood := { row := fnHostLowerUptoRow, standIns := [], harness := (true, "a1e5843a23befd722b9faba214cbcd1a85b3811c2bd02d8c790f9a3b20b3f46e"), looks := true }, kinds := [], alts := [], laidByText := true, laidKinds := [.data, .pinned], laidTests := true, laidLooks := .later }
def FnHostLowerUptoCardSaid : Prop := Claim7.holds Tryd.pinned (.plain (OpenSpec.upto fnHostLowerSpec)) fnHostLowerUptoCard

/-- THE SECOND FORM's CARD OF 'laws.FnExactHostPut'. -/
def fnExactHostPutUptoCard : Claim7 := { stood := { row := fnExactHostPutUptoRow, standIns := [], harness := (true, "a1e5843a23befd722b9faba214cbcd1a85b3811c2bd02d8c790f9a3b20b3f46e"), looks := true }, kinds := [], alts := [], laidByText := true, laidKinds := [.data, .pinned], laidTests := true, laidLooks := .later }
def FnExactHostPutUptoCardSaid : Prop := Claim7.holds Tryd.pinned (.plain (OpenSpec.upto fnExactHostPutSpec)) fnExactHostPutUptoCard

/-- THE SECOND FORM's CARD OF 'laws.FnExactHostOk'. -/
def fnExactHostOkUptoCard : Claim7 := { stood := { row := fnExactHostOkUptoRow, standIns := [], harness := (true, "a1e5843a23befd722b9faba214cbcd1a85b3811c2bd02d8c790f9a3b20b3f46e"), looks := true }, kinds := [], alts := [], laidByText := true, laidKinds := [.data, .pinned], laidTests := true, laidLooks := .later }
def FnExactHostOkUptoCardSaid : Prop := Claim7.holds Tryd.pinned (.plain (OpenSpec.upto fnExactHostOkSpec)) fnExactHostOkUptoCard
end Rows
end Go.Proofs.YtmajfpmlpppnmaaDoor
