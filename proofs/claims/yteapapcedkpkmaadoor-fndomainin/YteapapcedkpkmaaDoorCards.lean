/-
  DERIVED. GIVEN WITH THE SEED: THE CARDS: each row of YteapapcedkpkmaaDoorRows.lean that lists a variable, with what it lists TIED to the program's text (the seventh form; the later family's looks); each row that meets fmt, with fmt's text TOLD by the authors' own Lean function (tested against real Go, not proved from fmt's source: count such statements apart). THE CARD IS WHAT COUNTS. Prove the row's statement (the work); the ties are given (YteapapcedkpkmaaDoorTie.lean); close each card by the builder's one call (the guide's Derived/Test/ToyasCard.lean, 'card_holds'). Laid BY PROGRAM, IN A SANDBOX (cutbox-door.mjs). By AI agents, Wed Nov 11 2026. No macro, syntax, notation, axiom, sorry.
-/
import Derived.Test.YteapapcedkpkmaaDoorRows
import GoSem.ClaimSeven
namespace Go.Proofs.YteapapcedkpkmaaDoor
namespace Rows

/-- THE TIED CARD OF 'laws.FnDomainIn'. -/
def fnDomainInCard : Claim7 := { stood := { row := fnDomainInRow, standIns := [], harness := (true, "81b26f2e5f77b04952bad34e69ba62508c81a90d18464ee505cd408f978d0f60"), looks := false }, kinds := [], alts := [], laidByText := true, laidKinds := [.data, .pinned], laidTests := true, laidLooks := .later }
def FnDomainInCardSaid : Prop := Claim7.holds Tryd.pinned (.plain (OpenSpec.ofChange fnDomainInSpec)) fnDomainInCard

/-- THE TIED CARD OF 'laws.FnExactDomainIn'. -/
def fnExactDomainInCard : Claim7 := { stood := { row := fnExactDomainInRow, standIns := [], harness := (true, "81b26f2e5f77b04952bad34e69ba62508c81a90d18464ee505cd408f978d0f60"), looks := false }, kinds := [], alts := [], laidByText := true, laidKinds := [.data, .pinned], laidTests := true, laidLooks := .later }
def FnExactDomainInCardSaid : Prop := Claim7.holds Tryd.pinned (.plain (OpenSpec.ofChange fnExactDomainInSpec)) fnExactDomainInCard

/-- THE SECOND FORM's CARD OF 'laws.FnDomainIn'. -/
def fnDomainInUptoCard : Claim7 := { stood := { row := fnDomainInUptoRow, standIns := [], harness := (true, "81b26f2e5f77b04952bad34e69ba62508c81a90d18464ee505cd408f978d0f60"), looks := false }, kinds := [], alts := [], laidByText := true, laidKinds := [.data, .pinned], laidTests := true, laidLooks := .later }
def FnDomainInUptoCardSaid : Prop := Claim7.holds Tryd.pinned (.plain (OpenSpec.upto fnDomainInSpec)) fnDomainInUptoCard

/-- THE SECOND FORM's CARD OF 'laws.FnExactDomainIn'. -/
def fnExactDomainInUptoCard : Claim7 := { stood := { row := fnExactDomainInUptoRow, standIns := [], harness := (true, "81b26f2e5f77b04952bad34e69ba62508c81a90d18464ee505cd408f978d0f60"), looks := false }, kinds := [], alts := [], laidByText := true, laidKinds := [.data, .pinned], laidTests := true, laidLooks := .later }
def FnExactDomainInUptoCardSaid : Prop := Claim7.holds Tryd.pinned (.plain (OpenSpec.upto fnExactDomainInSpec)) fnExactDomainInUptoCard
end Rows
end Go.Proofs.YteapapcedkpkmaaDoor
