/-
  DERIVED. GIVEN WITH THE SEED: THE CARDS: each row of YticbekooadnnlabGreatDoorRows.lean that lists a variable, with what it lists TIED to the program's text (the seventh form; the later family's looks); each row that meets fmt, with fmt's text TOLD by the authors' own Lean function (tested against real Go, not proved from fmt's source: count such statements apart). THE CARD IS WHAT COUNTS. Prove the row's statement (the work); the ties are given (YticbekooadnnlabGreatDoorTie.lean); close each card by the builder's one call (the guide's Derived/Test/ToyasCard.lean, 'card_holds'). Laid BY PROGRAM, IN A SANDBOX (cutbox-door.mjs). By AI agents, Wed Nov 11 2026. No macro, syntax, notation, axiom, sorry.
-/
import Derived.Test.YticbekooadnnlabGreatDoorRows
import GoSem.ClaimSeven
namespace Go.Proofs.YticbekooadnnlabGreatDoor
namespace Rows

/-- THE TIED CARD OF 'laws.FnUrlSlash'. -/
def fnUrlSlashCard : Claim7 := { stood := { row := fnUrlSlashRow, standIns := [], harness := (true, "160b1a27aa9581fc1829705913e305837d6bbfa8637b23fdcad7f110240e4019"), looks := true }, kinds := [], alts := [], laidByText := true, laidKinds := [.data, .data, .data, .data, .sentinel, .pinned], laidTests := true, laidLooks := .later }
def FnUrlSlashCardSaid : Prop := Claim7.holds Tryz.pinned (.plain (OpenSpec.ofChange fnUrlSlashSpec)) fnUrlSlashCard

/-- THE TIED CARD OF 'laws.FnUrlParts'. -/
def fnUrlPartsCard : Claim7 := { stood := { row := fnUrlPartsRow, standIns := [], harness := (true, "160b1a27aa9581fc1829705913e305837d6bbfa8637b23fdcad7f110240e4019"), looks := true }, kinds := [], alts := [], laidByText := true, laidKinds := [.data, .data, .data, .data, .sentinel, .pinned], laidTests := true, laidLooks := .later }
def FnUrlPartsCardSaid : Prop := Claim7.holds Tryz.pinned (.plain (OpenSpec.ofChange fnUrlPartsSpec)) fnUrlPartsCard

/-- THE SECOND FORM's CARD OF 'laws.FnUrlSlash'. -/
def fnUrlSlashUptoCard : Claim7 := { stood := { row := fnUrlSlashUptoRow, standIns := [], harness := (true, "160b1a27aa9581fc1829705913e305837d6bbfa8637b23fdcad7f110240e4019"), looks := true }, kinds := [], alts := [], laidByText := true, laidKinds := [.data, .data, .data, .data, .sentinel, .pinned], laidTests := true, laidLooks := .later }
def FnUrlSlashUptoCardSaid : Prop := Claim7.holds Tryz.pinned (.plain (OpenSpec.upto fnUrlSlashSpec)) fnUrlSlashUptoCard

/-- THE SECOND FORM's CARD OF 'laws.FnUrlParts'. -/
def fnUrlPartsUptoCard : Claim7 := { stood := { row := fnUrlPartsUptoRow, standIns := [], harness := (true, "160b1a27aa9581fc1829705913e305837d6bbfa8637b23fdcad7f110240e4019"), looks := true }, kinds := [], alts := [], laidByText := true, laidKinds := [.data, .data, .data, .data, .sentinel, .pinned], laidTests := true, laidLooks := .later }
def FnUrlPartsUptoCardSaid : Prop := Claim7.holds Tryz.pinned (.plain (OpenSpec.upto fnUrlPartsSpec)) fnUrlPartsUptoCard
end Rows
end Go.Proofs.YticbekooadnnlabGreatDoor
