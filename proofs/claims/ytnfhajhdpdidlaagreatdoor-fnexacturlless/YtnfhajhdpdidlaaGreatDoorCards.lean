/-
  DERIVED. GIVEN WITH THE SEED: THE CARDS: each row of YtnfhajhdpdidlaaGreatDoorRows.lean that lists a variable, with what it lists TIED to the program's text (the seventh form; the later family's looks); each row that meets fmt, with fmt's text TOLD by the authors' own Lean function (tested against real Go, not proved from fmt's source: count such statements apart). THE CARD IS WHAT COUNTS. Prove the row's statement (the work); the ties are given (YtnfhajhdpdidlaaGreatDoorTie.lean); close each card by the builder's one call (the guide's Derived/Test/ToyasCard.lean, 'card_holds'). Laid BY PROGRAM, IN A SANDBOX (cutbox-door.mjs). By AI agents, Wed Nov 11 2026. No macro, syntax, notation, axiom, sorry.
-/
import Derived.Test.YtnfhajhdpdidlaaGreatDoorRows
import GoSem.ClaimSeven
namespace Go.Proofs.YtnfhajhdpdidlaaGreatDoor
namespace Rows

/-- THE TIED CARD OF 'laws.FnExactPathOf'. -/
def fnExactPathOfCard : Claim7 := { stood := { row := fnExactPathOfRow, standIns := [], harness := (true, "fad65018c1eeb777bcfc54266189a54371ed0153cf2d0291e05f1654e1831778"), looks := true }, kinds := [], alts := [], laidByText := true, laidKinds := [.data, .data, .data, .data, .sentinel, .pinned], laidTests := true, laidLooks := .later }
def FnExactPathOfCardSaid : Prop := Claim7.holds Tryz.pinned (.plain (OpenSpec.ofChange fnExactPathOfSpec)) fnExactPathOfCard

/-- THE TIED CARD OF 'laws.FnPathOf'. -/
def fnPathOfCard : Claim7 := { stood := { row := fnPathOfRow, standIns := [], harness := (true, "fad65018c1eeb777bcfc54266189a54371ed0153cf2d0291e05f1654e1831778"), looks := true }, kinds := [], alts := [], laidByText := true, laidKinds := [.data, .data, .data, .data, .sentinel, .pinned], laidTests := true, laidLooks := .later }
def FnPathOfCardSaid : Prop := Claim7.holds Tryz.pinned (.plain (OpenSpec.ofChange fnPathOfSpec)) fnPathOfCard

/-- THE TIED CARD OF 'laws.FnExactRefer'. -/
def fnExactReferCard : Claim7 := { stood := { row := fnExactReferRow, standIns := [], harness := (true, "fad65018c1eeb777bcfc54266189a54371ed0153cf2d0291e05f1654e1831778"), looks := true }, kinds := [], alts := [], laidByText := true, laidKinds := [.data, .data, .data, .data, .sentinel, .pinned], laidTests := true, laidLooks := .later }
def FnExactReferCardSaid : Prop := Claim7.holds Tryz.pinned (.plain (OpenSpec.ofChange fnExactReferSpec)) fnExactReferCard

/-- THE TIED CARD OF 'laws.FnRefer'. -/
def fnReferCard : Claim7 := { stood := { row := fnReferRow, standIns := [], harness := (true, "fad65018c1eeb777bcfc54266189a54371ed0153cf2d0291e05f1654e1831778"), looks := true }, kinds := [], alts := [], laidByText := true, laidKinds := [.data, .data, .data, .data, .sentinel, .pinned], laidTests := true, laidLooks := .later }
def FnReferCardSaid : Prop := Claim7.holds Tryz.pinned (.plain (OpenSpec.ofChange fnReferSpec)) fnReferCard

/-- THE TIED CARD OF 'laws.FnExactUrlLess'. -/
def fnExactUrlLessCard : Claim7 := { stood := { row := fnExactUrlLessRow, standIns := [], harness := (true, "fad65018c1eeb777bcfc54266189a54371ed0153cf2d0291e05f1654e1831778"), looks := true }, kinds := [], alts := [], laidByText := true, laidKinds := [.data, .data, .data, .data, .sentinel, .pinned], laidTests := true, laidLooks := .later }
def FnExactUrlLessCardSaid : Prop := Claim7.holds Tryz.pinned (.plain (OpenSpec.ofChange fnExactUrlLessSpec)) fnExactUrlLessCard

/-- THE TIED CARD OF 'laws.FnOriginText'. -/
def fnOriginTextCard : Claim7 := { stood := { row := fnOriginTextRow, standIns := [], harness := (true, "fad65018c1eeb777bcfc54266189a54371ed0153cf2d0291e05f1654e1831778"), looks := true }, kinds := [], alts := [], laidByText := true, laidKinds := [.data, .data, .data, .data, .sentinel, .pinned], laidTests := true, laidLooks := .later }
def FnOriginTextCardSaid : Prop := Claim7.holds Tryz.pinned (.plain (OpenSpec.ofChange fnOriginTextSpec)) fnOriginTextCard

/-- THE SECOND FORM's CARD OF 'laws.FnExactPathOf'. -/
def fnExactPathOfUptoCard : Claim7 := { stood := { row := fnExactPathOfUptoRow, standIns := [], harness := (true, "fad65018c1eeb777bcfc54266189a54371ed0153cf2d0291e05f1654e1831778"), looks := true }, kinds := [], alts := [], laidByText := true, laidKinds := [.data, .data, .data, .data, .sentinel, .pinned], laidTests := true, laidLooks := .later }
def FnExactPathOfUptoCardSaid : Prop := Claim7.holds Tryz.pinned (.plain (OpenSpec.upto fnExactPathOfSpec)) fnExactPathOfUptoCard

/-- THE SECOND FORM's CARD OF 'laws.FnPathOf'. -/
def fnPathOfUptoCard : Claim7 := { stood := { row := fnPathOfUptoRow, standIns := [], harness := (true, "fad65018c1eeb777bcfc54266189a54371ed0153cf2d0291e05f1654e1831778"), looks := true }, kinds := [], alts := [], laidByText := true, laidKinds := [.data, .data, .data, .data, .sentinel, .pinned], laidTests := true, laidLooks := .later }
def FnPathOfUptoCardSaid : Prop := Claim7.holds Tryz.pinned (.plain (OpenSpec.upto fnPathOfSpec)) fnPathOfUptoCard

/-- THE SECOND FORM's CARD OF 'laws.FnExactRefer'. -/
def fnExactReferUptoCard : Claim7 := { stood := { row := fnExactReferUptoRow, standIns := [], harness := (true, "fad65018c1eeb777bcfc54266189a54371ed0153cf2d0291e05f1654e1831778"), looks := true }, kinds := [], alts := [], laidByText := true, laidKinds := [.data, .data, .data, .data, .sentinel, .pinned], laidTests := true, laidLooks := .later }
def FnExactReferUptoCardSaid : Prop := Claim7.holds Tryz.pinned (.plain (OpenSpec.upto fnExactReferSpec)) fnExactReferUptoCard

/-- THE SECOND FORM's CARD OF 'laws.FnRefer'. -/
def fnReferUptoCard : Claim7 := { stood := { row := fnReferUptoRow, standIns := [], harness := (true, "fad65018c1eeb777bcfc54266189a54371ed0153cf2d0291e05f1654e1831778"), looks := true }, kinds := [], alts := [], laidByText := true, laidKinds := [.data, .data, .data, .data, .sentinel, .pinned], laidTests := true, laidLooks := .later }
def FnReferUptoCardSaid : Prop := Claim7.holds Tryz.pinned (.plain (OpenSpec.upto fnReferSpec)) fnReferUptoCard

/-- THE SECOND FORM's CARD OF 'laws.FnExactUrlLess'. -/
def fnExactUrlLessUptoCard : Claim7 := { stood := { row := fnExactUrlLessUptoRow, standIns := [], harness := (true, "fad65018c1eeb777bcfc54266189a54371ed0153cf2d0291e05f1654e1831778"), looks := true }, kinds := [], alts := [], laidByText := true, laidKinds := [.data, .data, .data, .data, .sentinel, .pinned], laidTests := true, laidLooks := .later }
def FnExactUrlLessUptoCardSaid : Prop := Claim7.holds Tryz.pinned (.plain (OpenSpec.upto fnExactUrlLessSpec)) fnExactUrlLessUptoCard

/-- THE SECOND FORM's CARD OF 'laws.FnOriginText'. -/
def fnOriginTextUptoCard : Claim7 := { stood := { row := fnOriginTextUptoRow, standIns := [], harness := (true, "fad65018c1eeb777bcfc54266189a54371ed0153cf2d0291e05f1654e1831778"), looks := true }, kinds := [], alts := [], laidByText := true, laidKinds := [.data, .data, .data, .data, .sentinel, .pinned], laidTests := true, laidLooks := .later }
def FnOriginTextUptoCardSaid : Prop := Claim7.holds Tryz.pinned (.plain (OpenSpec.upto fnOriginTextSpec)) fnOriginTextUptoCard
end Rows
end Go.Proofs.YtnfhajhdpdidlaaGreatDoor
