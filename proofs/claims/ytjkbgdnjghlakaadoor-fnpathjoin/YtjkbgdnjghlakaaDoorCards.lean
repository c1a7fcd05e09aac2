/-
  DERIVED. GIVEN WITH THE SEED: THE CARDS: each row of YtjkbgdnjghlakaaDoorRows.lean that lists a variable, with what it lists TIED to the program's text (the seventh form; the later family's looks); each row that meets fmt, with fmt's text TOLD by the authors' own Lean function (tested against real Go, not proved from fmt's source: count such statements apart). THE CARD IS WHAT COUNTS. Prove the row's statement (the work); the ties are given (YtjkbgdnjghlakaaDoorTie.lean); close each card by the builder's one call (the guide's Derived/Test/ToyasCard.lean, 'card_holds'). Laid BY PROGRAM, IN A SANDBOX (cutbox-door.mjs). By AI agents, Wed Nov 11 2026. No macro, syntax, notation, axiom, sorry.
-/
import Derived.Test.YtjkbgdnjghlakaaDoorRows
import GoSem.ClaimSeven
namespace Go.Proofs.YtjkbgdnjghlakaaDoor
namespace Rows

/-- THE TIED CARD OF 'laws.FnPath'. -/
def fnPathCard : Claim7 := { stood := { row := fnPathRow, standIns := [], harness := (true, "d28dfd7dd47ab923108255391c41db474a6158a847d1717ad0100e1072b0de50"), looks := false }, kinds := [], alts := [], laidByText := true, laidKinds := [.data, .pinned], laidTests := true, laidLooks := .later }
def FnPathCardSaid : Prop := Claim7.holds Tryd.pinned (.plain (OpenSpec.ofChange fnPathSpec)) fnPathCard

/-- THE TIED CARD OF 'laws.FnPathBack'. -/
def fnPathBackCard : Claim7 := { stood := { row := fnPathBackRow, standIns := [], harness := (true, "d28dfd7dd47ab923108255391c41db474a6158a847d1717ad0100e1072b0de50"), looks := false }, kinds := [], alts := [], laidByText := true, laidKinds := [.data, .pinned], laidTests := true, laidLooks := .later }
def FnPathBackCardSaid : Prop := Claim7.holds Tryd.pinned (.plain (OpenSpec.ofChange fnPathBackSpec)) fnPathBackCard

/-- THE TIED CARD OF 'laws.FnPathJoin'. -/
def fnPathJoinCard : Claim7 := { stood := { row := fnPathJoinRow, standIns := [], harness := (true, "d28dfd7dd47ab923108255391c41db474a6158a847d1717ad0100e1072b0de50"), looks := false }, kinds := [], alts := [], laidByText := true, laidKinds := [.data, .pinned], laidTests := true, laidLooks := .later }
def FnPathJoinCardSaid : Prop := Claim7.holds Tryd.pinned (.plain (OpenSpec.ofChange fnPathJoinSpec)) fnPathJoinCard

/-- THE TIED CARD OF 'laws.FnExactPathGet'. -/
def fnExactPathGetCard : Claim7 := { stood := { row := fnExactPathGetRow, standIns := [], harness := (true, "d28dfd7dd47ab923108255391c41db474a6158a847d1717ad0100e1072b0de50"), looks := false }, kinds := [], alts := [], laidByText := true, laidKinds := [.data, .pinned], laidTests := true, laidLooks := .later }
def FnExactPathGetCardSaid : Prop := Claim7.holds Tryd.pinned (.plain (OpenSpec.ofChange fnExactPathGetSpec)) fnExactPathGetCard

/-- THE SECOND FORM's CARD OF 'laws.FnPath'. -/
def fnPathUptoCard : Claim7 := { stood := { row := fnPathUptoRow, standIns := [], harness := (true, "d28dfd7dd47ab923108255391c41db474a6158a847d1717ad0100e1072b0de50"), looks := false }, kinds := [], alts := [], laidByText := true, laidKinds := [.data, .pinned], laidTests := true, laidLooks := .later }
def FnPathUptoCardSaid : Prop := Claim7.holds Tryd.pinned (.plain (OpenSpec.upto fnPathSpec)) fnPathUptoCard

/-- THE SECOND FORM's CARD OF 'laws.FnPathBack'. -/
def fnPathBackUptoCard : Claim7 := { stood := { row := fnPathBackUptoRow, standIns := [], harness := (true, "d28dfd7dd47ab923108255391c41db474a6158a847d1717ad0100e1072b0de50"), looks := false }, kinds := [], alts := [], laidByText := true, laidKinds := [.data, .pinned], laidTests := true, laidLooks := .later }
def FnPathBackUptoCardSaid : Prop := Claim7.holds Tryd.pinned (.plain (OpenSpec.upto fnPathBackSpec)) fnPathBackUptoCard

/-- THE SECOND FORM's CARD OF 'laws.FnPathJoin'. -/
def fnPathJoinUptoCard : Claim7 := { stood := { row := fnPathJoinUptoRow, standIns := [], harness := (true, "d28dfd7dd47ab923108255391c41db474a6158a847d1717ad0100e1072b0de50"), looks := false }, kinds := [], alts := [], laidByText := true, laidKinds := [.data, .pinned], laidTests := true, laidLooks := .later }
def FnPathJoinUptoCardSaid : Prop := Claim7.holds Tryd.pinned (.plain (OpenSpec.upto fnPathJoinSpec)) fnPathJoinUptoCard

/-- THE SECOND FORM's CARD OF 'laws.FnExactPathGet'. -/
def fnExactPathGetUptoCard : Claim7 := { stood := { row := fnExactPathGetUptoRow, standIns := [], harness := (true, "d28dfd7dd47ab923108255391c41db474a6158a847d1717ad0100e1072b0de50"), looks := false }, kinds := [], alts := [], laidByText := true, laidKinds := [.data, .pinned], laidTests := true, laidLooks := .later }
def FnExactPathGetUptoCardSaid : Prop := Claim7.holds Tryd.pinned (.plain (OpenSpec.upto fnExactPathGetSpec)) fnExactPathGetUptoCard
end Rows
end Go.Proofs.YtjkbgdnjghlakaaDoor
