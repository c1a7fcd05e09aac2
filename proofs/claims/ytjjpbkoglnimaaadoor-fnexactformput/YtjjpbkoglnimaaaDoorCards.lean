/-
  DERIVED. GIVEN WITH THE SEED: THE CARDS: each row of YtjjpbkoglnimaaaDoorRows.lean that lists a variable, with what it lists TIED to the program's text (the seventh form; the later family's looks); each row that meets fmt, with fmt's text TOLD by the authors' own Lean function (tested against real Go, not proved from fmt's source: count such statements apart). THE CARD IS WHAT COUNTS. Prove the row's statement (the work); the ties are given (YtjjpbkoglnimaaaDoorTie.lean); close each card by the builder's one call (the guide's Derived/Test/ToyasCard.lean, 'card_holds'). Laid BY PROGRAM, IN A SANDBOX (cutbox-door.mjs). By AI agents, Wed Nov 11 2026. No macro, syntax, notation, axiom, sorry.
-/
import Derived.Test.YtjjpbkoglnimaaaDoorRows
import GoSem.ClaimSeven
namespace Go.Proofs.YtjjpbkoglnimaaaDoor
namespace Rows

/-- THE TIED CARD OF 'laws.FnForm'. -/
def fnFormCard : Claim7 := { stood := { row := fnFormRow, standIns := [], harness := (true, "37bf961d8923700ffec4edb0844fecfee0d0167123b68a5244d1fe3065fc879d"), looks := false }, kinds := [], alts := [], laidByText := true, laidKinds := [.data, .pinned], laidTests := true, laidLooks := .later }
def FnFormCardSaid : Prop := Claim7.holds Tryd.pinned (.plain (OpenSpec.ofChange fnFormSpec)) fnFormCard

/-- THE TIED CARD OF 'laws.FnFormMore'. -/
def fnFormMoreCard : Claim7 := { stood := { row := fnFormMoreRow, standIns := [], harness := (true, "37bf961d8923700ffec4edb0844fecfee0d0167123b68a5244d1fe3065fc879d"), looks := false }, kinds := [], alts := [], laidByText := true, laidKinds := [.data, .pinned], laidTests := true, laidLooks := .later }
def FnFormMoreCardSaid : Prop := Claim7.holds Tryd.pinned (.plain (OpenSpec.ofChange fnFormMoreSpec)) fnFormMoreCard

/-- THE TIED CARD OF 'laws.FnExactFormGet'. -/
def fnExactFormGetCard : Claim7 := { stood := { row := fnExactFormGetRow, standIns := [], harness := (true, "37bf961d8923700ffec4edb0844fecfee0d0167123b68a5244d1fe3065fc879d"), looks := false }, kinds := [], alts := [], laidByText := true, laidKinds := [.data, .pinned], laidTests := true, laidLooks := .later }
def FnExactFormGetCardSaid : Prop := Claim7.holds Tryd.pinned (.plain (OpenSpec.ofChange fnExactFormGetSpec)) fnExactFormGetCard

/-- THE TIED CARD OF 'laws.FnExactFormPut'. -/
def fnExactFormPutCard : Claim7 := { stood := { row := fnExactFormPutRow, standIns := [], harness := (true, "37bf961d8923700ffec4edb0844fecfee0d0167123b68a5244d1fe3065fc879d"), looks := false }, kinds := [], alts := [], laidByText := true, laidKinds := [.data, .pinned], laidTests := true, laidLooks := .later }
def FnExactFormPutCardSaid : Prop := Claim7.holds Tryd.pinned (.plain (OpenSpec.ofChange fnExactFormPutSpec)) fnExactFormPutCard

/-- THE SECOND FORM's CARD OF 'laws.FnForm'. -/
def fnFormUptoCard : Claim7 := { stood := { row := fnFormUptoRow, standIns := [], harness := (true, "37bf961d8923700ffec4edb0844fecfee0d0167123b68a5244d1fe3065fc879d"), looks := false }, kinds := [], alts := [], laidByText := true, laidKinds := [.data, .pinned], laidTests := true, laidLooks := .later }
def FnFormUptoCardSaid : Prop := Claim7.holds Tryd.pinned (.plain (OpenSpec.upto fnFormSpec)) fnFormUptoCard

/-- THE SECOND FORM's CARD OF 'laws.FnFormMore'. -/
def fnFormMoreUptoCard : Claim7 := { stood := { row := fnFormMoreUptoRow, standIns := [], harness := (true, "37bf961d8923700ffec4edb0844fecfee0d0167123b68a5244d1fe3065fc879d"), looks := false }, kinds := [], alts := [], laidByText := true, laidKinds := [.data, .pinned], laidTests := true, laidLooks := .later }
def FnFormMoreUptoCardSaid : Prop := Claim7.holds Tryd.pinned (.plain (OpenSpec.upto fnFormMoreSpec)) fnFormMoreUptoCard

/-- THE SECOND FORM's CARD OF 'laws.FnExactFormGet'. -/
def fnExactFormGetUptoCard : Claim7 := { stood := { row := fnExactFormGetUptoRow, standIns := [], harness := (true, "37bf961d8923700ffec4edb0844fecfee0d0167123b68a5244d1fe3065fc879d"), looks := false }, kinds := [], alts := [], laidByText := true, laidKinds := [.data, .pinned], laidTests := true, laidLooks := .later }
def FnExactFormGetUptoCardSaid : Prop := Claim7.holds Tryd.pinned (.plain (OpenSpec.upto fnExactFormGetSpec)) fnExactFormGetUptoCard

/-- THE SECOND FORM's CARD OF 'laws.FnExactFormPut'. -/
def fnExactFormPutUptoCard : Claim7 := { stood := { row := fnExactFormPutUptoRow, standIns := [], harness := (true, "37bf961d8923700ffec4edb0844fecfee0d0167123b68a5244d1fe3065fc879d"), looks := false }, kinds := [], alts := [], laidByText := true, laidKinds := [.data, .pinned], laidTests := true, laidLooks := .later }
def FnExactFormPutUptoCardSaid : Prop := Claim7.holds Tryd.pinned (.plain (OpenSpec.upto fnExactFormPutSpec)) fnExactFormPutUptoCard
end Rows
end Go.Proofs.YtjjpbkoglnimaaaDoor
