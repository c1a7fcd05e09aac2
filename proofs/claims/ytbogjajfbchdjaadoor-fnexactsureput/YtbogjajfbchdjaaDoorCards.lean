/-
  DERIVED. GIVEN WITH THE SEED: THE CARDS: each row of YtbogjajfbchdjaaDoorRows.lean that lists a variable, with what it lists TIED to the program's text (the seventh form; the later family's looks); each row that meets fmt, with fmt's text TOLD by the authors' own Lean function (tested against real Go, not proved from fmt's source: count such statements apart). THE CARD IS WHAT COUNTS. Prove the row's statement (the work); the ties are given (YtbogjajfbchdjaaDoorTie.lean); close each card by the builder's one call (the guide's Derived/Test/ToyasCard.lean, 'card_holds'). Laid BY PROGRAM, IN A SANDBOX (cutbox-door.mjs). By AI agents, Wed Nov 11 2026. No macro, syntax, notation, axiom, sorry.
-/
import Derived.Test.YtbogjajfbchdjaaDoorRows
import GoSem.ClaimSeven
namespace Go.Proofs.YtbogjajfbchdjaaDoor
namespace Rows

/-- THE TIED CARD OF 'laws.FnExactSureOk'. -/
def fnExactSureOkCard : Claim7 := { stood := { row := fnExactSureOkRow, standIns := [], harness := (true, "243e751c8412cb331bde1c82a3d13c91130e7d6c49c2a23d4d0ba07df11f4b7e"), looks := false }, kinds := [], alts := [], laidByText := true, laidKinds := [.data, .pinned], laidTests := true, laidLooks := .later }
def FnExactSureOkCardSaid : Prop := Claim7.holds Tryd.pinned (.plain (OpenSpec.ofChange fnExactSureOkSpec)) fnExactSureOkCard

/-- THE TIED CARD OF 'laws.FnExactSurePut'. -/
def fnExactSurePutCard : Claim7 := { stood := { row := fnExactSurePutRow, standIns := [], harness := (true, "243e751c8412cb331bde1c82a3d13c91130e7d6c49c2a23d4d0ba07df11f4b7e"), looks := false }, kinds := [], alts := [], laidByText := true, laidKinds := [.data, .pinned], laidTests := true, laidLooks := .later }
def FnExactSurePutCardSaid : Prop := Claim7.holds Tryd.pinned (.plain (OpenSpec.ofChange fnExactSurePutSpec)) fnExactSurePutCard

/-- THE SECOND FORM's CARD OF 'laws.FnExactSureOk'. -/
def fnExactSureOkUptoCard : Claim7 := { stood := { row := fnExactSureOkUptoRow, standIns := [], harness := (true, "243e751c8412cb331bde1c82a3d13c91130e7d6c49c2a23d4d0ba07df11f4b7e"), looks := false }, kinds := [], alts := [], laidByText := true, laidKinds := [.data, .pinned], laidTests := true, laidLooks := .later }
def FnExactSureOkUptoCardSaid : Prop := Claim7.holds Tryd.pinned (.plain (OpenSpec.upto fnExactSureOkSpec)) fnExactSureOkUptoCard

/-- THE SECOND FORM's CARD OF 'laws.FnExactSurePut'. -/
def fnExactSurePutUptoCard : Claim7 := { stood := { row := fnExactSurePutUptoRow, standIns := [], harness := (true, "243e751c8412cb331bde1c82a3d13c91130e7d6c49c2a23d4d0ba07df11f4b7e"), looks := false }, kinds := [], alts := [], laidByText := true, laidKinds := [.data, .pinned], laidTests := true, laidLooks := .later }
def FnExactSurePutUptoCardSaid : Prop := Claim7.holds Tryd.pinned (.plain (OpenSpec.upto fnExactSurePutSpec)) fnExactSurePutUptoCard
end Rows
end Go.Proofs.YtbogjajfbchdjaaDoor
