/-
  DERIVED. GIVEN WITH THE SEED: THE CARDS: each row of YticbekooadnnlaaGreatDoorRows.lean that lists a variable, with what it lists TIED to the program's text (the seventh form; the later family's looks); each row that meets fmt, with fmt's text TOLD by the authors' own Lean function (tested against real Go, not proved from fmt's source: count such statements apart). THE CARD IS WHAT COUNTS. Prove the row's statement (the work); the ties are given (YticbekooadnnlaaGreatDoorTie.lean); close each card by the builder's one call (the guide's Derived/Test/ToyasCard.lean, 'card_holds'). Laid BY PROGRAM, IN A SANDBOX (cutbox-door.mjs). By AI agents, Wed Nov 11 2026. No macro, syntax, notation, axiom, sorry.
-/
import Derived.Test.YticbekooadnnlaaGreatDoorRows
import GoSem.ClaimSeven
namespace Go.Proofs.YticbekooadnnlaaGreatDoor
namespace Rows

/-- THE TIED CARD OF 'laws.FnUrlText'. -/
def fnUrlTextCard : Claim7 := { stood := { row := fnUrlTextRow, standIns := [], harness := (true, "a6f29b4d93c3bc8714d835377949a96c9358bef46ad99f6c67d103b8ad6ffdca"), looks := true }, kinds := [], alts := [], laidByText := true, laidKinds := [.data, .data, .data, .data, .sentinel, .pinned], laidTests := true, laidLooks := .later }
def FnUrlTextCardSaid : Prop := Claim7.holds Tryz.pinned (.plain (OpenSpec.ofChange fnUrlTextSpec)) fnUrlTextCard

/-- THE TIED CARD OF 'laws.FnUrlSpace'. -/
def fnUrlSpaceCard : Claim7 := { stood := { row := fnUrlSpaceRow, standIns := [], harness := (true, "a6f29b4d93c3bc8714d835377949a96c9358bef46ad99f6c67d103b8ad6ffdca"), looks := true }, kinds := [], alts := [], laidByText := true, laidKinds := [.data, .data, .data, .data, .sentinel, .pinned], laidTests := true, laidLooks := .later }
def FnUrlSpaceCardSaid : Prop := Claim7.holds Tryz.pinned (.plain (OpenSpec.ofChange fnUrlSpaceSpec)) fnUrlSpaceCard

/-- THE TIED CARD OF 'laws.FnUrlBase'. -/
def fnUrlBaseCard : Claim7 := { stood := { row := fnUrlBaseRow, standIns := [], harness := (true, "a6f29b4d93c3bc8714d835377949a96c9358bef46ad99f6c67d103b8ad6ffdca"), looks := true }, kinds := [], alts := [], laidByText := true, laidKinds := [.data, .data, .data, .data, .sentinel, .pinned], laidTests := true, laidLooks := .later }
def FnUrlBaseCardSaid : Prop := Claim7.holds Tryz.pinned (.plain (OpenSpec.ofChange fnUrlBaseSpec)) fnUrlBaseCard

/-- THE TIED CARD OF 'laws.FnUrlSame'. -/
def fnUrlSameCard : Claim7 := { stood := { row := fnUrlSameRow, standIns := [], harness := (true, "a6f29b4d93c3bc8714d835377949a96c9358bef46ad99f6c67d103b8ad6ffdca"), looks := true }, kinds := [], alts := [], laidByText := true, laidKinds := [.data, .data, .data, .data, .sentinel, .pinned], laidTests := true, laidLooks := .later }
def FnUrlSameCardSaid : Prop := Claim7.holds Tryz.pinned (.plain (OpenSpec.ofChange fnUrlSameSpec)) fnUrlSameCard

/-- THE TIED CARD OF 'laws.FnPortOf'. -/
def fnPortOfCard : Claim7 := { stood := { row := fnPortOfRow, standIns := [], harness := (true, "a6f29b4d93c3bc8714d835377949a96c9358bef46ad99f6c67d103b8ad6ffdca"), looks := true }, kinds := [], alts := [], laidByText := true, laidKinds := [.data, .data, .data, .data, .sentinel, .pinned], laidTests := true, laidLooks := .later }
def FnPortOfCardSaid : Prop := Claim7.holds Tryz.pinned (.plain (OpenSpec.ofChange fnPortOfSpec)) fnPortOfCard

/-- THE TIED CARD OF 'laws.FnUrlCase'. -/
def fnUrlCaseCard : Claim7 := { stood := { row := fnUrlCaseRow, standIns := [], harness := (true, "a6f29b4d93c3bc8714d835377949a96c9358bef46ad99f6c67d103b8ad6ffdca"), looks := true }, kinds := [], alts := [], laidByText := true, laidKinds := [.data, .data, .data, .data, .sentinel, .pinned], laidTests := true, laidLooks := .later }
def FnUrlCaseCardSaid : Prop := Claim7.holds Tryz.pinned (.plain (OpenSpec.ofChange fnUrlCaseSpec)) fnUrlCaseCard

/-- THE SECOND FORM's CARD OF 'laws.FnUrlText'. -/
def fnUrlTextUptoCard : Claim7 := { stood := { row := fnUrlTextUptoRow, standIns := [], harness := (true, "a6f29b4d93c3bc8714d835377949a96c9358bef46ad99f6c67d103b8ad6ffdca"), looks := true }, kinds := [], alts := [], laidByText := true, laidKinds := [.data, .data, .data, .data, .sentinel, .pinned], laidTests := true, laidLooks := .later }
def FnUrlTextUptoCardSaid : Prop := Claim7.holds Tryz.pinned (.plain (OpenSpec.upto fnUrlTextSpec)) fnUrlTextUptoCard

/-- THE SECOND FORM's CARD OF 'laws.FnUrlSpace'. -/
def fnUrlSpaceUptoCard : Claim7 := { stood := { row := fnUrlSpaceUptoRow, standIns := [], harness := (true, "a6f29b4d93c3bc8714d835377949a96c9358bef46ad99f6c67d103b8ad6ffdca"), looks := true }, kinds := [], alts := [], laidByText := true, laidKinds := [.data, .data, .data, .data, .sentinel, .pinned], laidTests := true, laidLooks := .later }
def FnUrlSpaceUptoCardSaid : Prop := Claim7.holds Tryz.pinned (.plain (OpenSpec.upto fnUrlSpaceSpec)) fnUrlSpaceUptoCard

/-- THE SECOND FORM's CARD OF 'laws.FnUrlBase'. -/
def fnUrlBaseUptoCard : Claim7 := { stood := { row := fnUrlBaseUptoRow, standIns := [], harness := (true, "a6f29b4d93c3bc8714d835377949a96c9358bef46ad99f6c67d103b8ad6ffdca"), looks := true }, kinds := [], alts := [], laidByText := true, laidKinds := [.data, .data, .data, .data, .sentinel, .pinned], laidTests := true, laidLooks := .later }
def FnUrlBaseUptoCardSaid : Prop := Claim7.holds Tryz.pinned (.plain (OpenSpec.upto fnUrlBaseSpec)) fnUrlBaseUptoCard

/-- THE SECOND FORM's CARD OF 'laws.FnUrlSame'. -/
def fnUrlSameUptoCard : Claim7 := { stood := { row := fnUrlSameUptoRow, standIns := [], harness := (true, "a6f29b4d93c3bc8714d835377949a96c9358bef46ad99f6c67d103b8ad6ffdca"), looks := true }, kinds := [], alts := [], laidByText := true, laidKinds := [.data, .data, .data, .data, .sentinel, .pinned], laidTests := true, laidLooks := .later }
def FnUrlSameUptoCardSaid : Prop := Claim7.holds Tryz.pinned (.plain (OpenSpec.upto fnUrlSameSpec)) fnUrlSameUptoCard

/-- THE SECOND FORM's CARD OF 'laws.FnPortOf'. -/
def fnPortOfUptoCard : Claim7 := { stood := { row := fnPortOfUptoRow, standIns := [], harness := (true, "a6f29b4d93c3bc8714d835377949a96c9358bef46ad99f6c67d103b8ad6ffdca"), looks := true }, kinds := [], alts := [], laidByText := true, laidKinds := [.data, .data, .data, .data, .sentinel, .pinned], laidTests := true, laidLooks := .later }
def FnPortOfUptoCardSaid : Prop := Claim7.holds Tryz.pinned (.plain (OpenSpec.upto fnPortOfSpec)) fnPortOfUptoCard

/-- THE SECOND FORM's CARD OF 'laws.FnUrlCase'. -/
def fnUrlCaseUptoCard : Claim7 := { stood := { row := fnUrlCaseUptoRow, standIns := [], harness := (true, "a6f29b4d93c3bc8714d835377949a96c9358bef46ad99f6c67d103b8ad6ffdca"), looks := true }, kinds := [], alts := [], laidByText := true, laidKinds := [.data, .data, .data, .data, .sentinel, .pinned], laidTests := true, laidLooks := .later }
def FnUrlCaseUptoCardSaid : Prop := Claim7.holds Tryz.pinned (.plain (OpenSpec.upto fnUrlCaseSpec)) fnUrlCaseUptoCard
end Rows
end Go.Proofs.YticbekooadnnlaaGreatDoor
