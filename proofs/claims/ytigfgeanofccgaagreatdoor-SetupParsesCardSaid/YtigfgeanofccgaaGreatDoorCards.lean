/-
  DERIVED. GIVEN WITH THE SEED: THE CARDS: each row of YtigfgeanofccgaaGreatDoorRows.lean that lists a variable, with what it lists TIED to the program's text (the seventh form; the later family's looks); each row that meets fmt, with fmt's text TOLD by the authors' own Lean function (tested against real Go, not proved from fmt's source: count such statements apart). THE CARD IS WHAT COUNTS. Prove the row's statement (the work); the ties are given (YtigfgeanofccgaaGreatDoorTie.lean); close each card by the builder's one call (the guide's Derived/Test/ToyasCard.lean, 'card_holds'). Laid BY PROGRAM, IN A SANDBOX (cutbox-door.mjs). By AI agents, Wed Nov 11 2026. No macro, syntax, notation, axiom, sorry.
-/
import Derived.Test.YtigfgeanofccgaaGreatDoorRows
import GoSem.ClaimSeven
namespace Go.Proofs.YtigfgeanofccgaaGreatDoor
namespace Rows

/-- THE TIED CARD OF 'saleroomlaw10.SetupFormats'. -/
def setupFormatsCard : Claim7 := { stood := { row := setupFormatsRow, standIns := [], harness := (true, "bced32c14c7dfc96e2388aa4e0772ff414ab71aa7d7254855a5e8c6b59fd8e1e"), looks := false }, kinds := [], alts := [], laidByText := true, laidKinds := [.data, .data, .data, .data, .pinned], laidTests := true, laidLooks := .later }
def SetupFormatsCardSaid : Prop := Claim7.holds Tryz.pinned (.plain (OpenSpec.ofChange setupFormatsSpec)) setupFormatsCard

/-- THE TIED CARD OF 'saleroomlaw10.SetupParses'. -/
def setupParsesCard : Claim7 := { stood := { row := setupParsesRow, standIns := [], harness := (true, "bced32c14c7dfc96e2388aa4e0772ff414ab71aa7d7254855a5e8c6b59fd8e1e"), looks := false }, kinds := [], alts := [], laidByText := true, laidKinds := [.data, .data, .data, .data, .pinned], laidTests := true, laidLooks := .later }
def SetupParsesCardSaid : Prop := Claim7.holds Tryz.pinned (.plain (OpenSpec.ofChange setupParsesSpec)) setupParsesCard

/-- THE TIED CARD OF 'saleroomlaw10.SetupRoundTrip'. -/
def setupRoundTripCard : Claim7 := { stood := { row := setupRoundTripRow, standIns := [], harness := (true, "bced32c14c7dfc96e2388aa4e0772ff414ab71aa7d7254855a5e8c6b59fd8e1e"), looks := false }, kinds := [], alts := [], laidByText := true, laidKinds := [.data, .data, .data, .data, .pinned], laidTests := true, laidLooks := .later }
def SetupRoundTripCardSaid : Prop := Claim7.holds Tryz.pinned (.plain (OpenSpec.ofChange setupRoundTripSpec)) setupRoundTripCard

/-- THE SECOND FORM's CARD OF 'saleroomlaw10.SetupFormats'. -/
def setupFormatsUptoCard : Claim7 := { stood := { row := setupFormatsUptoRow, standIns := [], harness := (true, "bced32c14c7dfc96e2388aa4e0772ff414ab71aa7d7254855a5e8c6b59fd8e1e"), looks := false }, kinds := [], alts := [], laidByText := true, laidKinds := [.data, .data, .data, .data, .pinned], laidTests := true, laidLooks := .later }
def SetupFormatsUptoCardSaid : Prop := Claim7.holds Tryz.pinned (.plain (OpenSpec.upto setupFormatsSpec)) setupFormatsUptoCard

/-- THE SECOND FORM's CARD OF 'saleroomlaw10.SetupParses'. -/
def setupParsesUptoCard : Claim7 := { stood := { row := setupParsesUptoRow, standIns := [], harness := (true, "bced32c14c7dfc96e2388aa4e0772ff414ab71aa7d7254855a5e8c6b59fd8e1e"), looks := false }, kinds := [], alts := [], laidByText := true, laidKinds := [.data, .data, .data, .data, .pinned], laidTests := true, laidLooks := .later }
def SetupParsesUptoCardSaid : Prop := Claim7.holds Tryz.pinned (.plain (OpenSpec.upto setupParsesSpec)) setupParsesUptoCard

/-- THE SECOND FORM's CARD OF 'saleroomlaw10.SetupRoundTrip'. -/
def setupRoundTripUptoCard : Claim7 := { stood := { row := setupRoundTripUptoRow, standIns := [], harness := (true, "bced32c14c7dfc96e2388aa4e0772ff414ab71aa7d7254855a5e8c6b59fd8e1e"), looks := false }, kinds := [], alts := [], laidByText := true, laidKinds := [.data, .data, .data, .data, .pinned], laidTests := true, laidLooks := .later }
def SetupRoundTripUptoCardSaid : Prop := Claim7.holds Tryz.pinned (.plain (OpenSpec.upto setupRoundTripSpec)) setupRoundTripUptoCard
end Rows
end Go.Proofs.YtigfgeanofccgaaGreatDoor
