/-
  DERIVED. GIVEN WITH THE SEED: THE CARDS: each row of YtcokplikmjegcaaGreatDoorRows.lean that lists a variable, with what it lists TIED to the program's text (the seventh form; the later family's looks); each row that meets fmt, with fmt's text TOLD by the authors' own Lean function (tested against real Go, not proved from fmt's source: count such statements apart). THE CARD IS WHAT COUNTS. Prove the row's statement (the work); the ties are given (YtcokplikmjegcaaGreatDoorTie.lean); close each card by the builder's one call (the guide's Derived/Test/ToyasCard.lean, 'card_holds'). Laid BY PROGRAM, IN A SANDBOX (cutbox-door.mjs). By AI agents, Wed Nov 11 2026. No macro, syntax, notation, axiom, sorry.
-/
import Derived.Test.YtcokplikmjegcaaGreatDoorRows
import GoSem.ClaimSeven
namespace Go.Proofs.YtcokplikmjegcaaGreatDoor
namespace Rows

/-- THE TIED CARD OF 'saleroomlaw12.ExprtextFormats'. -/
def exprtextFormatsCard : Claim7 := { stood := { row := exprtextFormatsRow, standIns := [], harness := (true, "1b0f8de64deae57fda9c6ccbb7a3d7b01fd0f8f5f50324f526bdd67391c7c113"), looks := false }, kinds := [], alts := [], laidByText := true, laidKinds := [.data, .data, .data, .data], laidTests := true, laidLooks := .later }
def ExprtextFormatsCardSaid : Prop := Claim7.holds Tryz.pinned (.plain (OpenSpec.ofChange exprtextFormatsSpec)) exprtextFormatsCard

/-- THE TIED CARD OF 'saleroomlaw12.ExprtextParses'. -/
def exprtextParsesCard : Claim7 := { stood := { row := exprtextParsesRow, standIns := [], harness := (true, "1b0f8de64deae57fda9c6ccbb7a3d7b01fd0f8f5f50324f526bdd67391c7c113"), looks := false }, kinds := [], alts := [], laidByText := true, laidKinds := [.data, .data, .data, .data], laidTests := true, laidLooks := .later }
def ExprtextParsesCardSaid : Prop := Claim7.holds Tryz.pinned (.plain (OpenSpec.ofChange exprtextParsesSpec)) exprtextParsesCard

/-- THE TIED CARD OF 'saleroomlaw12.ExprtextSpaces'. -/
def exprtextSpacesCard : Claim7 := { stood := { row := exprtextSpacesRow, standIns := [], harness := (true, "1b0f8de64deae57fda9c6ccbb7a3d7b01fd0f8f5f50324f526bdd67391c7c113"), looks := false }, kinds := [], alts := [], laidByText := true, laidKinds := [.data, .data, .data, .data], laidTests := true, laidLooks := .later }
def ExprtextSpacesCardSaid : Prop := Claim7.holds Tryz.pinned (.plain (OpenSpec.ofChange exprtextSpacesSpec)) exprtextSpacesCard

/-- THE SECOND FORM's CARD OF 'saleroomlaw12.ExprtextFormats'. -/
def exprtextFormatsUptoCard : Claim7 := { stood := { row := exprtextFormatsUptoRow, standIns := [], harness := (true, "1b0f8de64deae57fda9c6ccbb7a3d7b01fd0f8f5f50324f526bdd67391c7c113"), looks := false }, kinds := [], alts := [], laidByText := true, laidKinds := [.data, .data, .data, .data], laidTests := true, laidLooks := .later }
def ExprtextFormatsUptoCardSaid : Prop := Claim7.holds Tryz.pinned (.plain (OpenSpec.upto exprtextFormatsSpec)) exprtextFormatsUptoCard

/-- THE SECOND FORM's CARD OF 'saleroomlaw12.ExprtextParses'. -/
def exprtextParsesUptoCard : Claim7 := { stood := { row := exprtextParsesUptoRow, standIns := [], harness := (true, "1b0f8de64deae57fda9c6ccbb7a3d7b01fd0f8f5f50324f526bdd67391c7c113"), looks := false }, kinds := [], alts := [], laidByText := true, laidKinds := [.data, .data, .data, .data], laidTests := true, laidLooks := .later }
def ExprtextParsesUptoCardSaid : Prop := Claim7.holds Tryz.pinned (.plain (OpenSpec.upto exprtextParsesSpec)) exprtextParsesUptoCard

/-- THE SECOND FORM's CARD OF 'saleroomlaw12.ExprtextSpaces'. -/
def exprtextSpacesUptoCard : Claim7 := { stood := { row := exprtextSpacesUptoRow, standIns := [], harness := (true, "1b0f8de64deae57fda9c6ccbb7a3d7b01fd0f8f5f50324f526bdd67391c7c113"), looks := false }, kinds := [], alts := [], laidByText := true, laidKinds := [.data, .data, .data, .data], laidTests := true, laidLooks := .later }
def ExprtextSpacesUptoCardSaid : Prop := Claim7.holds Tryz.pinned (.plain (OpenSpec.upto exprtextSpacesSpec)) exprtextSpacesUptoCard
end Rows
end Go.Proofs.YtcokplikmjegcaaGreatDoor
