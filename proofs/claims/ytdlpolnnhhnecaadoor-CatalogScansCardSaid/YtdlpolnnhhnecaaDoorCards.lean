/-
  DERIVED. GIVEN WITH THE SEED: THE CARDS: each row of YtdlpolnnhhnecaaDoorRows.lean that lists a variable, with what it lists TIED to the program's text (the seventh form; the later family's looks); each row that meets fmt, with fmt's text TOLD by the authors' own Lean function (tested against real Go, not proved from fmt's source: count such statements apart). THE CARD IS WHAT COUNTS. Prove the row's statement (the work); the ties are given (YtdlpolnnhhnecaaDoorTie.lean); close each card by the builder's one call (the guide's Derived/Test/ToyasCard.lean, 'card_holds'). Laid BY PROGRAM, IN A SANDBOX (cutbox-door.mjs). By AI agents, Wed Nov 11 2026. No macro, syntax, notation, axiom, sorry.
-/
import Derived.Test.YtdlpolnnhhnecaaDoorRows
import GoSem.ClaimSeven
namespace Go.Proofs.YtdlpolnnhhnecaaDoor
namespace Rows

/-- THE TIED CARD OF 'saleroomlaw08.CatalogChecks'. -/
def catalogChecksCard : Claim7 := { stood := { row := catalogChecksRow, standIns := [], harness := (true, "2478a3a17a7ed0dc91fe637dc2beabb14384c8a70cb0e541231001e9eca70f80"), looks := false }, kinds := [], alts := [], laidByText := true, laidKinds := [.data, .data, .data], laidTests := true, laidLooks := .later }
def CatalogChecksCardSaid : Prop := Claim7.holds Tryd.pinned (.plain (OpenSpec.ofChange catalogChecksSpec)) catalogChecksCard

/-- THE TIED CARD OF 'saleroomlaw08.CatalogSums'. -/
def catalogSumsCard : Claim7 := { stood := { row := catalogSumsRow, standIns := [], harness := (true, "2478a3a17a7ed0dc91fe637dc2beabb14384c8a70cb0e541231001e9eca70f80"), looks := false }, kinds := [], alts := [], laidByText := true, laidKinds := [.data, .data, .data], laidTests := true, laidLooks := .later }
def CatalogSumsCardSaid : Prop := Claim7.holds Tryd.pinned (.plain (OpenSpec.ofChange catalogSumsSpec)) catalogSumsCard

/-- THE TIED CARD OF 'saleroomlaw08.CatalogAdds'. -/
def catalogAddsCard : Claim7 := { stood := { row := catalogAddsRow, standIns := [], harness := (true, "2478a3a17a7ed0dc91fe637dc2beabb14384c8a70cb0e541231001e9eca70f80"), looks := false }, kinds := [], alts := [], laidByText := true, laidKinds := [.data, .data, .data], laidTests := true, laidLooks := .later }
def CatalogAddsCardSaid : Prop := Claim7.holds Tryd.pinned (.plain (OpenSpec.ofChange catalogAddsSpec)) catalogAddsCard

/-- THE TIED CARD OF 'saleroomlaw08.CatalogFormats'. -/
def catalogFormatsCard : Claim7 := { stood := { row := catalogFormatsRow, standIns := [], harness := (true, "2478a3a17a7ed0dc91fe637dc2beabb14384c8a70cb0e541231001e9eca70f80"), looks := false }, kinds := [], alts := [], laidByText := true, laidKinds := [.data, .data, .data], laidTests := true, laidLooks := .later }
def CatalogFormatsCardSaid : Prop := Claim7.holds Tryd.pinned (.plain (OpenSpec.ofChange catalogFormatsSpec)) catalogFormatsCard

/-- THE TIED CARD OF 'saleroomlaw08.CatalogParses'. -/
def catalogParsesCard : Claim7 := { stood := { row := catalogParsesRow, standIns := [], harness := (true, "2478a3a17a7ed0dc91fe637dc2beabb14384c8a70cb0e541231001e9eca70f80"), looks := false }, kinds := [], alts := [], laidByText := true, laidKinds := [.data, .data, .data], laidTests := true, laidLooks := .later }
def CatalogParsesCardSaid : Prop := Claim7.holds Tryd.pinned (.plain (OpenSpec.ofChange catalogParsesSpec)) catalogParsesCard

/-- THE TIED CARD OF 'saleroomlaw08.CatalogRoundTrip'. -/
def catalogRoundTripCard : Claim7 := { stood := { row := catalogRoundTripRow, standIns := [], harness := (true, "2478a3a17a7ed0dc91fe637dc2beabb14384c8a70cb0e541231001e9eca70f80"), looks := false }, kinds := [], alts := [], laidByText := true, laidKinds := [.data, .data, .data], laidTests := true, laidLooks := .later }
def CatalogRoundTripCardSaid : Prop := Claim7.holds Tryd.pinned (.plain (OpenSpec.ofChange catalogRoundTripSpec)) catalogRoundTripCard

/-- THE TIED CARD OF 'saleroomlaw08.CatalogScans'. -/
def catalogScansCard : Claim7 := { stood := { row := catalogScansRow, standIns := [], harness := (true, "2478a3a17a7ed0dc91fe637dc2beabb14384c8a70cb0e541231001e9eca70f80"), looks := false }, kinds := [], alts := [], laidByText := true, laidKinds := [.data, .data, .data], laidTests := true, laidLooks := .later }
def CatalogScansCardSaid : Prop := Claim7.holds Tryd.pinned (.plain (OpenSpec.ofChange catalogScansSpec)) catalogScansCard

/-- THE SECOND FORM's CARD OF 'saleroomlaw08.CatalogChecks'. -/
def catalogChecksUptoCard : Claim7 := { stood := { row := catalogChecksUptoRow, standIns := [], harness := (true, "2478a3a17a7ed0dc91fe637dc2beabb14384c8a70cb0e541231001e9eca70f80"), looks := false }, kinds := [], alts := [], laidByText := true, laidKinds := [.data, .data, .data], laidTests := true, laidLooks := .later }
def CatalogChecksUptoCardSaid : Prop := Claim7.holds Tryd.pinned (.plain (OpenSpec.upto catalogChecksSpec)) catalogChecksUptoCard

/-- THE SECOND FORM's CARD OF 'saleroomlaw08.CatalogSums'. -/
def catalogSumsUptoCard : Claim7 := { stood := { row := catalogSumsUptoRow, standIns := [], harness := (true, "2478a3a17a7ed0dc91fe637dc2beabb14384c8a70cb0e541231001e9eca70f80"), looks := false }, kinds := [], alts := [], laidByText := true, laidKinds := [.data, .data, .data], laidTests := true, laidLooks := .later }
def CatalogSumsUptoCardSaid : Prop := Claim7.holds Tryd.pinned (.plain (OpenSpec.upto catalogSumsSpec)) catalogSumsUptoCard

/-- THE SECOND FORM's CARD OF 'saleroomlaw08.CatalogAdds'. -/
def catalogAddsUptoCard : Claim7 := { stood := { row := catalogAddsUptoRow, standIns := [], harness := (true, "2478a3a17a7ed0dc91fe637dc2beabb14384c8a70cb0e541231001e9eca70f80"), looks := false }, kinds := [], alts := [], laidByText := true, laidKinds := [.data, .data, .data], laidTests := true, laidLooks := .later }
def CatalogAddsUptoCardSaid : Prop := Claim7.holds Tryd.pinned (.plain (OpenSpec.upto catalogAddsSpec)) catalogAddsUptoCard

/-- THE SECOND FORM's CARD OF 'saleroomlaw08.CatalogFormats'. -/
def catalogFormatsUptoCard : Claim7 := { stood := { row := catalogFormatsUptoRow, standIns := [], harness := (true, "2478a3a17a7ed0dc91fe637dc2beabb14384c8a70cb0e541231001e9eca70f80"), looks := false }, kinds := [], alts := [], laidByText := true, laidKinds := [.data, .data, .data], laidTests := true, laidLooks := .later }
def CatalogFormatsUptoCardSaid : Prop := Claim7.holds Tryd.pinned (.plain (OpenSpec.upto catalogFormatsSpec)) catalogFormatsUptoCard

/-- THE SECOND FORM's CARD OF 'saleroomlaw08.CatalogParses'. -/
def catalogParsesUptoCard : Claim7 := { stood := { row := catalogParsesUptoRow, standIns := [], harness := (true, "2478a3a17a7ed0dc91fe637dc2beabb14384c8a70cb0e541231001e9eca70f80"), looks := false }, kinds := [], alts := [], laidByText := true, laidKinds := [.data, .data, .data], laidTests := true, laidLooks := .later }
def CatalogParsesUptoCardSaid : Prop := Claim7.holds Tryd.pinned (.plain (OpenSpec.upto catalogParsesSpec)) catalogParsesUptoCard

/-- THE SECOND FORM's CARD OF 'saleroomlaw08.CatalogRoundTrip'. -/
def catalogRoundTripUptoCard : Claim7 := { stood := { row := catalogRoundTripUptoRow, standIns := [], harness := (true, "2478a3a17a7ed0dc91fe637dc2beabb14384c8a70cb0e541231001e9eca70f80"), looks := false }, kinds := [], alts := [], laidByText := true, laidKinds := [.data, .data, .data], laidTests := true, laidLooks := .later }
def CatalogRoundTripUptoCardSaid : Prop := Claim7.holds Tryd.pinned (.plain (OpenSpec.upto catalogRoundTripSpec)) catalogRoundTripUptoCard

/-- THE SECOND FORM's CARD OF 'saleroomlaw08.CatalogScans'. -/
def catalogScansUptoCard : Claim7 := { stood := { row := catalogScansUptoRow, standIns := [], harness := (true, "2478a3a17a7ed0dc91fe637dc2beabb14384c8a70cb0e541231001e9eca70f80"), looks := false }, kinds := [], alts := [], laidByText := true, laidKinds := [.data, .data, .data], laidTests := true, laidLooks := .later }
def CatalogScansUptoCardSaid : Prop := Claim7.holds Tryd.pinned (.plain (OpenSpec.upto catalogScansSpec)) catalogScansUptoCard
end Rows
end Go.Proofs.YtdlpolnnhhnecaaDoor
