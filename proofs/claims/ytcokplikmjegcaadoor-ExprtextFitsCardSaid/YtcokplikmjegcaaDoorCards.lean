/-
  DERIVED. GIVEN WITH THE SEED: THE CARDS: each row of YtcokplikmjegcaaDoorRows.lean that lists a variable, with what it lists TIED to the program's text (the seventh form; the later family's looks); each row that meets fmt, with fmt's text TOLD by the authors' own Lean function (tested against real Go, not proved from fmt's source: count such statements apart). THE CARD IS WHAT COUNTS. Prove the row's statement (the work); the ties are given (YtcokplikmjegcaaDoorTie.lean); close each card by the builder's one call (the guide's Derived/Test/ToyasCard.lean, 'card_holds'). Laid BY PROGRAM, IN A SANDBOX (cutbox-door.mjs). By AI agents, Wed Nov 11 2026. No macro, syntax, notation, axiom, sorry.
-/
import Derived.Test.YtcokplikmjegcaaDoorRows
import GoSem.ClaimSeven
namespace Go.Proofs.YtcokplikmjegcaaDoor
namespace Rows

/-- THE TIED CARD OF 'saleroomlaw12.ExprtextRoundTrip'. -/
def exprtextRoundTripCard : Claim7 := { stood := { row := exprtextRoundTripRow, standIns := [], harness := (true, "a968dac6b3cf675cba68608d2719d174a3d50da28c7e4f5c04656015f89e49cc"), looks := false }, kinds := [], alts := [], laidByText := true, laidKinds := [.data, .data, .data, .data], laidTests := true, laidLooks := .later }
def ExprtextRoundTripCardSaid : Prop := Claim7.holds Tryd.pinned (.plain (OpenSpec.ofChange exprtextRoundTripSpec)) exprtextRoundTripCard

/-- THE TIED CARD OF 'saleroomlaw12.ExprtextFits'. -/
def exprtextFitsCard : Claim7 := { stood := { row := exprtextFitsRow, standIns := [], harness := (true, "a968dac6b3cf675cba68608d2719d174a3d50da28c7e4f5c04656015f89e49cc"), looks := false }, kinds := [], alts := [], laidByText := true, laidKinds := [.data, .data, .data, .data], laidTests := true, laidLooks := .later }
def ExprtextFitsCardSaid : Prop := Claim7.holds Tryd.pinned (.plain (OpenSpec.ofChange exprtextFitsSpec)) exprtextFitsCard

/-- THE SECOND FORM's CARD OF 'saleroomlaw12.ExprtextRoundTrip'. -/
def exprtextRoundTripUptoCard : Claim7 := { stood := { row := exprtextRoundTripUptoRow, standIns := [], harness := (true, "a968dac6b3cf675cba68608d2719d174a3d50da28c7e4f5c04656015f89e49cc"), looks := false }, kinds := [], alts := [], laidByText := true, laidKinds := [.data, .data, .data, .data], laidTests := true, laidLooks := .later }
def ExprtextRoundTripUptoCardSaid : Prop := Claim7.holds Tryd.pinned (.plain (OpenSpec.upto exprtextRoundTripSpec)) exprtextRoundTripUptoCard

/-- THE SECOND FORM's CARD OF 'saleroomlaw12.ExprtextFits'. -/
def exprtextFitsUptoCard : Claim7 := { stood := { row := exprtextFitsUptoRow, standIns := [], harness := (true, "a968dac6b3cf675cba68608d2719d174a3d50da28c7e4f5c04656015f89e49cc"), looks := false }, kinds := [], alts := [], laidByText := true, laidKinds := [.data, .data, .data, .data], laidTests := true, laidLooks := .later }
def ExprtextFitsUptoCardSaid : Prop := Claim7.holds Tryd.pinned (.plain (OpenSpec.upto exprtextFitsSpec)) exprtextFitsUptoCard
end Rows
end Go.Proofs.YtcokplikmjegcaaDoor
