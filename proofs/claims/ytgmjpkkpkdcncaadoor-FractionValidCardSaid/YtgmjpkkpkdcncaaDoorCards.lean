/-
  DERIVED. GIVEN WITH THE SEED: THE CARDS: each row of YtgmjpkkpkdcncaaDoorRows.lean that lists a variable, with what it lists TIED to the program's text (the seventh form; the later family's looks); each row that meets fmt, with fmt's text TOLD by the authors' own Lean function (tested against real Go, not proved from fmt's source: count such statements apart). THE CARD IS WHAT COUNTS. Prove the row's statement (the work); the ties are given (YtgmjpkkpkdcncaaDoorTie.lean); close each card by the builder's one call (the guide's Derived/Test/ToyasCard.lean, 'card_holds'). Laid BY PROGRAM, IN A SANDBOX (cutbox-door.mjs). By AI agents, Wed Nov 11 2026. No macro, syntax, notation, axiom, sorry.
-/
import Derived.Test.YtgmjpkkpkdcncaaDoorRows
import GoSem.ClaimSeven
namespace Go.Proofs.YtgmjpkkpkdcncaaDoor
namespace Rows

/-- THE TIED CARD OF 'saleroomlaw01.NaturalDivides'. -/
def naturalDividesCard : Claim7 := { stood := { row := naturalDividesRow, standIns := [], harness := (true, "7e84dac042e9c775a544821e1fe04e6ef65b109bd141ccd1d465040a8a6ffef9"), looks := false }, kinds := [], alts := [], laidByText := true, laidKinds := [.data, .pinned], laidTests := true, laidLooks := .later }
def NaturalDividesCardSaid : Prop := Claim7.holds Tryd.pinned (.plain (OpenSpec.ofChange naturalDividesSpec)) naturalDividesCard

/-- THE TIED CARD OF 'saleroomlaw01.NaturalCommons'. -/
def naturalCommonsCard : Claim7 := { stood := { row := naturalCommonsRow, standIns := [], harness := (true, "7e84dac042e9c775a544821e1fe04e6ef65b109bd141ccd1d465040a8a6ffef9"), looks := false }, kinds := [], alts := [], laidByText := true, laidKinds := [.data, .pinned], laidTests := true, laidLooks := .later }
def NaturalCommonsCardSaid : Prop := Claim7.holds Tryd.pinned (.plain (OpenSpec.ofChange naturalCommonsSpec)) naturalCommonsCard

/-- THE TIED CARD OF 'saleroomlaw01.NaturalShows'. -/
def naturalShowsCard : Claim7 := { stood := { row := naturalShowsRow, standIns := [], harness := (true, "7e84dac042e9c775a544821e1fe04e6ef65b109bd141ccd1d465040a8a6ffef9"), looks := false }, kinds := [], alts := [], laidByText := true, laidKinds := [.data, .pinned], laidTests := true, laidLooks := .later }
def NaturalShowsCardSaid : Prop := Claim7.holds Tryd.pinned (.plain (OpenSpec.ofChange naturalShowsSpec)) naturalShowsCard

/-- THE TIED CARD OF 'saleroomlaw02.FractionValid'. -/
def fractionValidCard : Claim7 := { stood := { row := fractionValidRow, standIns := [], harness := (true, "7e84dac042e9c775a544821e1fe04e6ef65b109bd141ccd1d465040a8a6ffef9"), looks := false }, kinds := [], alts := [], laidByText := true, laidKinds := [.data, .pinned], laidTests := true, laidLooks := .later }
def FractionValidCardSaid : Prop := Claim7.holds Tryd.pinned (.plain (OpenSpec.ofChange fractionValidSpec)) fractionValidCard

/-- THE SECOND FORM's CARD OF 'saleroomlaw01.NaturalDivides'. -/
def naturalDividesUptoCard : Claim7 := { stood := { row := naturalDividesUptoRow, standIns := [], harness := (true, "7e84dac042e9c775a544821e1fe04e6ef65b109bd141ccd1d465040a8a6ffef9"), looks := false }, kinds := [], alts := [], laidByText := true, laidKinds := [.data, .pinned], laidTests := true, laidLooks := .later }
def NaturalDividesUptoCardSaid : Prop := Claim7.holds Tryd.pinned (.plain (OpenSpec.upto naturalDividesSpec)) naturalDividesUptoCard

/-- THE SECOND FORM's CARD OF 'saleroomlaw01.NaturalCommons'. -/
def naturalCommonsUptoCard : Claim7 := { stood := { row := naturalCommonsUptoRow, standIns := [], harness := (true, "7e84dac042e9c775a544821e1fe04e6ef65b109bd141ccd1d465040a8a6ffef9"), looks := false }, kinds := [], alts := [], laidByText := true, laidKinds := [.data, .pinned], laidTests := true, laidLooks := .later }
def NaturalCommonsUptoCardSaid : Prop := Claim7.holds Tryd.pinned (.plain (OpenSpec.upto naturalCommonsSpec)) naturalCommonsUptoCard

/-- THE SECOND FORM's CARD OF 'saleroomlaw01.NaturalShows'. -/
def naturalShowsUptoCard : Claim7 := { stood := { row := naturalShowsUptoRow, standIns := [], harness := (true, "7e84dac042e9c775a544821e1fe04e6ef65b109bd141ccd1d465040a8a6ffef9"), looks := false }, kinds := [], alts := [], laidByText := true, laidKinds := [.data, .pinned], laidTests := true, laidLooks := .later }
def NaturalShowsUptoCardSaid : Prop := Claim7.holds Tryd.pinned (.plain (OpenSpec.upto naturalShowsSpec)) naturalShowsUptoCard

/-- THE SECOND FORM's CARD OF 'saleroomlaw02.FractionValid'. -/
def fractionValidUptoCard : Claim7 := { stood := { row := fractionValidUptoRow, standIns := [], harness := (true, "7e84dac042e9c775a544821e1fe04e6ef65b109bd141ccd1d465040a8a6ffef9"), looks := false }, kinds := [], alts := [], laidByText := true, laidKinds := [.data, .pinned], laidTests := true, laidLooks := .later }
def FractionValidUptoCardSaid : Prop := Claim7.holds Tryd.pinned (.plain (OpenSpec.upto fractionValidSpec)) fractionValidUptoCard
end Rows
end Go.Proofs.YtgmjpkkpkdcncaaDoor
