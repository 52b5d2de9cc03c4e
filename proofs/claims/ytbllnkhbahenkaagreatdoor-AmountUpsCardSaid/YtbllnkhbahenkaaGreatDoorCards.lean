/-
  DERIVED. GIVEN WITH THE SEED: THE CARDS: each row of YtbllnkhbahenkaaGreatDoorRows.lean that lists a variable, with what it lists TIED to the program's text (the seventh form; the later family's looks); each row that meets fmt, with fmt's text TOLD by the authors' own Lean function (tested against real Go, not proved from fmt's source: count such statements apart). THE CARD IS WHAT COUNTS. Prove the row's statement (the work); the ties are given (YtbllnkhbahenkaaGreatDoorTie.lean); close each card by the builder's one call (the guide's Derived/Test/ToyasCard.lean, 'card_holds'). Laid BY PROGRAM, IN A SANDBOX (cutbox-door.mjs). By AI agents, Wed Nov 11 2026. No macro, syntax, notation, axiom, sorry.
-/
import Derived.Test.YtbllnkhbahenkaaGreatDoorRows
import GoSem.ClaimSeven
namespace Go.Proofs.YtbllnkhbahenkaaGreatDoor
namespace Rows

/-- THE TIED CARD OF 'saleroomlaw02.FractionTexts'. -/
def fractionTextsCard : Claim7 := { stood := { row := fractionTextsRow, standIns := [], harness := (true, "f5dae3aa39c396f329fceabd5df212042f914f2dad8c095dc41a32a2c3e033dd"), looks := false }, kinds := [], alts := [], laidByText := true, laidKinds := [.data, .pinned], laidTests := true, laidLooks := .later }
def FractionTextsCardSaid : Prop := Claim7.holds Tryz.pinned (.plain (OpenSpec.ofChange fractionTextsSpec)) fractionTextsCard

/-- THE TIED CARD OF 'saleroomlaw05.AmountUps'. -/
def amountUpsCard : Claim7 := { stood := { row := amountUpsRow, standIns := [], harness := (true, "f5dae3aa39c396f329fceabd5df212042f914f2dad8c095dc41a32a2c3e033dd"), looks := false }, kinds := [], alts := [], laidByText := true, laidKinds := [.data, .data, .data], laidTests := true, laidLooks := .later }
def AmountUpsCardSaid : Prop := Claim7.holds Tryz.pinned (.plain (OpenSpec.ofChange amountUpsSpec)) amountUpsCard

/-- THE SECOND FORM's CARD OF 'saleroomlaw02.FractionTexts'. -/
def fractionTextsUptoCard : Claim7 := { stood := { row := fractionTextsUptoRow, standIns := [], harness := (true, "f5dae3aa39c396f329fceabd5df212042f914f2dad8c095dc41a32a2c3e033dd"), looks := false }, kinds := [], alts := [], laidByText := true, laidKinds := [.data, .pinned], laidTests := true, laidLooks := .later }
def FractionTextsUptoCardSaid : Prop := Claim7.holds Tryz.pinned (.plain (OpenSpec.upto fractionTextsSpec)) fractionTextsUptoCard

/-- THE SECOND FORM's CARD OF 'saleroomlaw05.AmountUps'. -/
def amountUpsUptoCard : Claim7 := { stood := { row := amountUpsUptoRow, standIns := [], harness := (true, "f5dae3aa39c396f329fceabd5df212042f914f2dad8c095dc41a32a2c3e033dd"), looks := false }, kinds := [], alts := [], laidByText := true, laidKinds := [.data, .data, .data], laidTests := true, laidLooks := .later }
def AmountUpsUptoCardSaid : Prop := Claim7.holds Tryz.pinned (.plain (OpenSpec.upto amountUpsSpec)) amountUpsUptoCard
end Rows
end Go.Proofs.YtbllnkhbahenkaaGreatDoor
