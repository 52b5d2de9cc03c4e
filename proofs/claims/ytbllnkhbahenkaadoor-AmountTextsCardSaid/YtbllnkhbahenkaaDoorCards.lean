/-
  DERIVED. GIVEN WITH THE SEED: THE CARDS: each row of YtbllnkhbahenkaaDoorRows.lean that lists a variable, with what it lists TIED to the program's text (the seventh form; the later family's looks); each row that meets fmt, with fmt's text TOLD by the authors' own Lean function (tested against real Go, not proved from fmt's source: count such statements apart). THE CARD IS WHAT COUNTS. Prove the row's statement (the work); the ties are given (YtbllnkhbahenkaaDoorTie.lean); close each card by the builder's one call (the guide's Derived/Test/ToyasCard.lean, 'card_holds'). Laid BY PROGRAM, IN A SANDBOX (cutbox-door.mjs). By AI agents, Wed Nov 11 2026. No macro, syntax, notation, axiom, sorry.
-/
import Derived.Test.YtbllnkhbahenkaaDoorRows
import GoSem.ClaimSeven
namespace Go.Proofs.YtbllnkhbahenkaaDoor
namespace Rows

/-- THE TIED CARD OF 'saleroomlaw05.AmountShares'. -/
def amountSharesCard : Claim7 := { stood := { row := amountSharesRow, standIns := [], harness := (true, "5e2b1409c85971a1695f6c8d2643cb30f844a2d19dba547abbb8276f64fcd465"), looks := false }, kinds := [], alts := [], laidByText := true, laidKinds := [.data, .data, .data], laidTests := true, laidLooks := .later }
def AmountSharesCardSaid : Prop := Claim7.holds Tryd.pinned (.plain (OpenSpec.ofChange amountSharesSpec)) amountSharesCard

/-- THE TIED CARD OF 'saleroomlaw05.AmountDivides'. -/
def amountDividesCard : Claim7 := { stood := { row := amountDividesRow, standIns := [], harness := (true, "5e2b1409c85971a1695f6c8d2643cb30f844a2d19dba547abbb8276f64fcd465"), looks := false }, kinds := [], alts := [], laidByText := true, laidKinds := [.data, .data, .data], laidTests := true, laidLooks := .later }
def AmountDividesCardSaid : Prop := Claim7.holds Tryd.pinned (.plain (OpenSpec.ofChange amountDividesSpec)) amountDividesCard

/-- THE TIED CARD OF 'saleroomlaw05.AmountTexts'. -/
def amountTextsCard : Claim7 := { stood := { row := amountTextsRow, standIns := [], harness := (true, "5e2b1409c85971a1695f6c8d2643cb30f844a2d19dba547abbb8276f64fcd465"), looks := false }, kinds := [], alts := [], laidByText := true, laidKinds := [.data, .data, .data], laidTests := true, laidLooks := .later }
def AmountTextsCardSaid : Prop := Claim7.holds Tryd.pinned (.plain (OpenSpec.ofChange amountTextsSpec)) amountTextsCard

/-- THE TIED CARD OF 'saleroomlaw05.AmountChecks'. -/
def amountChecksCard : Claim7 := { stood := { row := amountChecksRow, standIns := [], harness := (true, "5e2b1409c85971a1695f6c8d2643cb30f844a2d19dba547abbb8276f64fcd465"), looks := false }, kinds := [], alts := [], laidByText := true, laidKinds := [.data, .data, .data], laidTests := true, laidLooks := .later }
def AmountChecksCardSaid : Prop := Claim7.holds Tryd.pinned (.plain (OpenSpec.ofChange amountChecksSpec)) amountChecksCard

/-- THE SECOND FORM's CARD OF 'saleroomlaw05.AmountShares'. -/
def amountSharesUptoCard : Claim7 := { stood := { row := amountSharesUptoRow, standIns := [], harness := (true, "5e2b1409c85971a1695f6c8d2643cb30f844a2d19dba547abbb8276f64fcd465"), looks := false }, kinds := [], alts := [], laidByText := true, laidKinds := [.data, .data, .data], laidTests := true, laidLooks := .later }
def AmountSharesUptoCardSaid : Prop := Claim7.holds Tryd.pinned (.plain (OpenSpec.upto amountSharesSpec)) amountSharesUptoCard

/-- THE SECOND FORM's CARD OF 'saleroomlaw05.AmountDivides'. -/
def amountDividesUptoCard : Claim7 := { stood := { row := amountDividesUptoRow, standIns := [], harness := (true, "5e2b1409c85971a1695f6c8d2643cb30f844a2d19dba547abbb8276f64fcd465"), looks := false }, kinds := [], alts := [], laidByText := true, laidKinds := [.data, .data, .data], laidTests := true, laidLooks := .later }
def AmountDividesUptoCardSaid : Prop := Claim7.holds Tryd.pinned (.plain (OpenSpec.upto amountDividesSpec)) amountDividesUptoCard

/-- THE SECOND FORM's CARD OF 'saleroomlaw05.AmountTexts'. -/
def amountTextsUptoCard : Claim7 := { stood := { row := amountTextsUptoRow, standIns := [], harness := (true, "5e2b1409c85971a1695f6c8d2643cb30f844a2d19dba547abbb8276f64fcd465"), looks := false }, kinds := [], alts := [], laidByText := true, laidKinds := [.data, .data, .data], laidTests := true, laidLooks := .later }
def AmountTextsUptoCardSaid : Prop := Claim7.holds Tryd.pinned (.plain (OpenSpec.upto amountTextsSpec)) amountTextsUptoCard

/-- THE SECOND FORM's CARD OF 'saleroomlaw05.AmountChecks'. -/
def amountChecksUptoCard : Claim7 := { stood := { row := amountChecksUptoRow, standIns := [], harness := (true, "5e2b1409c85971a1695f6c8d2643cb30f844a2d19dba547abbb8276f64fcd465"), looks := false }, kinds := [], alts := [], laidByText := true, laidKinds := [.data, .data, .data], laidTests := true, laidLooks := .later }
def AmountChecksUptoCardSaid : Prop := Claim7.holds Tryd.pinned (.plain (OpenSpec.upto amountChecksSpec)) amountChecksUptoCard
end Rows
end Go.Proofs.YtbllnkhbahenkaaDoor
