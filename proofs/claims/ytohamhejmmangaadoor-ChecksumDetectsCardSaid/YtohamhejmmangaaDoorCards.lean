/-
  DERIVED. GIVEN WITH THE SEED: THE CARDS: each row of YtohamhejmmangaaDoorRows.lean that lists a variable, with what it lists TIED to the program's text (the seventh form; the later family's looks); each row that meets fmt, with fmt's text TOLD by the authors' own Lean function (tested against real Go, not proved from fmt's source: count such statements apart). THE CARD IS WHAT COUNTS. Prove the row's statement (the work); the ties are given (YtohamhejmmangaaDoorTie.lean); close each card by the builder's one call (the guide's Derived/Test/ToyasCard.lean, 'card_holds'). Laid BY PROGRAM, IN A SANDBOX (cutbox-door.mjs). By AI agents, Wed Nov 11 2026. No macro, syntax, notation, axiom, sorry.
-/
import Derived.Test.YtohamhejmmangaaDoorRows
import GoSem.ClaimSeven
namespace Go.Proofs.YtohamhejmmangaaDoor
namespace Rows

/-- THE TIED CARD OF 'saleroomlaw03.ChecksumCRC'. -/
def checksumCRCCard : Claim7 := { stood := { row := checksumCRCRow, standIns := [], harness := (true, "db1b3cdf82543421022c3d6352d3ef8d9118555bc0b2b0c287f7f5af7f4a388b"), looks := false }, kinds := [], alts := [], laidByText := true, laidKinds := [.data], laidTests := true, laidLooks := .later }
def ChecksumCRCCardSaid : Prop := Claim7.holds Tryd.pinned (.plain (OpenSpec.ofChange checksumCRCSpec)) checksumCRCCard

/-- THE TIED CARD OF 'saleroomlaw03.ChecksumUpdates'. -/
def checksumUpdatesCard : Claim7 := { stood := { row := checksumUpdatesRow, standIns := [], harness := (true, "db1b3cdf82543421022c3d6352d3ef8d9118555bc0b2b0c287f7f5af7f4a388b"), looks := false }, kinds := [], alts := [], laidByText := true, laidKinds := [.data], laidTests := true, laidLooks := .later }
def ChecksumUpdatesCardSaid : Prop := Claim7.holds Tryd.pinned (.plain (OpenSpec.ofChange checksumUpdatesSpec)) checksumUpdatesCard

/-- THE TIED CARD OF 'saleroomlaw03.ChecksumHashes'. -/
def checksumHashesCard : Claim7 := { stood := { row := checksumHashesRow, standIns := [], harness := (true, "db1b3cdf82543421022c3d6352d3ef8d9118555bc0b2b0c287f7f5af7f4a388b"), looks := false }, kinds := [], alts := [], laidByText := true, laidKinds := [.data], laidTests := true, laidLooks := .later }
def ChecksumHashesCardSaid : Prop := Claim7.holds Tryd.pinned (.plain (OpenSpec.ofChange checksumHashesSpec)) checksumHashesCard

/-- THE TIED CARD OF 'saleroomlaw03.ChecksumSeals'. -/
def checksumSealsCard : Claim7 := { stood := { row := checksumSealsRow, standIns := [], harness := (true, "db1b3cdf82543421022c3d6352d3ef8d9118555bc0b2b0c287f7f5af7f4a388b"), looks := false }, kinds := [], alts := [], laidByText := true, laidKinds := [.data], laidTests := true, laidLooks := .later }
def ChecksumSealsCardSaid : Prop := Claim7.holds Tryd.pinned (.plain (OpenSpec.ofChange checksumSealsSpec)) checksumSealsCard

/-- THE TIED CARD OF 'saleroomlaw03.ChecksumDetects'. -/
def checksumDetectsCard : Claim7 := { stood := { row := checksumDetectsRow, standIns := [], harness := (true, "db1b3cdf82543421022c3d6352d3ef8d9118555bc0b2b0c287f7f5af7f4a388b"), looks := false }, kinds := [], alts := [], laidByText := true, laidKinds := [.data], laidTests := true, laidLooks := .later }
def ChecksumDetectsCardSaid : Prop := Claim7.holds Tryd.pinned (.plain (OpenSpec.ofChange checksumDetectsSpec)) checksumDetectsCard

/-- THE TIED CARD OF 'saleroomlaw03.ChecksumHex'. -/
def checksumHexCard : Claim7 := { stood := { row := checksumHexRow, standIns := [], harness := (true, "db1b3cdf82543421022c3d6352d3ef8d9118555bc0b2b0c287f7f5af7f4a388b"), looks := false }, kinds := [], alts := [], laidByText := true, laidKinds := [.data], laidTests := true, laidLooks := .later }
def ChecksumHexCardSaid : Prop := Claim7.holds Tryd.pinned (.plain (OpenSpec.ofChange checksumHexSpec)) checksumHexCard

/-- THE TIED CARD OF 'saleroomlaw03.ChecksumChains'. -/
def checksumChainsCard : Claim7 := { stood := { row := checksumChainsRow, standIns := [], harness := (true, "db1b3cdf82543421022c3d6352d3ef8d9118555bc0b2b0c287f7f5af7f4a388b"), looks := false }, kinds := [], alts := [], laidByText := true, laidKinds := [.data], laidTests := true, laidLooks := .later }
def ChecksumChainsCardSaid : Prop := Claim7.holds Tryd.pinned (.plain (OpenSpec.ofChange checksumChainsSpec)) checksumChainsCard

/-- THE SECOND FORM's CARD OF 'saleroomlaw03.ChecksumCRC'. -/
def checksumCRCUptoCard : Claim7 := { stood := { row := checksumCRCUptoRow, standIns := [], harness := (true, "db1b3cdf82543421022c3d6352d3ef8d9118555bc0b2b0c287f7f5af7f4a388b"), looks := false }, kinds := [], alts := [], laidByText := true, laidKinds := [.data], laidTests := true, laidLooks := .later }
def ChecksumCRCUptoCardSaid : Prop := Claim7.holds Tryd.pinned (.plain (OpenSpec.upto checksumCRCSpec)) checksumCRCUptoCard

/-- THE SECOND FORM's CARD OF 'saleroomlaw03.ChecksumUpdates'. -/
def checksumUpdatesUptoCard : Claim7 := { stood := { row := checksumUpdatesUptoRow, standIns := [], harness := (true, "db1b3cdf82543421022c3d6352d3ef8d9118555bc0b2b0c287f7f5af7f4a388b"), looks := false }, kinds := [], alts := [], laidByText := true, laidKinds := [.data], laidTests := true, laidLooks := .later }
def ChecksumUpdatesUptoCardSaid : Prop := Claim7.holds Tryd.pinned (.plain (OpenSpec.upto checksumUpdatesSpec)) checksumUpdatesUptoCard

/-- THE SECOND FORM's CARD OF 'saleroomlaw03.ChecksumHashes'. -/
def checksumHashesUptoCard : Claim7 := { stood := { row := checksumHashesUptoRow, standIns := [], harness := (true, "db1b3cdf82543421022c3d6352d3ef8d9118555bc0b2b0c287f7f5af7f4a388b"), looks := false }, kinds := [], alts := [], laidByText := true, laidKinds := [.data], laidTests := true, laidLooks := .later }
def ChecksumHashesUptoCardSaid : Prop := Claim7.holds Tryd.pinned (.plain (OpenSpec.upto checksumHashesSpec)) checksumHashesUptoCard

/-- THE SECOND FORM's CARD OF 'saleroomlaw03.ChecksumSeals'. -/
def checksumSealsUptoCard : Claim7 := { stood := { row := checksumSealsUptoRow, standIns := [], harness := (true, "db1b3cdf82543421022c3d6352d3ef8d9118555bc0b2b0c287f7f5af7f4a388b"), looks := false }, kinds := [], alts := [], laidByText := true, laidKinds := [.data], laidTests := true, laidLooks := .later }
def ChecksumSealsUptoCardSaid : Prop := Claim7.holds Tryd.pinned (.plain (OpenSpec.upto checksumSealsSpec)) checksumSealsUptoCard

/-- THE SECOND FORM's CARD OF 'saleroomlaw03.ChecksumDetects'. -/
def checksumDetectsUptoCard : Claim7 := { stood := { row := checksumDetectsUptoRow, standIns := [], harness := (true, "db1b3cdf82543421022c3d6352d3ef8d9118555bc0b2b0c287f7f5af7f4a388b"), looks := false }, kinds := [], alts := [], laidByText := true, laidKinds := [.data], laidTests := true, laidLooks := .later }
def ChecksumDetectsUptoCardSaid : Prop := Claim7.holds Tryd.pinned (.plain (OpenSpec.upto checksumDetectsSpec)) checksumDetectsUptoCard

/-- THE SECOND FORM's CARD OF 'saleroomlaw03.ChecksumHex'. -/
def checksumHexUptoCard : Claim7 := { stood := { row := checksumHexUptoRow, standIns := [], harness := (true, "db1b3cdf82543421022c3d6352d3ef8d9118555bc0b2b0c287f7f5af7f4a388b"), looks := false }, kinds := [], alts := [], laidByText := true, laidKinds := [.data], laidTests := true, laidLooks := .later }
def ChecksumHexUptoCardSaid : Prop := Claim7.holds Tryd.pinned (.plain (OpenSpec.upto checksumHexSpec)) checksumHexUptoCard

/-- THE SECOND FORM's CARD OF 'saleroomlaw03.ChecksumChains'. -/
def checksumChainsUptoCard : Claim7 := { stood := { row := checksumChainsUptoRow, standIns := [], harness := (true, "db1b3cdf82543421022c3d6352d3ef8d9118555bc0b2b0c287f7f5af7f4a388b"), looks := false }, kinds := [], alts := [], laidByText := true, laidKinds := [.data], laidTests := true, laidLooks := .later }
def ChecksumChainsUptoCardSaid : Prop := Claim7.holds Tryd.pinned (.plain (OpenSpec.upto checksumChainsSpec)) checksumChainsUptoCard
end Rows
end Go.Proofs.YtohamhejmmangaaDoor
