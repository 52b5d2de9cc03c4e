/-
  DERIVED. GIVEN WITH THE SEED: THE CARDS: each row of YtbjkkiehpfnogaaDoorRows.lean that lists a variable, with what it lists TIED to the program's text (the seventh form; the later family's looks); each row that meets fmt, with fmt's text TOLD by the authors' own Lean function (tested against real Go, not proved from fmt's source: count such statements apart). THE CARD IS WHAT COUNTS. Prove the row's statement (the work); the ties are given (YtbjkkiehpfnogaaDoorTie.lean); close each card by the builder's one call (the guide's Derived/Test/ToyasCard.lean, 'card_holds'). Laid BY PROGRAM, IN A SANDBOX (cutbox-door.mjs). By AI agents, Wed Nov 11 2026. No macro, syntax, notation, axiom, sorry.
-/
import Derived.Test.YtbjkkiehpfnogaaDoorRows
import GoSem.ClaimSeven
namespace Go.Proofs.YtbjkkiehpfnogaaDoor
namespace Rows

/-- THE TIED CARD OF 'saleroomlaw01.NaturalDivides'. -/
def naturalDividesCard : Claim7 := { stood := { row := naturalDividesRow, standIns := [], harness := (true, "2fa0790f8db2009ed40efd6d269d5dabb034f391b2d7ee62fc88d7253cdf5bfe"), looks := false }, kinds := [], alts := [], laidByText := true, laidKinds := [.data, .pinned], laidTests := true, laidLooks := .later }
def NaturalDividesCardSaid : Prop := Claim7.holds Tryd.pinned (.plain (OpenSpec.ofChange naturalDividesSpec)) naturalDividesCard

/-- THE TIED CARD OF 'saleroomlaw01.NaturalAdds'. -/
def naturalAddsCard : Claim7 := { stood := { row := naturalAddsRow, standIns := [], harness := (true, "2fa0790f8db2009ed40efd6d269d5dabb034f391b2d7ee62fc88d7253cdf5bfe"), looks := false }, kinds := [], alts := [], laidByText := true, laidKinds := [.data, .pinned], laidTests := true, laidLooks := .later }
def NaturalAddsCardSaid : Prop := Claim7.holds Tryd.pinned (.plain (OpenSpec.ofChange naturalAddsSpec)) naturalAddsCard

/-- THE TIED CARD OF 'saleroomlaw01.NaturalMultiplies'. -/
def naturalMultipliesCard : Claim7 := { stood := { row := naturalMultipliesRow, standIns := [], harness := (true, "2fa0790f8db2009ed40efd6d269d5dabb034f391b2d7ee62fc88d7253cdf5bfe"), looks := false }, kinds := [], alts := [], laidByText := true, laidKinds := [.data, .pinned], laidTests := true, laidLooks := .later }
def NaturalMultipliesCardSaid : Prop := Claim7.holds Tryd.pinned (.plain (OpenSpec.ofChange naturalMultipliesSpec)) naturalMultipliesCard

/-- THE TIED CARD OF 'saleroomlaw01.NaturalCommons'. -/
def naturalCommonsCard : Claim7 := { stood := { row := naturalCommonsRow, standIns := [], harness := (true, "2fa0790f8db2009ed40efd6d269d5dabb034f391b2d7ee62fc88d7253cdf5bfe"), looks := false }, kinds := [], alts := [], laidByText := true, laidKinds := [.data, .pinned], laidTests := true, laidLooks := .later }
def NaturalCommonsCardSaid : Prop := Claim7.holds Tryd.pinned (.plain (OpenSpec.ofChange naturalCommonsSpec)) naturalCommonsCard

/-- THE TIED CARD OF 'saleroomlaw01.NaturalShows'. -/
def naturalShowsCard : Claim7 := { stood := { row := naturalShowsRow, standIns := [], harness := (true, "2fa0790f8db2009ed40efd6d269d5dabb034f391b2d7ee62fc88d7253cdf5bfe"), looks := false }, kinds := [], alts := [], laidByText := true, laidKinds := [.data, .pinned], laidTests := true, laidLooks := .later }
def NaturalShowsCardSaid : Prop := Claim7.holds Tryd.pinned (.plain (OpenSpec.ofChange naturalShowsSpec)) naturalShowsCard

/-- THE TIED CARD OF 'saleroomlaw01.NaturalParses'. -/
def naturalParsesCard : Claim7 := { stood := { row := naturalParsesRow, standIns := [], harness := (true, "2fa0790f8db2009ed40efd6d269d5dabb034f391b2d7ee62fc88d7253cdf5bfe"), looks := false }, kinds := [], alts := [], laidByText := true, laidKinds := [.data, .pinned], laidTests := true, laidLooks := .later }
def NaturalParsesCardSaid : Prop := Claim7.holds Tryd.pinned (.plain (OpenSpec.ofChange naturalParsesSpec)) naturalParsesCard

/-- THE TIED CARD OF 'saleroomlaw01.NaturalUints'. -/
def naturalUintsCard : Claim7 := { stood := { row := naturalUintsRow, standIns := [], harness := (true, "2fa0790f8db2009ed40efd6d269d5dabb034f391b2d7ee62fc88d7253cdf5bfe"), looks := false }, kinds := [], alts := [], laidByText := true, laidKinds := [.data, .pinned], laidTests := true, laidLooks := .later }
def NaturalUintsCardSaid : Prop := Claim7.holds Tryd.pinned (.plain (OpenSpec.ofChange naturalUintsSpec)) naturalUintsCard

/-- THE TIED CARD OF 'saleroomlaw01.NaturalRing'. -/
def naturalRingCard : Claim7 := { stood := { row := naturalRingRow, standIns := [], harness := (true, "2fa0790f8db2009ed40efd6d269d5dabb034f391b2d7ee62fc88d7253cdf5bfe"), looks := false }, kinds := [], alts := [], laidByText := true, laidKinds := [.data, .pinned], laidTests := true, laidLooks := .later }
def NaturalRingCardSaid : Prop := Claim7.holds Tryd.pinned (.plain (OpenSpec.ofChange naturalRingSpec)) naturalRingCard

/-- THE SECOND FORM's CARD OF 'saleroomlaw01.NaturalDivides'. -/
def naturalDividesUptoCard : Claim7 := { stood := { row := naturalDividesUptoRow, standIns := [], harness := (true, "2fa0790f8db2009ed40efd6d269d5dabb034f391b2d7ee62fc88d7253cdf5bfe"), looks := false }, kinds := [], alts := [], laidByText := true, laidKinds := [.data, .pinned], laidTests := true, laidLooks := .later }
def NaturalDividesUptoCardSaid : Prop := Claim7.holds Tryd.pinned (.plain (OpenSpec.upto naturalDividesSpec)) naturalDividesUptoCard

/-- THE SECOND FORM's CARD OF 'saleroomlaw01.NaturalAdds'. -/
def naturalAddsUptoCard : Claim7 := { stood := { row := naturalAddsUptoRow, standIns := [], harness := (true, "2fa0790f8db2009ed40efd6d269d5dabb034f391b2d7ee62fc88d7253cdf5bfe"), looks := false }, kinds := [], alts := [], laidByText := true, laidKinds := [.data, .pinned], laidTests := true, laidLooks := .later }
def NaturalAddsUptoCardSaid : Prop := Claim7.holds Tryd.pinned (.plain (OpenSpec.upto naturalAddsSpec)) naturalAddsUptoCard

/-- THE SECOND FORM's CARD OF 'saleroomlaw01.NaturalMultiplies'. -/
def naturalMultipliesUptoCard : Claim7 := { stood := { row := naturalMultipliesUptoRow, standIns := [], harness := (true, "2fa0790f8db2009ed40efd6d269d5dabb034f391b2d7ee62fc88d7253cdf5bfe"), looks := false }, kinds := [], alts := [], laidByText := true, laidKinds := [.data, .pinned], laidTests := true, laidLooks := .later }
def NaturalMultipliesUptoCardSaid : Prop := Claim7.holds Tryd.pinned (.plain (OpenSpec.upto naturalMultipliesSpec)) naturalMultipliesUptoCard

/-- THE SECOND FORM's CARD OF 'saleroomlaw01.NaturalCommons'. -/
def naturalCommonsUptoCard : Claim7 := { stood := { row := naturalCommonsUptoRow, standIns := [], harness := (true, "2fa0790f8db2009ed40efd6d269d5dabb034f391b2d7ee62fc88d7253cdf5bfe"), looks := false }, kinds := [], alts := [], laidByText := true, laidKinds := [.data, .pinned], laidTests := true, laidLooks := .later }
def NaturalCommonsUptoCardSaid : Prop := Claim7.holds Tryd.pinned (.plain (OpenSpec.upto naturalCommonsSpec)) naturalCommonsUptoCard

/-- THE SECOND FORM's CARD OF 'saleroomlaw01.NaturalShows'. -/
def naturalShowsUptoCard : Claim7 := { stood := { row := naturalShowsUptoRow, standIns := [], harness := (true, "2fa0790f8db2009ed40efd6d269d5dabb034f391b2d7ee62fc88d7253cdf5bfe"), looks := false }, kinds := [], alts := [], laidByText := true, laidKinds := [.data, .pinned], laidTests := true, laidLooks := .later }
def NaturalShowsUptoCardSaid : Prop := Claim7.holds Tryd.pinned (.plain (OpenSpec.upto naturalShowsSpec)) naturalShowsUptoCard

/-- THE SECOND FORM's CARD OF 'saleroomlaw01.NaturalParses'. -/
def naturalParsesUptoCard : Claim7 := { stood := { row := naturalParsesUptoRow, standIns := [], harness := (true, "2fa0790f8db2009ed40efd6d269d5dabb034f391b2d7ee62fc88d7253cdf5bfe"), looks := false }, kinds := [], alts := [], laidByText := true, laidKinds := [.data, .pinned], laidTests := true, laidLooks := .later }
def NaturalParsesUptoCardSaid : Prop := Claim7.holds Tryd.pinned (.plain (OpenSpec.upto naturalParsesSpec)) naturalParsesUptoCard

/-- THE SECOND FORM's CARD OF 'saleroomlaw01.NaturalUints'. -/
def naturalUintsUptoCard : Claim7 := { stood := { row := naturalUintsUptoRow, standIns := [], harness := (true, "2fa0790f8db2009ed40efd6d269d5dabb034f391b2d7ee62fc88d7253cdf5bfe"), looks := false }, kinds := [], alts := [], laidByText := true, laidKinds := [.data, .pinned], laidTests := true, laidLooks := .later }
def NaturalUintsUptoCardSaid : Prop := Claim7.holds Tryd.pinned (.plain (OpenSpec.upto naturalUintsSpec)) naturalUintsUptoCard

/-- THE SECOND FORM's CARD OF 'saleroomlaw01.NaturalRing'. -/
def naturalRingUptoCard : Claim7 := { stood := { row := naturalRingUptoRow, standIns := [], harness := (true, "2fa0790f8db2009ed40efd6d269d5dabb034f391b2d7ee62fc88d7253cdf5bfe"), looks := false }, kinds := [], alts := [], laidByText := true, laidKinds := [.data, .pinned], laidTests := true, laidLooks := .later }
def NaturalRingUptoCardSaid : Prop := Claim7.holds Tryd.pinned (.plain (OpenSpec.upto naturalRingSpec)) naturalRingUptoCard
end Rows
end Go.Proofs.YtbjkkiehpfnogaaDoor
