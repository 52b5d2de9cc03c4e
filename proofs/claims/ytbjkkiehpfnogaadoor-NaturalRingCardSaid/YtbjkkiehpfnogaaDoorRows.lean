/-
  NARROWER THAN 'FOR EVERY INPUT', by the rows' own cells (each row's printed sentence says how): NaturalDivides: laid · NaturalAdds: laid · NaturalMultiplies: laid · NaturalCommons: laid · NaturalShows: laid · NaturalParses: laid · NaturalUints: laid · NaturalRing: laid.
  DERIVED. THE GIVEN ROWS OF THIS SEAT. 8 by the template 'for every input the law returns true; each argument reads behind the call as it read before'; 0 by the template 'total and deterministic' (their statements: YtbjkkiehpfnogaaDoorTotals.lean).
  GIVEN WITH THE SEED: the statements are not yours to turn. If you find one false, say at which input.
  Laid BY PROGRAM, IN A SANDBOX (cutbox-rows.mjs): the forced cells as the released guide's own fill.sh prints them over the translation 101aa69926ab9ecb… (all of the seat's roots in one cut). By AI agents, Wed Nov 11 2026. No macro, syntax, notation, axiom, sorry.
-/
import Derived.Test.YtbjkkiehpfnogaaDoorChecked
import GoSem.PinnedTables
import GoSem.Claim
import GoSem.ClaimJoined
import GoSem.ClaimMapViews
import Derived.JoinedTies
import Derived.KernelRfl
namespace Go.Proofs.YtbjkkiehpfnogaaDoor
/- THE CELL 'sum', in the pinned program and in every row, IS THE sha256 OF THE DUMP (.gsa) THAT YtbjkkiehpfnogaaDoorProg.lean LOADS. Nothing in Lean hashes anything: it is a label: what it is worth is what the hold of that sum in a sandbox is worth. -/
noncomputable def Tryd.pinned : Pinned := { name := "ytbjkkiehpfnogaadoor", sum := "101aa69926ab9ecbd590823f5f437fdb0df48ede62ebd778300c8d7615d3d99c", checked := Tryd.checked }
namespace Rows
def none {H : Type} : Left H := { results := [], args := [] }

/- WHAT THE LISTED PACKAGE-LEVEL VARIABLES READ AS WHEN THE CALL BEGINS. Each datum BY PROGRAM (the guide's laid-datum.mjs) off the statement by which the dump's own 'gosem.cut.vars' lays the variable. In a bare row this is a premise. The card (YtbjkkiehpfnogaaDoorCards.lean) ties it to the program's text. -/
def laid_unicode_utf8_acceptRanges {H : Type} : DataW H := .agg [.agg [.lit (.int .u8 128), .lit (.int .u8 191)], .agg [.lit (.int .u8 160), .lit (.int .u8 191)], .agg [.lit (.int .u8 128), .lit (.int .u8 159)], .agg [.lit (.int .u8 144), .lit (.int .u8 191)], .agg [.lit (.int .u8 128), .lit (.int .u8 143)], .agg [.lit (.int .u8 0), .lit (.int .u8 0)], .agg [.lit (.int .u8 0), .lit (.int .u8 0)], .agg [.lit (.int .u8 0), .lit (.int .u8 0)], .agg [.lit (.int .u8 0), .lit (.int .u8 0)], .agg [.lit (.int .u8 0), .lit (.int .u8 0)], .agg [.lit (.int .u8 0), .lit (.int .u8 0)], .agg [.lit (.int .u8 0), .lit (.int .u8 0)], .agg [.lit (.int .u8 0), .lit (.int .u8 0)], .agg [.lit (.int .u8 0), .lit (.int .u8 0)], .agg [.lit (.int .u8 0), .lit (.int .u8 0)], .agg [.lit (.int .u8 0), .lit (.int .u8 0)]]
/-- One of Go's own tables, pinned by name: the form's constant. -/
def laid_unicode_utf8_first : DataW Unit := Go.Pinned.utf8First

/-- 'saleroomlaw01.NaturalDivides': WHATEVER THE INPUT: true; the input reads as it did. -/
def naturalDividesSpec : ChangeSpec := { name := "naturalDivides", fn := fun _ => fun
  | [d1, d2] => { results := [.lit (.bool true)], args := [d1, d2] }
  | _ => none }
def naturalDividesRow : OpenClaim := { program := "ytbjkkiehpfnogaadoor", sum := "101aa69926ab9ecbd590823f5f437fdb0df48ede62ebd778300c8d7615d3d99c", func := "saleroom/saleroomlaw01.NaturalDivides", spec := "naturalDivides", named := ["math/bits.overflowError", "unicode/utf8.first", "unicode/utf8.acceptRanges"], apart := false, laid := [("unicode/utf8.acceptRanges", laid_unicode_utf8_acceptRanges), ("unicode/utf8.first", laid_unicode_utf8_first)] }
def NaturalDividesSaid : Prop := naturalDividesRow.holds Tryd.pinned (OpenSpec.ofChange naturalDividesSpec)

/-- ITS FALSE NEIGHBOUR: 'it returns false'. Refute it at one input. -/
def naturalDividesWrong : ChangeSpec := { name := "naturalDivides", fn := fun _ => fun
  | [d1, d2] => { results := [.lit (.bool false)], args := [d1, d2] }
  | _ => none }
def NaturalDividesWrongFalsely : Prop := naturalDividesRow.holds Tryd.pinned (OpenSpec.ofChange naturalDividesWrong)

/-- 'saleroomlaw01.NaturalAdds': WHATEVER THE INPUT: true; the input reads as it did. -/
def naturalAddsSpec : ChangeSpec := { name := "naturalAdds", fn := fun _ => fun
  | [d1, d2] => { results := [.lit (.bool true)], args := [d1, d2] }
  | _ => none }
def naturalAddsRow : OpenClaim := { program := "ytbjkkiehpfnogaadoor", sum := "101aa69926ab9ecbd590823f5f437fdb0df48ede62ebd778300c8d7615d3d99c", func := "saleroom/saleroomlaw01.NaturalAdds", spec := "naturalAdds", named := ["math/bits.overflowError", "unicode/utf8.first", "unicode/utf8.acceptRanges"], apart := false, laid := [("unicode/utf8.acceptRanges", laid_unicode_utf8_acceptRanges), ("unicode/utf8.first", laid_unicode_utf8_first)] }
def NaturalAddsSaid : Prop := naturalAddsRow.holds Tryd.pinned (OpenSpec.ofChange naturalAddsSpec)

/-- ITS FALSE NEIGHBOUR: 'it returns false'. Refute it at one input. -/
def naturalAddsWrong : ChangeSpec := { name := "naturalAdds", fn := fun _ => fun
  | [d1, d2] => { results := [.lit (.bool false)], args := [d1, d2] }
  | _ => none }
def NaturalAddsWrongFalsely : Prop := naturalAddsRow.holds Tryd.pinned (OpenSpec.ofChange naturalAddsWrong)

/-- 'saleroomlaw01.NaturalMultiplies': WHATEVER THE INPUT: true; the input reads as it did. -/
def naturalMultipliesSpec : ChangeSpec := { name := "naturalMultiplies", fn := fun _ => fun
  | [d1, d2] => { results := [.lit (.bool true)], args := [d1, d2] }
  | _ => none }
def naturalMultipliesRow : OpenClaim := { program := "ytbjkkiehpfnogaadoor", sum := "101aa69926ab9ecbd590823f5f437fdb0df48ede62ebd778300c8d7615d3d99c", func := "saleroom/saleroomlaw01.NaturalMultiplies", spec := "naturalMultiplies", named := ["math/bits.overflowError", "unicode/utf8.first", "unicode/utf8.acceptRanges"], apart := false, laid := [("unicode/utf8.acceptRanges", laid_unicode_utf8_acceptRanges), ("unicode/utf8.first", laid_unicode_utf8_first)] }
def NaturalMultipliesSaid : Prop := naturalMultipliesRow.holds Tryd.pinned (OpenSpec.ofChange naturalMultipliesSpec)

/-- ITS FALSE NEIGHBOUR: 'it returns false'. Refute it at one input. -/
def naturalMultipliesWrong : ChangeSpec := { name := "naturalMultiplies", fn := fun _ => fun
  | [d1, d2] => { results := [.lit (.bool false)], args := [d1, d2] }
  | _ => none }
def NaturalMultipliesWrongFalsely : Prop := naturalMultipliesRow.holds Tryd.pinned (OpenSpec.ofChange naturalMultipliesWrong)

/-- 'saleroomlaw01.NaturalCommons': WHATEVER THE INPUT: true; the input reads as it did. -/
def naturalCommonsSpec : ChangeSpec := { name := "naturalCommons", fn := fun _ => fun
  | [d1, d2] => { results := [.lit (.bool true)], args := [d1, d2] }
  | _ => none }
def naturalCommonsRow : OpenClaim := { program := "ytbjkkiehpfnogaadoor", sum := "101aa69926ab9ecbd590823f5f437fdb0df48ede62ebd778300c8d7615d3d99c", func := "saleroom/saleroomlaw01.NaturalCommons", spec := "naturalCommons", named := ["math/bits.overflowError", "unicode/utf8.first", "unicode/utf8.acceptRanges"], apart := false, laid := [("unicode/utf8.acceptRanges", laid_unicode_utf8_acceptRanges), ("unicode/utf8.first", laid_unicode_utf8_first)] }
def NaturalCommonsSaid : Prop := naturalCommonsRow.holds Tryd.pinned (OpenSpec.ofChange naturalCommonsSpec)

/-- ITS FALSE NEIGHBOUR: 'it returns false'. Refute it at one input. -/
def naturalCommonsWrong : ChangeSpec := { name := "naturalCommons", fn := fun _ => fun
  | [d1, d2] => { results := [.lit (.bool false)], args := [d1, d2] }
  | _ => none }
def NaturalCommonsWrongFalsely : Prop := naturalCommonsRow.holds Tryd.pinned (OpenSpec.ofChange naturalCommonsWrong)

/-- 'saleroomlaw01.NaturalShows': WHATEVER THE INPUT: true; the input reads as it did. -/
def naturalShowsSpec : ChangeSpec := { name := "naturalShows", fn := fun _ => fun
  | [d] => { results := [.lit (.bool true)], args := [d] }
  | _ => none }
def naturalShowsRow : OpenClaim := { program := "ytbjkkiehpfnogaadoor", sum := "101aa69926ab9ecbd590823f5f437fdb0df48ede62ebd778300c8d7615d3d99c", func := "saleroom/saleroomlaw01.NaturalShows", spec := "naturalShows", named := ["math/bits.overflowError", "unicode/utf8.first", "unicode/utf8.acceptRanges"], apart := false, laid := [("unicode/utf8.acceptRanges", laid_unicode_utf8_acceptRanges), ("unicode/utf8.first", laid_unicode_utf8_first)] }
def NaturalShowsSaid : Prop := naturalShowsRow.holds Tryd.pinned (OpenSpec.ofChange naturalShowsSpec)

/-- ITS FALSE NEIGHBOUR: 'it returns false'. Refute it at one input. -/
def naturalShowsWrong : ChangeSpec := { name := "naturalShows", fn := fun _ => fun
  | [d] => { results := [.lit (.bool false)], args := [d] }
  | _ => none }
def NaturalShowsWrongFalsely : Prop := naturalShowsRow.holds Tryd.pinned (OpenSpec.ofChange naturalShowsWrong)

/-- 'saleroomlaw01.NaturalParses': WHATEVER THE INPUT: true; the input reads as it did. -/
def naturalParsesSpec : ChangeSpec := { name := "naturalParses", fn := fun _ => fun
  | [d] => { results := [.lit (.bool true)], args := [d] }
  | _ => none }
def naturalParsesRow : OpenClaim := { program := "ytbjkkiehpfnogaadoor", sum := "101aa69926ab9ecbd590823f5f437fdb0df48ede62ebd778300c8d7615d3d99c", func := "saleroom/saleroomlaw01.NaturalParses", spec := "naturalParses", named := ["math/bits.overflowError", "unicode/utf8.first", "unicode/utf8.acceptRanges"], apart := false, laid := [("unicode/utf8.acceptRanges", laid_unicode_utf8_acceptRanges), ("unicode/utf8.first", laid_unicode_utf8_first)] }
def NaturalParsesSaid : Prop := naturalParsesRow.holds Tryd.pinned (OpenSpec.ofChange naturalParsesSpec)

/-- ITS FALSE NEIGHBOUR: 'it returns false'. Refute it at one input. -/
def naturalParsesWrong : ChangeSpec := { name := "naturalParses", fn := fun _ => fun
  | [d] => { results := [.lit (.bool false)], args := [d] }
  | _ => none }
def NaturalParsesWrongFalsely : Prop := naturalParsesRow.holds Tryd.pinned (OpenSpec.ofChange naturalParsesWrong)

/-- 'saleroomlaw01.NaturalUints': WHATEVER THE INPUT: true; the input reads as it did. -/
def naturalUintsSpec : ChangeSpec := { name := "naturalUints", fn := fun _ => fun
  | [d1, d2] => { results := [.lit (.bool true)], args := [d1, d2] }
  | _ => none }
def naturalUintsRow : OpenClaim := { program := "ytbjkkiehpfnogaadoor", sum := "101aa69926ab9ecbd590823f5f437fdb0df48ede62ebd778300c8d7615d3d99c", func := "saleroom/saleroomlaw01.NaturalUints", spec := "naturalUints", named := ["math/bits.overflowError", "unicode/utf8.first", "unicode/utf8.acceptRanges"], apart := false, laid := [("unicode/utf8.acceptRanges", laid_unicode_utf8_acceptRanges), ("unicode/utf8.first", laid_unicode_utf8_first)] }
def NaturalUintsSaid : Prop := naturalUintsRow.holds Tryd.pinned (OpenSpec.ofChange naturalUintsSpec)

/-- ITS FALSE NEIGHBOUR: 'it returns false'. Refute it at one input. -/
def naturalUintsWrong : ChangeSpec := { name := "naturalUints", fn := fun _ => fun
  | [d1, d2] => { results := [.lit (.bool false)], args := [d1, d2] }
  | _ => none }
def NaturalUintsWrongFalsely : Prop := naturalUintsRow.holds Tryd.pinned (OpenSpec.ofChange naturalUintsWrong)

/-- 'saleroomlaw01.NaturalRing': WHATEVER THE INPUT: true; the input reads as it did. -/
def naturalRingSpec : ChangeSpec := { name := "naturalRing", fn := fun _ => fun
  | [d1, d2, d3] => { results := [.lit (.bool true)], args := [d1, d2, d3] }
  | _ => none }
def naturalRingRow : OpenClaim := { program := "ytbjkkiehpfnogaadoor", sum := "101aa69926ab9ecbd590823f5f437fdb0df48ede62ebd778300c8d7615d3d99c", func := "saleroom/saleroomlaw01.NaturalRing", spec := "naturalRing", named := ["math/bits.overflowError", "unicode/utf8.first", "unicode/utf8.acceptRanges"], apart := false, laid := [("unicode/utf8.acceptRanges", laid_unicode_utf8_acceptRanges), ("unicode/utf8.first", laid_unicode_utf8_first)] }
def NaturalRingSaid : Prop := naturalRingRow.holds Tryd.pinned (OpenSpec.ofChange naturalRingSpec)

/-- ITS FALSE NEIGHBOUR: 'it returns false'. Refute it at one input. -/
def naturalRingWrong : ChangeSpec := { name := "naturalRing", fn := fun _ => fun
  | [d1, d2, d3] => { results := [.lit (.bool false)], args := [d1, d2, d3] }
  | _ => none }
def NaturalRingWrongFalsely : Prop := naturalRingRow.holds Tryd.pinned (OpenSpec.ofChange naturalRingWrong)

/- THE SECOND FORM. 'bulk': how many values and letters a reading holds, each counted each time it is reached (what is shared counts as often as it is met; a slice's spare places count too). A statement '..UptoSaid' is the law's where the arguments, and the package variables that the reading takes, are together of bulk at most 1048576: NARROWER than '..Said'. Prove '..Said' where nothing that the law and all that it calls make is longer than what came in: it says more and counts as full. Else prove '..UptoSaid'. A law counts once. -/
mutual
def uptoBulk {H : Type} : DataW H → Nat
  | .lit (.string bytes) => bytes.length + 1
  | .lit _ => 1
  | .nil => 1
  | .ptr d => uptoBulk d + 1
  | .slice elems spare => uptoBulkAll elems + uptoBulkAll spare + 1
  | .agg parts => uptoBulkAll parts + 1
  | .iface _ d => uptoBulk d + 1
  | .map entries => uptoBulkEntries entries + 1
  | .held _ => 1
def uptoBulkAll {H : Type} : List (DataW H) → Nat
  | [] => 0
  | d :: r => uptoBulk d + uptoBulkAll r
def uptoBulkEntries {H : Type} : List (Lit × DataW H) → Nat
  | [] => 0
  | x :: r => uptoBulkEntry x + uptoBulkEntries r
def uptoBulkEntry {H : Type} : Lit × DataW H → Nat
  | (.string bytes, d) => bytes.length + uptoBulk d + 1
  | (_, d) => uptoBulk d + 1
 end
def uptoSmall : (H : Type) → List (DataW H) → Bool := fun _ ds => decide (uptoBulkAll ds ≤ 1048576)
def OpenSpec.upto (s : _root_.Go.ChangeSpec) : _root_.Go.OpenSpec := { _root_.Go.OpenSpec.ofChange s with cond := some uptoSmall }

/-- 'saleroomlaw01.NaturalDivides', WHERE WHAT IT READS IS OF BULK AT MOST 1048576: true; the input reads as it did. -/
def naturalDividesUptoRow : OpenClaim := { program := "ytbjkkiehpfnogaadoor", sum := "101aa69926ab9ecbd590823f5f437fdb0df48ede62ebd778300c8d7615d3d99c", func := "saleroom/saleroomlaw01.NaturalDivides", spec := "naturalDivides", named := ["math/bits.overflowError", "unicode/utf8.first", "unicode/utf8.acceptRanges"], apart := false, laid := [("unicode/utf8.acceptRanges", laid_unicode_utf8_acceptRanges), ("unicode/utf8.first", laid_unicode_utf8_first)], narrowed := true }
def NaturalDividesUptoSaid : Prop := naturalDividesUptoRow.holds Tryd.pinned (OpenSpec.upto naturalDividesSpec)

/-- 'saleroomlaw01.NaturalAdds', WHERE WHAT IT READS IS OF BULK AT MOST 1048576: true; the input reads as it did. -/
def naturalAddsUptoRow : OpenClaim := { program := "ytbjkkiehpfnogaadoor", sum := "101aa69926ab9ecbd590823f5f437fdb0df48ede62ebd778300c8d7615d3d99c", func := "saleroom/saleroomlaw01.NaturalAdds", spec := "naturalAdds", named := ["math/bits.overflowError", "unicode/utf8.first", "unicode/utf8.acceptRanges"], apart := false, laid := [("unicode/utf8.acceptRanges", laid_unicode_utf8_acceptRanges), ("unicode/utf8.first", laid_unicode_utf8_first)], narrowed := true }
def NaturalAddsUptoSaid : Prop := naturalAddsUptoRow.holds Tryd.pinned (OpenSpec.upto naturalAddsSpec)

/-- 'saleroomlaw01.NaturalMultiplies', WHERE WHAT IT READS IS OF BULK AT MOST 1048576: true; the input reads as it did. -/
def naturalMultipliesUptoRow : OpenClaim := { program := "ytbjkkiehpfnogaadoor", sum := "101aa69926ab9ecbd590823f5f437fdb0df48ede62ebd778300c8d7615d3d99c", func := "saleroom/saleroomlaw01.NaturalMultiplies", spec := "naturalMultiplies", named := ["math/bits.overflowError", "unicode/utf8.first", "unicode/utf8.acceptRanges"], apart := false, laid := [("unicode/utf8.acceptRanges", laid_unicode_utf8_acceptRanges), ("unicode/utf8.first", laid_unicode_utf8_first)], narrowed := true }
def NaturalMultipliesUptoSaid : Prop := naturalMultipliesUptoRow.holds Tryd.pinned (OpenSpec.upto naturalMultipliesSpec)

/-- 'saleroomlaw01.NaturalCommons', WHERE WHAT IT READS IS OF BULK AT MOST 1048576: true; the input reads as it did. -/
def naturalCommonsUptoRow : OpenClaim := { program := "ytbjkkiehpfnogaadoor", sum := "101aa69926ab9ecbd590823f5f437fdb0df48ede62ebd778300c8d7615d3d99c", func := "saleroom/saleroomlaw01.NaturalCommons", spec := "naturalCommons", named := ["math/bits.overflowError", "unicode/utf8.first", "unicode/utf8.acceptRanges"], apart := false, laid := [("unicode/utf8.acceptRanges", laid_unicode_utf8_acceptRanges), ("unicode/utf8.first", laid_unicode_utf8_first)], narrowed := true }
def NaturalCommonsUptoSaid : Prop := naturalCommonsUptoRow.holds Tryd.pinned (OpenSpec.upto naturalCommonsSpec)

/-- 'saleroomlaw01.NaturalShows', WHERE WHAT IT READS IS OF BULK AT MOST 1048576: true; the input reads as it did. -/
def naturalShowsUptoRow : OpenClaim := { program := "ytbjkkiehpfnogaadoor", sum := "101aa69926ab9ecbd590823f5f437fdb0df48ede62ebd778300c8d7615d3d99c", func := "saleroom/saleroomlaw01.NaturalShows", spec := "naturalShows", named := ["math/bits.overflowError", "unicode/utf8.first", "unicode/utf8.acceptRanges"], apart := false, laid := [("unicode/utf8.acceptRanges", laid_unicode_utf8_acceptRanges), ("unicode/utf8.first", laid_unicode_utf8_first)], narrowed := true }
def NaturalShowsUptoSaid : Prop := naturalShowsUptoRow.holds Tryd.pinned (OpenSpec.upto naturalShowsSpec)

/-- 'saleroomlaw01.NaturalParses', WHERE WHAT IT READS IS OF BULK AT MOST 1048576: true; the input reads as it did. -/
def naturalParsesUptoRow : OpenClaim := { program := "ytbjkkiehpfnogaadoor", sum := "101aa69926ab9ecbd590823f5f437fdb0df48ede62ebd778300c8d7615d3d99c", func := "saleroom/saleroomlaw01.NaturalParses", spec := "naturalParses", named := ["math/bits.overflowError", "unicode/utf8.first", "unicode/utf8.acceptRanges"], apart := false, laid := [("unicode/utf8.acceptRanges", laid_unicode_utf8_acceptRanges), ("unicode/utf8.first", laid_unicode_utf8_first)], narrowed := true }
def NaturalParsesUptoSaid : Prop := naturalParsesUptoRow.holds Tryd.pinned (OpenSpec.upto naturalParsesSpec)

/-- 'saleroomlaw01.NaturalUints', WHERE WHAT IT READS IS OF BULK AT MOST 1048576: true; the input reads as it did. -/
def naturalUintsUptoRow : OpenClaim := { program := "ytbjkkiehpfnogaadoor", sum := "101aa69926ab9ecbd590823f5f437fdb0df48ede62ebd778300c8d7615d3d99c", func := "saleroom/saleroomlaw01.NaturalUints", spec := "naturalUints", named := ["math/bits.overflowError", "unicode/utf8.first", "unicode/utf8.acceptRanges"], apart := false, laid := [("unicode/utf8.acceptRanges", laid_unicode_utf8_acceptRanges), ("unicode/utf8.first", laid_unicode_utf8_first)], narrowed := true }
def NaturalUintsUptoSaid : Prop := naturalUintsUptoRow.holds Tryd.pinned (OpenSpec.upto naturalUintsSpec)

/-- 'saleroomlaw01.NaturalRing', WHERE WHAT IT READS IS OF BULK AT MOST 1048576: true; the input reads as it did. -/
def naturalRingUptoRow : OpenClaim := { program := "ytbjkkiehpfnogaadoor", sum := "101aa69926ab9ecbd590823f5f437fdb0df48ede62ebd778300c8d7615d3d99c", func := "saleroom/saleroomlaw01.NaturalRing", spec := "naturalRing", named := ["math/bits.overflowError", "unicode/utf8.first", "unicode/utf8.acceptRanges"], apart := false, laid := [("unicode/utf8.acceptRanges", laid_unicode_utf8_acceptRanges), ("unicode/utf8.first", laid_unicode_utf8_first)], narrowed := true }
def NaturalRingUptoSaid : Prop := naturalRingUptoRow.holds Tryd.pinned (OpenSpec.upto naturalRingSpec)

end Rows
end Go.Proofs.YtbjkkiehpfnogaaDoor
