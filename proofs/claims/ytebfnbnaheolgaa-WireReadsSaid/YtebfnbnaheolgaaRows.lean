/-
  No cell of these rows narrows 'for every input' (looked for: loops, veiled, ifaces, maps, wideKeys, modest, calm, conditions, laid).
  DERIVED. THE GIVEN ROWS OF THIS SEAT. 6 by the template 'for every input the law returns true; each argument reads behind the call as it read before'; 0 by the template 'total and deterministic' (their statements: YtebfnbnaheolgaaTotals.lean).
  GIVEN WITH THE SEED: the statements are not yours to turn. If you find one false, say at which input.
  Laid BY PROGRAM, IN A SANDBOX (cutbox-rows.mjs): the forced cells as the released guide's own fill.sh prints them over the translation 3f1bfb6c0bf8f088… (all of the seat's roots in one cut). By AI agents, Wed Nov 11 2026. No macro, syntax, notation, axiom, sorry.
-/
import Derived.Test.YtebfnbnaheolgaaChecked
import GoSem.Claim
import GoSem.ClaimJoined
import GoSem.ClaimMapViews
import Derived.JoinedTies
import Derived.KernelRfl
namespace Go.Proofs.Ytebfnbnaheolgaa
/- THE CELL 'sum', in the pinned program and in every row, IS THE sha256 OF THE DUMP (.gsa) THAT YtebfnbnaheolgaaProg.lean LOADS. Nothing in Lean hashes anything: it is a label: what it is worth is what the hold of that sum in a sandbox is worth. -/
noncomputable def Try.pinned : Pinned := { name := "ytebfnbnaheolgaa", sum := "3f1bfb6c0bf8f088d8d11fc1f822053b9249e76c3984d86d2a8fcd9d621ed0a2", checked := Try.checked }
namespace Rows
def none {H : Type} : Left H := { results := [], args := [] }

/-- 'saleroomlaw04.WireIntegers': WHATEVER THE INPUT: true; the input reads as it did. -/
def wireIntegersSpec : ChangeSpec := { name := "wireIntegers", fn := fun _ => fun
  | [d1, d2] => { results := [.lit (.bool true)], args := [d1, d2] }
  | _ => none }
def wireIntegersRow : OpenClaim := { program := "ytebfnbnaheolgaa", sum := "3f1bfb6c0bf8f088d8d11fc1f822053b9249e76c3984d86d2a8fcd9d621ed0a2", func := "saleroom/saleroomlaw04.WireIntegers", spec := "wireIntegers", inPlace := ["internal/abi.NoEscape"], unfollowed := true, recurses := true, apart := false }
def WireIntegersSaid : Prop := wireIntegersRow.holds Try.pinned (OpenSpec.ofChange wireIntegersSpec)

/-- ITS FALSE NEIGHBOUR: 'it returns false'. Refute it at one input. -/
def wireIntegersWrong : ChangeSpec := { name := "wireIntegers", fn := fun _ => fun
  | [d1, d2] => { results := [.lit (.bool false)], args := [d1, d2] }
  | _ => none }
def WireIntegersWrongFalsely : Prop := wireIntegersRow.holds Try.pinned (OpenSpec.ofChange wireIntegersWrong)

/-- 'saleroomlaw04.WireTexts': WHATEVER THE INPUT: true; the input reads as it did. -/
def wireTextsSpec : ChangeSpec := { name := "wireTexts", fn := fun _ => fun
  | [d1, d2] => { results := [.lit (.bool true)], args := [d1, d2] }
  | _ => none }
def wireTextsRow : OpenClaim := { program := "ytebfnbnaheolgaa", sum := "3f1bfb6c0bf8f088d8d11fc1f822053b9249e76c3984d86d2a8fcd9d621ed0a2", func := "saleroom/saleroomlaw04.WireTexts", spec := "wireTexts", inPlace := ["internal/abi.NoEscape"], unfollowed := true, recurses := true, apart := false }
def WireTextsSaid : Prop := wireTextsRow.holds Try.pinned (OpenSpec.ofChange wireTextsSpec)

/-- ITS FALSE NEIGHBOUR: 'it returns false'. Refute it at one input. -/
def wireTextsWrong : ChangeSpec := { name := "wireTexts", fn := fun _ => fun
  | [d1, d2] => { results := [.lit (.bool false)], args := [d1, d2] }
  | _ => none }
def WireTextsWrongFalsely : Prop := wireTextsRow.holds Try.pinned (OpenSpec.ofChange wireTextsWrong)

/-- 'saleroomlaw04.WireFractions': WHATEVER THE INPUT: true; the input reads as it did. -/
def wireFractionsSpec : ChangeSpec := { name := "wireFractions", fn := fun _ => fun
  | [d] => { results := [.lit (.bool true)], args := [d] }
  | _ => none }
def wireFractionsRow : OpenClaim := { program := "ytebfnbnaheolgaa", sum := "3f1bfb6c0bf8f088d8d11fc1f822053b9249e76c3984d86d2a8fcd9d621ed0a2", func := "saleroom/saleroomlaw04.WireFractions", spec := "wireFractions", inPlace := ["internal/abi.NoEscape"], unfollowed := true, recurses := true, named := ["math/bits.overflowError"], apart := false }
def WireFractionsSaid : Prop := wireFractionsRow.holds Try.pinned (OpenSpec.ofChange wireFractionsSpec)

/-- ITS FALSE NEIGHBOUR: 'it returns false'. Refute it at one input. -/
def wireFractionsWrong : ChangeSpec := { name := "wireFractions", fn := fun _ => fun
  | [d] => { results := [.lit (.bool false)], args := [d] }
  | _ => none }
def WireFractionsWrongFalsely : Prop := wireFractionsRow.holds Try.pinned (OpenSpec.ofChange wireFractionsWrong)

/-- 'saleroomlaw04.WireReads': WHATEVER THE INPUT: true; the input reads as it did. -/
def wireReadsSpec : ChangeSpec := { name := "wireReads", fn := fun _ => fun
  | [d1, d2] => { results := [.lit (.bool true)], args := [d1, d2] }
  | _ => none }
def wireReadsRow : OpenClaim := { program := "ytebfnbnaheolgaa", sum := "3f1bfb6c0bf8f088d8d11fc1f822053b9249e76c3984d86d2a8fcd9d621ed0a2", func := "saleroom/saleroomlaw04.WireReads", spec := "wireReads", inPlace := ["internal/abi.NoEscape"], unfollowed := true, recurses := true, named := ["math/bits.overflowError"], apart := false }
def WireReadsSaid : Prop := wireReadsRow.holds Try.pinned (OpenSpec.ofChange wireReadsSpec)

/-- ITS FALSE NEIGHBOUR: 'it returns false'. Refute it at one input. -/
def wireReadsWrong : ChangeSpec := { name := "wireReads", fn := fun _ => fun
  | [d1, d2] => { results := [.lit (.bool false)], args := [d1, d2] }
  | _ => none }
def WireReadsWrongFalsely : Prop := wireReadsRow.holds Try.pinned (OpenSpec.ofChange wireReadsWrong)

/-- 'saleroomlaw04.WireRoundTrip': WHATEVER THE INPUT: true; the input reads as it did. -/
def wireRoundTripSpec : ChangeSpec := { name := "wireRoundTrip", fn := fun _ => fun
  | [d1, d2] => { results := [.lit (.bool true)], args := [d1, d2] }
  | _ => none }
def wireRoundTripRow : OpenClaim := { program := "ytebfnbnaheolgaa", sum := "3f1bfb6c0bf8f088d8d11fc1f822053b9249e76c3984d86d2a8fcd9d621ed0a2", func := "saleroom/saleroomlaw04.WireRoundTrip", spec := "wireRoundTrip", inPlace := ["internal/abi.NoEscape"], unfollowed := true, recurses := true, named := ["math/bits.overflowError"], apart := false }
def WireRoundTripSaid : Prop := wireRoundTripRow.holds Try.pinned (OpenSpec.ofChange wireRoundTripSpec)

/-- ITS FALSE NEIGHBOUR: 'it returns false'. Refute it at one input. -/
def wireRoundTripWrong : ChangeSpec := { name := "wireRoundTrip", fn := fun _ => fun
  | [d1, d2] => { results := [.lit (.bool false)], args := [d1, d2] }
  | _ => none }
def WireRoundTripWrongFalsely : Prop := wireRoundTripRow.holds Try.pinned (OpenSpec.ofChange wireRoundTripWrong)

/-- 'saleroomlaw04.WireNil': WHATEVER THE INPUT: true; the input reads as it did. -/
def wireNilSpec : ChangeSpec := { name := "wireNil", fn := fun _ => fun
  | [d] => { results := [.lit (.bool true)], args := [d] }
  | _ => none }
def wireNilRow : OpenClaim := { program := "ytebfnbnaheolgaa", sum := "3f1bfb6c0bf8f088d8d11fc1f822053b9249e76c3984d86d2a8fcd9d621ed0a2", func := "saleroom/saleroomlaw04.WireNil", spec := "wireNil", inPlace := ["internal/abi.NoEscape"], unfollowed := true, recurses := true, named := ["math/bits.overflowError"], apart := false }
def WireNilSaid : Prop := wireNilRow.holds Try.pinned (OpenSpec.ofChange wireNilSpec)

/-- ITS FALSE NEIGHBOUR: 'it returns false'. Refute it at one input. -/
def wireNilWrong : ChangeSpec := { name := "wireNil", fn := fun _ => fun
  | [d] => { results := [.lit (.bool false)], args := [d] }
  | _ => none }
def WireNilWrongFalsely : Prop := wireNilRow.holds Try.pinned (OpenSpec.ofChange wireNilWrong)

/- THE SECOND FORM. 'bulk': how many values and letters a reading holds, each counted each time it is reached (what is shared counts as often as it is met; a slice's spare places count too). A statement '..UptoSaid' is the law's where the arguments, and the package variables that the reading takes, are together of bulk at most 1048576: NARROWER than '..Said'. Prove '..Said' where nothing that the law and all that it calls make is longer than what came in: it says more and counts as full. Else prove '..UptoSaid'. A law counts once. -/
mutual
def uptoBulk {H : Type} : DataW H → Nat
  | .lit (.string bytes) => bytes.length + 1
  | .lit _ => 1
  | .nil => 1
  | .ptr d => uptoBulk d + 1
  | .slice elems spare => uptoBulkAll elems + uptoBulkAll spare + 1
  | .agg parts => uptoBulkAll parts + 1
  | .iface _ d => uptoBulk d + 1
  | .map entries => uptoBulkEntries entries + 1
  | .held _ => 1
def uptoBulkAll {H : Type} : List (DataW H) → Nat
  | [] => 0
  | d :: r => uptoBulk d + uptoBulkAll r
def uptoBulkEntries {H : Type} : List (Lit × DataW H) → Nat
  | [] => 0
  | x :: r => uptoBulkEntry x + uptoBulkEntries r
def uptoBulkEntry {H : Type} : Lit × DataW H → Nat
  | (.string bytes, d) => bytes.length + uptoBulk d + 1
  | (_, d) => uptoBulk d + 1
 end
def uptoSmall : (H : Type) → List (DataW H) → Bool := fun _ ds => decide (uptoBulkAll ds ≤ 1048576)
def OpenSpec.upto (s : _root_.Go.ChangeSpec) : _root_.Go.OpenSpec := { _root_.Go.OpenSpec.ofChange s with cond := some uptoSmall }

/-- 'saleroomlaw04.WireIntegers', WHERE WHAT IT READS IS OF BULK AT MOST 1048576: true; the input reads as it did. -/
def wireIntegersUptoRow : OpenClaim := { program := "ytebfnbnaheolgaa", sum := "3f1bfb6c0bf8f088d8d11fc1f822053b9249e76c3984d86d2a8fcd9d621ed0a2", func := "saleroom/saleroomlaw04.WireIntegers", spec := "wireIntegers", inPlace := ["internal/abi.NoEscape"], unfollowed := true, recurses := true, apart := false, narrowed := true }
def WireIntegersUptoSaid : Prop := wireIntegersUptoRow.holds Try.pinned (OpenSpec.upto wireIntegersSpec)

/-- 'saleroomlaw04.WireTexts', WHERE WHAT IT READS IS OF BULK AT MOST 1048576: true; the input reads as it did. -/
def wireTextsUptoRow : OpenClaim := { program := "ytebfnbnaheolgaa", sum := "3f1bfb6c0bf8f088d8d11fc1f822053b9249e76c3984d86d2a8fcd9d621ed0a2", func := "saleroom/saleroomlaw04.WireTexts", spec := "wireTexts", inPlace := ["internal/abi.NoEscape"], unfollowed := true, recurses := true, apart := false, narrowed := true }
def WireTextsUptoSaid : Prop := wireTextsUptoRow.holds Try.pinned (OpenSpec.upto wireTextsSpec)

/-- 'saleroomlaw04.WireFractions', WHERE WHAT IT READS IS OF BULK AT MOST 1048576: true; the input reads as it did. -/
def wireFractionsUptoRow : OpenClaim := { program := "ytebfnbnaheolgaa", sum := "3f1bfb6c0bf8f088d8d11fc1f822053b9249e76c3984d86d2a8fcd9d621ed0a2", func := "saleroom/saleroomlaw04.WireFractions", spec := "wireFractions", inPlace := ["internal/abi.NoEscape"], unfollowed := true, recurses := true, named := ["math/bits.overflowError"], apart := false, narrowed := true }
def WireFractionsUptoSaid : Prop := wireFractionsUptoRow.holds Try.pinned (OpenSpec.upto wireFractionsSpec)

/-- 'saleroomlaw04.WireReads', WHERE WHAT IT READS IS OF BULK AT MOST 1048576: true; the input reads as it did. -/
def wireReadsUptoRow : OpenClaim := { program := "ytebfnbnaheolgaa", sum := "3f1bfb6c0bf8f088d8d11fc1f822053b9249e76c3984d86d2a8fcd9d621ed0a2", func := "saleroom/saleroomlaw04.WireReads", spec := "wireReads", inPlace := ["internal/abi.NoEscape"], unfollowed := true, recurses := true, named := ["math/bits.overflowError"], apart := false, narrowed := true }
def WireReadsUptoSaid : Prop := wireReadsUptoRow.holds Try.pinned (OpenSpec.upto wireReadsSpec)

/-- 'saleroomlaw04.WireRoundTrip', WHERE WHAT IT READS IS OF BULK AT MOST 1048576: true; the input reads as it did. -/
def wireRoundTripUptoRow : OpenClaim := { program := "ytebfnbnaheolgaa", sum := "3f1bfb6c0bf8f088d8d11fc1f822053b9249e76c3984d86d2a8fcd9d621ed0a2", func := "saleroom/saleroomlaw04.WireRoundTrip", spec := "wireRoundTrip", inPlace := ["internal/abi.NoEscape"], unfollowed := true, recurses := true, named := ["math/bits.overflowError"], apart := false, narrowed := true }
def WireRoundTripUptoSaid : Prop := wireRoundTripUptoRow.holds Try.pinned (OpenSpec.upto wireRoundTripSpec)

/-- 'saleroomlaw04.WireNil', WHERE WHAT IT READS IS OF BULK AT MOST 1048576: true; the input reads as it did. -/
def wireNilUptoRow : OpenClaim := { program := "ytebfnbnaheolgaa", sum := "3f1bfb6c0bf8f088d8d11fc1f822053b9249e76c3984d86d2a8fcd9d621ed0a2", func := "saleroom/saleroomlaw04.WireNil", spec := "wireNil", inPlace := ["internal/abi.NoEscape"], unfollowed := true, recurses := true, named := ["math/bits.overflowError"], apart := false, narrowed := true }
def WireNilUptoSaid : Prop := wireNilUptoRow.holds Try.pinned (OpenSpec.upto wireNilSpec)

end Rows
end Go.Proofs.Ytebfnbnaheolgaa
