/-
  No cell of these rows narrows 'for every input' (looked for: loops, veiled, ifaces, maps, wideKeys, modest, calm, conditions, laid).
  DERIVED. THE GIVEN ROWS OF THIS SEAT. 6 by the template 'for every input the law returns true; each argument reads behind the call as it read before'; 0 by the template 'total and deterministic' (their statements: YtajdbpkcakkhdaaTotals.lean).
  GIVEN WITH THE SEED: the statements are not yours to turn. If you find one false, say at which input.
  Laid BY PROGRAM, IN A SANDBOX (cutbox-rows.mjs): the forced cells as the released guide's own fill.sh prints them over the translation d04872b946ddc2c2… (all of the seat's roots in one cut). By AI agents, Wed Nov 11 2026. No macro, syntax, notation, axiom, sorry.
-/
import Derived.Test.YtajdbpkcakkhdaaChecked
import GoSem.Claim
import GoSem.ClaimJoined
import GoSem.ClaimMapViews
import Derived.JoinedTies
import Derived.KernelRfl
namespace Go.Proofs.Ytajdbpkcakkhdaa
/- THE CELL 'sum', in the pinned program and in every row, IS THE sha256 OF THE DUMP (.gsa) THAT YtajdbpkcakkhdaaProg.lean LOADS. Nothing in Lean hashes anything: it is a label: what it is worth is what the hold of that sum in a sandbox is worth. -/
noncomputable def Try.pinned : Pinned := { name := "ytajdbpkcakkhdaa", sum := "d04872b946ddc2c2f95c3da814b864b9fcbdce24087802ebe60e7e2137dd74a6", checked := Try.checked }
namespace Rows
def none {H : Type} : Left H := { results := [], args := [] }

/-- 'saleroomlaw07.BundleCompares': WHATEVER THE INPUT: true; the input reads as it did. -/
def bundleComparesSpec : ChangeSpec := { name := "bundleCompares", fn := fun _ => fun
  | [d1, d2] => { results := [.lit (.bool true)], args := [d1, d2] }
  | _ => none }
def bundleComparesRow : OpenClaim := { program := "ytajdbpkcakkhdaa", sum := "d04872b946ddc2c2f95c3da814b864b9fcbdce24087802ebe60e7e2137dd74a6", func := "saleroom/saleroomlaw07.BundleCompares", spec := "bundleCompares", apart := false }
def BundleComparesSaid : Prop := bundleComparesRow.holds Try.pinned (OpenSpec.ofChange bundleComparesSpec)

/-- ITS FALSE NEIGHBOUR: 'it returns false'. Refute it at one input. -/
def bundleComparesWrong : ChangeSpec := { name := "bundleCompares", fn := fun _ => fun
  | [d1, d2] => { results := [.lit (.bool false)], args := [d1, d2] }
  | _ => none }
def BundleComparesWrongFalsely : Prop := bundleComparesRow.holds Try.pinned (OpenSpec.ofChange bundleComparesWrong)

/-- 'saleroomlaw07.BundleAdds': WHATEVER THE INPUT: true; the input reads as it did. -/
def bundleAddsSpec : ChangeSpec := { name := "bundleAdds", fn := fun _ => fun
  | [d1, d2, d3] => { results := [.lit (.bool true)], args := [d1, d2, d3] }
  | _ => none }
def bundleAddsRow : OpenClaim := { program := "ytajdbpkcakkhdaa", sum := "d04872b946ddc2c2f95c3da814b864b9fcbdce24087802ebe60e7e2137dd74a6", func := "saleroom/saleroomlaw07.BundleAdds", spec := "bundleAdds", apart := false }
def BundleAddsSaid : Prop := bundleAddsRow.holds Try.pinned (OpenSpec.ofChange bundleAddsSpec)

/-- ITS FALSE NEIGHBOUR: 'it returns false'. Refute it at one input. -/
def bundleAddsWrong : ChangeSpec := { name := "bundleAdds", fn := fun _ => fun
  | [d1, d2, d3] => { results := [.lit (.bool false)], args := [d1, d2, d3] }
  | _ => none }
def BundleAddsWrongFalsely : Prop := bundleAddsRow.holds Try.pinned (OpenSpec.ofChange bundleAddsWrong)

/-- 'saleroomlaw07.BundleCounts': WHATEVER THE INPUT: true; the input reads as it did. -/
def bundleCountsSpec : ChangeSpec := { name := "bundleCounts", fn := fun _ => fun
  | [d1, d2] => { results := [.lit (.bool true)], args := [d1, d2] }
  | _ => none }
def bundleCountsRow : OpenClaim := { program := "ytajdbpkcakkhdaa", sum := "d04872b946ddc2c2f95c3da814b864b9fcbdce24087802ebe60e7e2137dd74a6", func := "saleroom/saleroomlaw07.BundleCounts", spec := "bundleCounts", apart := false }
def BundleCountsSaid : Prop := bundleCountsRow.holds Try.pinned (OpenSpec.ofChange bundleCountsSpec)

/-- ITS FALSE NEIGHBOUR: 'it returns false'. Refute it at one input. -/
def bundleCountsWrong : ChangeSpec := { name := "bundleCounts", fn := fun _ => fun
  | [d1, d2] => { results := [.lit (.bool false)], args := [d1, d2] }
  | _ => none }
def BundleCountsWrongFalsely : Prop := bundleCountsRow.holds Try.pinned (OpenSpec.ofChange bundleCountsWrong)

/-- 'saleroomlaw07.BundleRanks': WHATEVER THE INPUT: true; the input reads as it did. -/
def bundleRanksSpec : ChangeSpec := { name := "bundleRanks", fn := fun _ => fun
  | [d1, d2, d3] => { results := [.lit (.bool true)], args := [d1, d2, d3] }
  | _ => none }
def bundleRanksRow : OpenClaim := { program := "ytajdbpkcakkhdaa", sum := "d04872b946ddc2c2f95c3da814b864b9fcbdce24087802ebe60e7e2137dd74a6", func := "saleroom/saleroomlaw07.BundleRanks", spec := "bundleRanks", apart := false }
def BundleRanksSaid : Prop := bundleRanksRow.holds Try.pinned (OpenSpec.ofChange bundleRanksSpec)

/-- ITS FALSE NEIGHBOUR: 'it returns false'. Refute it at one input. -/
def bundleRanksWrong : ChangeSpec := { name := "bundleRanks", fn := fun _ => fun
  | [d1, d2, d3] => { results := [.lit (.bool false)], args := [d1, d2, d3] }
  | _ => none }
def BundleRanksWrongFalsely : Prop := bundleRanksRow.holds Try.pinned (OpenSpec.ofChange bundleRanksWrong)

/-- 'saleroomlaw07.BundleAll': WHATEVER THE INPUT: true; the input reads as it did. -/
def bundleAllSpec : ChangeSpec := { name := "bundleAll", fn := fun _ => fun
  | [d1, d2] => { results := [.lit (.bool true)], args := [d1, d2] }
  | _ => none }
def bundleAllRow : OpenClaim := { program := "ytajdbpkcakkhdaa", sum := "d04872b946ddc2c2f95c3da814b864b9fcbdce24087802ebe60e7e2137dd74a6", func := "saleroom/saleroomlaw07.BundleAll", spec := "bundleAll", unfollowed := true, recurses := true, apart := false }
def BundleAllSaid : Prop := bundleAllRow.holds Try.pinned (OpenSpec.ofChange bundleAllSpec)

/-- ITS FALSE NEIGHBOUR: 'it returns false'. Refute it at one input. -/
def bundleAllWrong : ChangeSpec := { name := "bundleAll", fn := fun _ => fun
  | [d1, d2] => { results := [.lit (.bool false)], args := [d1, d2] }
  | _ => none }
def BundleAllWrongFalsely : Prop := bundleAllRow.holds Try.pinned (OpenSpec.ofChange bundleAllWrong)

/-- 'saleroomlaw07.BundleSplits': WHATEVER THE INPUT: true; the input reads as it did. -/
def bundleSplitsSpec : ChangeSpec := { name := "bundleSplits", fn := fun _ => fun
  | [d] => { results := [.lit (.bool true)], args := [d] }
  | _ => none }
def bundleSplitsRow : OpenClaim := { program := "ytajdbpkcakkhdaa", sum := "d04872b946ddc2c2f95c3da814b864b9fcbdce24087802ebe60e7e2137dd74a6", func := "saleroom/saleroomlaw07.BundleSplits", spec := "bundleSplits", unfollowed := true, recurses := true, apart := false }
def BundleSplitsSaid : Prop := bundleSplitsRow.holds Try.pinned (OpenSpec.ofChange bundleSplitsSpec)

/-- ITS FALSE NEIGHBOUR: 'it returns false'. Refute it at one input. -/
def bundleSplitsWrong : ChangeSpec := { name := "bundleSplits", fn := fun _ => fun
  | [d] => { results := [.lit (.bool false)], args := [d] }
  | _ => none }
def BundleSplitsWrongFalsely : Prop := bundleSplitsRow.holds Try.pinned (OpenSpec.ofChange bundleSplitsWrong)

/- THE SECOND FORM. 'bulk': how many values and letters a reading holds, each counted each time it is reached (what is shared counts as often as it is met; a slice's spare places count too). A statement '..UptoSaid' is the law's where the arguments, and the package variables that the reading takes, are together of bulk at most 1048576: NARROWER than '..Said'. Prove '..Said' where nothing that the law and all that it calls make is longer than what came in: it says more and counts as full. Else prove '..UptoSaid'. A law counts once. -/
mutual
def uptoBulk {H : Type} : DataW H → Nat
  | .lit (.string bytes) => bytes.length + 1
  | .lit _ => 1
  | .nil => 1
  | .ptr d => uptoBulk d + 1
  | .slice elems spare => uptoBulkAll elems + uptoBulkAll spare + 1
  | .agg parts => uptoBulkAll parts + 1
  | .iface _ d => uptoBulk d + 1
  | .map entries => uptoBulkEntries entries + 1
  | .held _ => 1
def uptoBulkAll {H : Type} : List (DataW H) → Nat
  | [] => 0
  | d :: r => uptoBulk d + uptoBulkAll r
def uptoBulkEntries {H : Type} : List (Lit × DataW H) → Nat
  | [] => 0
  | x :: r => uptoBulkEntry x + uptoBulkEntries r
def uptoBulkEntry {H : Type} : Lit × DataW H → Nat
  | (.string bytes, d) => bytes.length + uptoBulk d + 1
  | (_, d) => uptoBulk d + 1
 end
def uptoSmall : (H : Type) → List (DataW H) → Bool := fun _ ds => decide (uptoBulkAll ds ≤ 1048576)
def OpenSpec.upto (s : _root_.Go.ChangeSpec) : _root_.Go.OpenSpec := { _root_.Go.OpenSpec.ofChange s with cond := some uptoSmall }

/-- 'saleroomlaw07.BundleCompares', WHERE WHAT IT READS IS OF BULK AT MOST 1048576: true; the input reads as it did. -/
def bundleComparesUptoRow : OpenClaim := { program := "ytajdbpkcakkhdaa", sum := "d04872b946ddc2c2f95c3da814b864b9fcbdce24087802ebe60e7e2137dd74a6", func := "saleroom/saleroomlaw07.BundleCompares", spec := "bundleCompares", apart := false, narrowed := true }
def BundleComparesUptoSaid : Prop := bundleComparesUptoRow.holds Try.pinned (OpenSpec.upto bundleComparesSpec)

/-- 'saleroomlaw07.BundleAdds', WHERE WHAT IT READS IS OF BULK AT MOST 1048576: true; the input reads as it did. -/
def bundleAddsUptoRow : OpenClaim := { program := "ytajdbpkcakkhdaa", sum := "d04872b946ddc2c2f95c3da814b864b9fcbdce24087802ebe60e7e2137dd74a6", func := "saleroom/saleroomlaw07.BundleAdds", spec := "bundleAdds", apart := false, narrowed := true }
def BundleAddsUptoSaid : Prop := bundleAddsUptoRow.holds Try.pinned (OpenSpec.upto bundleAddsSpec)

/-- 'saleroomlaw07.BundleCounts', WHERE WHAT IT READS IS OF BULK AT MOST 1048576: true; the input reads as it did. -/
def bundleCountsUptoRow : OpenClaim := { program := "ytajdbpkcakkhdaa", sum := "d04872b946ddc2c2f95c3da814b864b9fcbdce24087802ebe60e7e2137dd74a6", func := "saleroom/saleroomlaw07.BundleCounts", spec := "bundleCounts", apart := false, narrowed := true }
def BundleCountsUptoSaid : Prop := bundleCountsUptoRow.holds Try.pinned (OpenSpec.upto bundleCountsSpec)

/-- 'saleroomlaw07.BundleRanks', WHERE WHAT IT READS IS OF BULK AT MOST 1048576: true; the input reads as it did. -/
def bundleRanksUptoRow : OpenClaim := { program := "ytajdbpkcakkhdaa", sum := "d04872b946ddc2c2f95c3da814b864b9fcbdce24087802ebe60e7e2137dd74a6", func := "saleroom/saleroomlaw07.BundleRanks", spec := "bundleRanks", apart := false, narrowed := true }
def BundleRanksUptoSaid : Prop := bundleRanksUptoRow.holds Try.pinned (OpenSpec.upto bundleRanksSpec)

/-- 'saleroomlaw07.BundleAll', WHERE WHAT IT READS IS OF BULK AT MOST 1048576: true; the input reads as it did. -/
def bundleAllUptoRow : OpenClaim := { program := "ytajdbpkcakkhdaa", sum := "d04872b946ddc2c2f95c3da814b864b9fcbdce24087802ebe60e7e2137dd74a6", func := "saleroom/saleroomlaw07.BundleAll", spec := "bundleAll", unfollowed := true, recurses := true, apart := false, narrowed := true }
def BundleAllUptoSaid : Prop := bundleAllUptoRow.holds Try.pinned (OpenSpec.upto bundleAllSpec)

/-- 'saleroomlaw07.BundleSplits', WHERE WHAT IT READS IS OF BULK AT MOST 1048576: true; the input reads as it did. -/
def bundleSplitsUptoRow : OpenClaim := { program := "ytajdbpkcakkhdaa", sum := "d04872b946ddc2c2f95c3da814b864b9fcbdce24087802ebe60e7e2137dd74a6", func := "saleroom/saleroomlaw07.BundleSplits", spec := "bundleSplits", unfollowed := true, recurses := true, apart := false, narrowed := true }
def BundleSplitsUptoSaid : Prop := bundleSplitsUptoRow.holds Try.pinned (OpenSpec.upto bundleSplitsSpec)

end Rows
end Go.Proofs.Ytajdbpkcakkhdaa
