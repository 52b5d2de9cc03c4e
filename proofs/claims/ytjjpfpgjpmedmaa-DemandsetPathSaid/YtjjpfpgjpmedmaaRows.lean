/-
  No cell of these rows narrows 'for every input' (looked for: loops, veiled, ifaces, maps, wideKeys, modest, calm, conditions, laid).
  DERIVED. THE GIVEN ROWS OF THIS SEAT. 6 by the template 'for every input the law returns true; each argument reads behind the call as it read before'; 0 by the template 'total and deterministic' (their statements: YtjjpfpgjpmedmaaTotals.lean).
  GIVEN WITH THE SEED: the statements are not yours to turn. If you find one false, say at which input.
  Laid BY PROGRAM, IN A SANDBOX (cutbox-rows.mjs): the forced cells as the released guide's own fill.sh prints them over the translation ba54c8e50262cb27… (all of the seat's roots in one cut). By AI agents, Wed Nov 11 2026. No macro, syntax, notation, axiom, sorry.
-/
import Derived.Test.YtjjpfpgjpmedmaaChecked
import GoSem.Claim
import GoSem.ClaimJoined
import GoSem.ClaimMapViews
import Derived.JoinedTies
import Derived.KernelRfl
namespace Go.Proofs.Ytjjpfpgjpmedmaa
/- THE CELL 'sum', in the pinned program and in every row, IS THE sha256 OF THE DUMP (.gsa) THAT YtjjpfpgjpmedmaaProg.lean LOADS. Nothing in Lean hashes anything: it is a label: what it is worth is what the hold of that sum in a sandbox is worth. -/
noncomputable def Try.pinned : Pinned := { name := "ytjjpfpgjpmedmaa", sum := "ba54c8e50262cb271a610867e9369921893f7aa42268ced7f97c18ee72f6e057", checked := Try.checked }
namespace Rows
def none {H : Type} : Left H := { results := [], args := [] }

/-- 'saleroomlaw14.FlattenExprs': WHATEVER THE INPUT: true; the input reads as it did. -/
def flattenExprsSpec : ChangeSpec := { name := "flattenExprs", fn := fun _ => fun
  | [d1, d2] => { results := [.lit (.bool true)], args := [d1, d2] }
  | _ => none }
def flattenExprsRow : OpenClaim := { program := "ytjjpfpgjpmedmaa", sum := "ba54c8e50262cb271a610867e9369921893f7aa42268ced7f97c18ee72f6e057", func := "saleroom/saleroomlaw14.FlattenExprs", spec := "flattenExprs", unfollowed := true, recurses := true, plainKeys := false, apart := false }
def FlattenExprsSaid : Prop := flattenExprsRow.holds Try.pinned (OpenSpec.ofChange flattenExprsSpec)

/-- ITS FALSE NEIGHBOUR: 'it returns false'. Refute it at one input. -/
def flattenExprsWrong : ChangeSpec := { name := "flattenExprs", fn := fun _ => fun
  | [d1, d2] => { results := [.lit (.bool false)], args := [d1, d2] }
  | _ => none }
def FlattenExprsWrongFalsely : Prop := flattenExprsRow.holds Try.pinned (OpenSpec.ofChange flattenExprsWrong)

/-- 'saleroomlaw15.DemandsetUtility': WHATEVER THE INPUT: true; the input reads as it did. -/
def demandsetUtilitySpec : ChangeSpec := { name := "demandsetUtility", fn := fun _ => fun
  | [d1, d2, d3] => { results := [.lit (.bool true)], args := [d1, d2, d3] }
  | _ => none }
def demandsetUtilityRow : OpenClaim := { program := "ytjjpfpgjpmedmaa", sum := "ba54c8e50262cb271a610867e9369921893f7aa42268ced7f97c18ee72f6e057", func := "saleroom/saleroomlaw15.DemandsetUtility", spec := "demandsetUtility", unfollowed := true, recurses := true, plainKeys := false, apart := false }
def DemandsetUtilitySaid : Prop := demandsetUtilityRow.holds Try.pinned (OpenSpec.ofChange demandsetUtilitySpec)

/-- ITS FALSE NEIGHBOUR: 'it returns false'. Refute it at one input. -/
def demandsetUtilityWrong : ChangeSpec := { name := "demandsetUtility", fn := fun _ => fun
  | [d1, d2, d3] => { results := [.lit (.bool false)], args := [d1, d2, d3] }
  | _ => none }
def DemandsetUtilityWrongFalsely : Prop := demandsetUtilityRow.holds Try.pinned (OpenSpec.ofChange demandsetUtilityWrong)

/-- 'saleroomlaw15.DemandsetBest': WHATEVER THE INPUT: true; the input reads as it did. -/
def demandsetBestSpec : ChangeSpec := { name := "demandsetBest", fn := fun _ => fun
  | [d1, d2, d3] => { results := [.lit (.bool true)], args := [d1, d2, d3] }
  | _ => none }
def demandsetBestRow : OpenClaim := { program := "ytjjpfpgjpmedmaa", sum := "ba54c8e50262cb271a610867e9369921893f7aa42268ced7f97c18ee72f6e057", func := "saleroom/saleroomlaw15.DemandsetBest", spec := "demandsetBest", unfollowed := true, recurses := true, plainKeys := false, apart := false }
def DemandsetBestSaid : Prop := demandsetBestRow.holds Try.pinned (OpenSpec.ofChange demandsetBestSpec)

/-- ITS FALSE NEIGHBOUR: 'it returns false'. Refute it at one input. -/
def demandsetBestWrong : ChangeSpec := { name := "demandsetBest", fn := fun _ => fun
  | [d1, d2, d3] => { results := [.lit (.bool false)], args := [d1, d2, d3] }
  | _ => none }
def DemandsetBestWrongFalsely : Prop := demandsetBestRow.holds Try.pinned (OpenSpec.ofChange demandsetBestWrong)

/-- 'saleroomlaw15.DemandsetOptimal': WHATEVER THE INPUT: true; the input reads as it did. -/
def demandsetOptimalSpec : ChangeSpec := { name := "demandsetOptimal", fn := fun _ => fun
  | [d1, d2, d3] => { results := [.lit (.bool true)], args := [d1, d2, d3] }
  | _ => none }
def demandsetOptimalRow : OpenClaim := { program := "ytjjpfpgjpmedmaa", sum := "ba54c8e50262cb271a610867e9369921893f7aa42268ced7f97c18ee72f6e057", func := "saleroom/saleroomlaw15.DemandsetOptimal", spec := "demandsetOptimal", unfollowed := true, recurses := true, plainKeys := false, apart := false }
def DemandsetOptimalSaid : Prop := demandsetOptimalRow.holds Try.pinned (OpenSpec.ofChange demandsetOptimalSpec)

/-- ITS FALSE NEIGHBOUR: 'it returns false'. Refute it at one input. -/
def demandsetOptimalWrong : ChangeSpec := { name := "demandsetOptimal", fn := fun _ => fun
  | [d1, d2, d3] => { results := [.lit (.bool false)], args := [d1, d2, d3] }
  | _ => none }
def DemandsetOptimalWrongFalsely : Prop := demandsetOptimalRow.holds Try.pinned (OpenSpec.ofChange demandsetOptimalWrong)

/-- 'saleroomlaw15.DemandsetLaw': WHATEVER THE INPUT: true; the input reads as it did. -/
def demandsetLawSpec : ChangeSpec := { name := "demandsetLaw", fn := fun _ => fun
  | [d1, d2, d3, d4, d5] => { results := [.lit (.bool true)], args := [d1, d2, d3, d4, d5] }
  | _ => none }
def demandsetLawRow : OpenClaim := { program := "ytjjpfpgjpmedmaa", sum := "ba54c8e50262cb271a610867e9369921893f7aa42268ced7f97c18ee72f6e057", func := "saleroom/saleroomlaw15.DemandsetLaw", spec := "demandsetLaw", unfollowed := true, recurses := true, plainKeys := false, apart := false }
def DemandsetLawSaid : Prop := demandsetLawRow.holds Try.pinned (OpenSpec.ofChange demandsetLawSpec)

/-- ITS FALSE NEIGHBOUR: 'it returns false'. Refute it at one input. -/
def demandsetLawWrong : ChangeSpec := { name := "demandsetLaw", fn := fun _ => fun
  | [d1, d2, d3, d4, d5] => { results := [.lit (.bool false)], args := [d1, d2, d3, d4, d5] }
  | _ => none }
def DemandsetLawWrongFalsely : Prop := demandsetLawRow.holds Try.pinned (OpenSpec.ofChange demandsetLawWrong)

/-- 'saleroomlaw15.DemandsetPath': WHATEVER THE INPUT: true; the input reads as it did. -/
def demandsetPathSpec : ChangeSpec := { name := "demandsetPath", fn := fun _ => fun
  | [d1, d2, d3] => { results := [.lit (.bool true)], args := [d1, d2, d3] }
  | _ => none }
def demandsetPathRow : OpenClaim := { program := "ytjjpfpgjpmedmaa", sum := "ba54c8e50262cb271a610867e9369921893f7aa42268ced7f97c18ee72f6e057", func := "saleroom/saleroomlaw15.DemandsetPath", spec := "demandsetPath", unfollowed := true, recurses := true, plainKeys := false, apart := false }
def DemandsetPathSaid : Prop := demandsetPathRow.holds Try.pinned (OpenSpec.ofChange demandsetPathSpec)

/-- ITS FALSE NEIGHBOUR: 'it returns false'. Refute it at one input. -/
def demandsetPathWrong : ChangeSpec := { name := "demandsetPath", fn := fun _ => fun
  | [d1, d2, d3] => { results := [.lit (.bool false)], args := [d1, d2, d3] }
  | _ => none }
def DemandsetPathWrongFalsely : Prop := demandsetPathRow.holds Try.pinned (OpenSpec.ofChange demandsetPathWrong)

/- THE SECOND FORM. 'bulk': how many values and letters a reading holds, each counted each time it is reached (what is shared counts as often as it is met; a slice's spare places count too). A statement '..UptoSaid' is the law's where the arguments, and the package variables that the reading takes, are together of bulk at most 1048576: NARROWER than '..Said'. Prove '..Said' where nothing that the law and all that it calls make is longer than what came in: it says more and counts as full. Else prove '..UptoSaid'. A law counts once. -/
mutual
def uptoBulk {H : Type} : DataW H → Nat
  | .lit (.string bytes) => bytes.length + 1
  | .lit _ => 1
  | .nil => 1
  | .ptr d => uptoBulk d + 1
  | .slice elems spare => uptoBulkAll elems + uptoBulkAll spare + 1
  | .agg parts => uptoBulkAll parts + 1
  | .iface _ d => uptoBulk d + 1
  | .map entries => uptoBulkEntries entries + 1
  | .held _ => 1
def uptoBulkAll {H : Type} : List (DataW H) → Nat
  | [] => 0
  | d :: r => uptoBulk d + uptoBulkAll r
def uptoBulkEntries {H : Type} : List (Lit × DataW H) → Nat
  | [] => 0
  | x :: r => uptoBulkEntry x + uptoBulkEntries r
def uptoBulkEntry {H : Type} : Lit × DataW H → Nat
  | (.string bytes, d) => bytes.length + uptoBulk d + 1
  | (_, d) => uptoBulk d + 1
 end
def uptoSmall : (H : Type) → List (DataW H) → Bool := fun _ ds => decide (uptoBulkAll ds ≤ 1048576)
def OpenSpec.upto (s : _root_.Go.ChangeSpec) : _root_.Go.OpenSpec := { _root_.Go.OpenSpec.ofChange s with cond := some uptoSmall }

/-- 'saleroomlaw14.FlattenExprs', WHERE WHAT IT READS IS OF BULK AT MOST 1048576: true; the input reads as it did. -/
def flattenExprsUptoRow : OpenClaim := { program := "ytjjpfpgjpmedmaa", sum := "ba54c8e50262cb271a610867e9369921893f7aa42268ced7f97c18ee72f6e057", func := "saleroom/saleroomlaw14.FlattenExprs", spec := "flattenExprs", unfollowed := true, recurses := true, plainKeys := false, apart := false, narrowed := true }
def FlattenExprsUptoSaid : Prop := flattenExprsUptoRow.holds Try.pinned (OpenSpec.upto flattenExprsSpec)

/-- 'saleroomlaw15.DemandsetUtility', WHERE WHAT IT READS IS OF BULK AT MOST 1048576: true; the input reads as it did. -/
def demandsetUtilityUptoRow : OpenClaim := { program := "ytjjpfpgjpmedmaa", sum := "ba54c8e50262cb271a610867e9369921893f7aa42268ced7f97c18ee72f6e057", func := "saleroom/saleroomlaw15.DemandsetUtility", spec := "demandsetUtility", unfollowed := true, recurses := true, plainKeys := false, apart := false, narrowed := true }
def DemandsetUtilityUptoSaid : Prop := demandsetUtilityUptoRow.holds Try.pinned (OpenSpec.upto demandsetUtilitySpec)

/-- 'saleroomlaw15.DemandsetBest', WHERE WHAT IT READS IS OF BULK AT MOST 1048576: true; the input reads as it did. -/
def demandsetBestUptoRow : OpenClaim := { program := "ytjjpfpgjpmedmaa", sum := "ba54c8e50262cb271a610867e9369921893f7aa42268ced7f97c18ee72f6e057", func := "saleroom/saleroomlaw15.DemandsetBest", spec := "demandsetBest", unfollowed := true, recurses := true, plainKeys := false, apart := false, narrowed := true }
def DemandsetBestUptoSaid : Prop := demandsetBestUptoRow.holds Try.pinned (OpenSpec.upto demandsetBestSpec)

/-- 'saleroomlaw15.DemandsetOptimal', WHERE WHAT IT READS IS OF BULK AT MOST 1048576: true; the input reads as it did. -/
def demandsetOptimalUptoRow : OpenClaim := { program := "ytjjpfpgjpmedmaa", sum := "ba54c8e50262cb271a610867e9369921893f7aa42268ced7f97c18ee72f6e057", func := "saleroom/saleroomlaw15.DemandsetOptimal", spec := "demandsetOptimal", unfollowed := true, recurses := true, plainKeys := false, apart := false, narrowed := true }
def DemandsetOptimalUptoSaid : Prop := demandsetOptimalUptoRow.holds Try.pinned (OpenSpec.upto demandsetOptimalSpec)

/-- 'saleroomlaw15.DemandsetLaw', WHERE WHAT IT READS IS OF BULK AT MOST 1048576: true; the input reads as it did. -/
def demandsetLawUptoRow : OpenClaim := { program := "ytjjpfpgjpmedmaa", sum := "ba54c8e50262cb271a610867e9369921893f7aa42268ced7f97c18ee72f6e057", func := "saleroom/saleroomlaw15.DemandsetLaw", spec := "demandsetLaw", unfollowed := true, recurses := true, plainKeys := false, apart := false, narrowed := true }
def DemandsetLawUptoSaid : Prop := demandsetLawUptoRow.holds Try.pinned (OpenSpec.upto demandsetLawSpec)

/-- 'saleroomlaw15.DemandsetPath', WHERE WHAT IT READS IS OF BULK AT MOST 1048576: true; the input reads as it did. -/
def demandsetPathUptoRow : OpenClaim := { program := "ytjjpfpgjpmedmaa", sum := "ba54c8e50262cb271a610867e9369921893f7aa42268ced7f97c18ee72f6e057", func := "saleroom/saleroomlaw15.DemandsetPath", spec := "demandsetPath", unfollowed := true, recurses := true, plainKeys := false, apart := false, narrowed := true }
def DemandsetPathUptoSaid : Prop := demandsetPathUptoRow.holds Try.pinned (OpenSpec.upto demandsetPathSpec)

end Rows
end Go.Proofs.Ytjjpfpgjpmedmaa
