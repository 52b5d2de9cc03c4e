/-
  NARROWER THAN 'FOR EVERY INPUT', by the rows' own cells (each row's printed sentence says how): ValuationMonotone: loops · ValuationValues: loops · ValuationTables: loops · ValuationJoins: loops · FlattenOffers: loops · FlattenValue: loops · FlattenMinimal: loops.
  DERIVED. THE GIVEN ROWS OF THIS SEAT. 12 by the template 'for every input the law returns true; each argument reads behind the call as it read before'; 0 by the template 'total and deterministic' (their statements: YtgknggighpjcdaaTotals.lean).
  GIVEN WITH THE SEED: the statements are not yours to turn. If you find one false, say at which input.
  Laid BY PROGRAM, IN A SANDBOX (cutbox-rows.mjs): the forced cells as the released guide's own fill.sh prints them over the translation 7a5dbbcb92d09949… (all of the seat's roots in one cut). By AI agents, Wed Nov 11 2026. No macro, syntax, notation, axiom, sorry.
-/
import Derived.Test.YtgknggighpjcdaaChecked
import GoSem.Claim
import GoSem.ClaimJoined
import GoSem.ClaimMapViews
import Derived.JoinedTies
import Derived.KernelRfl
namespace Go.Proofs.Ytgknggighpjcdaa
/- THE CELL 'sum', in the pinned program and in every row, IS THE sha256 OF THE DUMP (.gsa) THAT YtgknggighpjcdaaProg.lean LOADS. Nothing in Lean hashes anything: it is a label: what it is worth is what the hold of that sum in a sandbox is worth. -/
noncomputable def Try.pinned : Pinned := { name := "ytgknggighpjcdaa", sum := "7a5dbbcb92d09949bea315a49f2a044cd1b6927cba6d3976998b9dfaa45bd9b6", checked := Try.checked }
namespace Rows
def none {H : Type} : Left H := { results := [], args := [] }

/-- 'saleroomlaw13.ValuationMonotone': WHATEVER THE INPUT: true; the input reads as it did. -/
def valuationMonotoneSpec : ChangeSpec := { name := "valuationMonotone", fn := fun _ => fun
  | [d1, d2, d3] => { results := [.lit (.bool true)], args := [d1, d2, d3] }
  | _ => none }
def valuationMonotoneRow : OpenClaim := { program := "ytgknggighpjcdaa", sum := "7a5dbbcb92d09949bea315a49f2a044cd1b6927cba6d3976998b9dfaa45bd9b6", func := "saleroom/saleroomlaw13.ValuationMonotone", spec := "valuationMonotone", unfollowed := true, recurses := true, loops := true, plainKeys := false, apart := false }
def ValuationMonotoneSaid : Prop := valuationMonotoneRow.holds Try.pinned (OpenSpec.ofChange valuationMonotoneSpec)

/-- ITS FALSE NEIGHBOUR: 'it returns false'. Refute it at one input. -/
def valuationMonotoneWrong : ChangeSpec := { name := "valuationMonotone", fn := fun _ => fun
  | [d1, d2, d3] => { results := [.lit (.bool false)], args := [d1, d2, d3] }
  | _ => none }
def ValuationMonotoneWrongFalsely : Prop := valuationMonotoneRow.holds Try.pinned (OpenSpec.ofChange valuationMonotoneWrong)

/-- 'saleroomlaw13.ValuationValues': WHATEVER THE INPUT: true; the input reads as it did. -/
def valuationValuesSpec : ChangeSpec := { name := "valuationValues", fn := fun _ => fun
  | [d1, d2] => { results := [.lit (.bool true)], args := [d1, d2] }
  | _ => none }
def valuationValuesRow : OpenClaim := { program := "ytgknggighpjcdaa", sum := "7a5dbbcb92d09949bea315a49f2a044cd1b6927cba6d3976998b9dfaa45bd9b6", func := "saleroom/saleroomlaw13.ValuationValues", spec := "valuationValues", unfollowed := true, recurses := true, loops := true, plainKeys := false, apart := false }
def ValuationValuesSaid : Prop := valuationValuesRow.holds Try.pinned (OpenSpec.ofChange valuationValuesSpec)

/-- ITS FALSE NEIGHBOUR: 'it returns false'. Refute it at one input. -/
def valuationValuesWrong : ChangeSpec := { name := "valuationValues", fn := fun _ => fun
  | [d1, d2] => { results := [.lit (.bool false)], args := [d1, d2] }
  | _ => none }
def ValuationValuesWrongFalsely : Prop := valuationValuesRow.holds Try.pinned (OpenSpec.ofChange valuationValuesWrong)

/-- 'saleroomlaw13.ValuationTables': WHATEVER THE INPUT: true; the input reads as it did. -/
def valuationTablesSpec : ChangeSpec := { name := "valuationTables", fn := fun _ => fun
  | [d1, d2] => { results := [.lit (.bool true)], args := [d1, d2] }
  | _ => none }
def valuationTablesRow : OpenClaim := { program := "ytgknggighpjcdaa", sum := "7a5dbbcb92d09949bea315a49f2a044cd1b6927cba6d3976998b9dfaa45bd9b6", func := "saleroom/saleroomlaw13.ValuationTables", spec := "valuationTables", unfollowed := true, recurses := true, loops := true, plainKeys := false, apart := false }
def ValuationTablesSaid : Prop := valuationTablesRow.holds Try.pinned (OpenSpec.ofChange valuationTablesSpec)

/-- ITS FALSE NEIGHBOUR: 'it returns false'. Refute it at one input. -/
def valuationTablesWrong : ChangeSpec := { name := "valuationTables", fn := fun _ => fun
  | [d1, d2] => { results := [.lit (.bool false)], args := [d1, d2] }
  | _ => none }
def ValuationTablesWrongFalsely : Prop := valuationTablesRow.holds Try.pinned (OpenSpec.ofChange valuationTablesWrong)

/-- 'saleroomlaw13.ValuationOrders': WHATEVER THE INPUT: true; the input reads as it did. -/
def valuationOrdersSpec : ChangeSpec := { name := "valuationOrders", fn := fun _ => fun
  | [d1, d2] => { results := [.lit (.bool true)], args := [d1, d2] }
  | _ => none }
def valuationOrdersRow : OpenClaim := { program := "ytgknggighpjcdaa", sum := "7a5dbbcb92d09949bea315a49f2a044cd1b6927cba6d3976998b9dfaa45bd9b6", func := "saleroom/saleroomlaw13.ValuationOrders", spec := "valuationOrders", unfollowed := true, recurses := true, plainKeys := false, apart := false }
def ValuationOrdersSaid : Prop := valuationOrdersRow.holds Try.pinned (OpenSpec.ofChange valuationOrdersSpec)

/-- ITS FALSE NEIGHBOUR: 'it returns false'. Refute it at one input. -/
def valuationOrdersWrong : ChangeSpec := { name := "valuationOrders", fn := fun _ => fun
  | [d1, d2] => { results := [.lit (.bool false)], args := [d1, d2] }
  | _ => none }
def ValuationOrdersWrongFalsely : Prop := valuationOrdersRow.holds Try.pinned (OpenSpec.ofChange valuationOrdersWrong)

/-- 'saleroomlaw13.ValuationJoins': WHATEVER THE INPUT: true; the input reads as it did. -/
def valuationJoinsSpec : ChangeSpec := { name := "valuationJoins", fn := fun _ => fun
  | [d1, d2, d3] => { results := [.lit (.bool true)], args := [d1, d2, d3] }
  | _ => none }
def valuationJoinsRow : OpenClaim := { program := "ytgknggighpjcdaa", sum := "7a5dbbcb92d09949bea315a49f2a044cd1b6927cba6d3976998b9dfaa45bd9b6", func := "saleroom/saleroomlaw13.ValuationJoins", spec := "valuationJoins", unfollowed := true, recurses := true, loops := true, plainKeys := false, apart := false }
def ValuationJoinsSaid : Prop := valuationJoinsRow.holds Try.pinned (OpenSpec.ofChange valuationJoinsSpec)

/-- ITS FALSE NEIGHBOUR: 'it returns false'. Refute it at one input. -/
def valuationJoinsWrong : ChangeSpec := { name := "valuationJoins", fn := fun _ => fun
  | [d1, d2, d3] => { results := [.lit (.bool false)], args := [d1, d2, d3] }
  | _ => none }
def ValuationJoinsWrongFalsely : Prop := valuationJoinsRow.holds Try.pinned (OpenSpec.ofChange valuationJoinsWrong)

/-- 'saleroomlaw14.FlattenOffers': WHATEVER THE INPUT: true; the input reads as it did. -/
def flattenOffersSpec : ChangeSpec := { name := "flattenOffers", fn := fun _ => fun
  | [d1, d2] => { results := [.lit (.bool true)], args := [d1, d2] }
  | _ => none }
def flattenOffersRow : OpenClaim := { program := "ytgknggighpjcdaa", sum := "7a5dbbcb92d09949bea315a49f2a044cd1b6927cba6d3976998b9dfaa45bd9b6", func := "saleroom/saleroomlaw14.FlattenOffers", spec := "flattenOffers", unfollowed := true, recurses := true, loops := true, plainKeys := false, apart := false }
def FlattenOffersSaid : Prop := flattenOffersRow.holds Try.pinned (OpenSpec.ofChange flattenOffersSpec)

/-- ITS FALSE NEIGHBOUR: 'it returns false'. Refute it at one input. -/
def flattenOffersWrong : ChangeSpec := { name := "flattenOffers", fn := fun _ => fun
  | [d1, d2] => { results := [.lit (.bool false)], args := [d1, d2] }
  | _ => none }
def FlattenOffersWrongFalsely : Prop := flattenOffersRow.holds Try.pinned (OpenSpec.ofChange flattenOffersWrong)

/-- 'saleroomlaw14.FlattenTables': WHATEVER THE INPUT: true; the input reads as it did. -/
def flattenTablesSpec : ChangeSpec := { name := "flattenTables", fn := fun _ => fun
  | [d1, d2] => { results := [.lit (.bool true)], args := [d1, d2] }
  | _ => none }
def flattenTablesRow : OpenClaim := { program := "ytgknggighpjcdaa", sum := "7a5dbbcb92d09949bea315a49f2a044cd1b6927cba6d3976998b9dfaa45bd9b6", func := "saleroom/saleroomlaw14.FlattenTables", spec := "flattenTables", unfollowed := true, recurses := true, plainKeys := false, apart := false }
def FlattenTablesSaid : Prop := flattenTablesRow.holds Try.pinned (OpenSpec.ofChange flattenTablesSpec)

/-- ITS FALSE NEIGHBOUR: 'it returns false'. Refute it at one input. -/
def flattenTablesWrong : ChangeSpec := { name := "flattenTables", fn := fun _ => fun
  | [d1, d2] => { results := [.lit (.bool false)], args := [d1, d2] }
  | _ => none }
def FlattenTablesWrongFalsely : Prop := flattenTablesRow.holds Try.pinned (OpenSpec.ofChange flattenTablesWrong)

/-- 'saleroomlaw14.FlattenValue': WHATEVER THE INPUT: true; the input reads as it did. -/
def flattenValueSpec : ChangeSpec := { name := "flattenValue", fn := fun _ => fun
  | [d1, d2] => { results := [.lit (.bool true)], args := [d1, d2] }
  | _ => none }
def flattenValueRow : OpenClaim := { program := "ytgknggighpjcdaa", sum := "7a5dbbcb92d09949bea315a49f2a044cd1b6927cba6d3976998b9dfaa45bd9b6", func := "saleroom/saleroomlaw14.FlattenValue", spec := "flattenValue", unfollowed := true, recurses := true, loops := true, plainKeys := false, apart := false }
def FlattenValueSaid : Prop := flattenValueRow.holds Try.pinned (OpenSpec.ofChange flattenValueSpec)

/-- ITS FALSE NEIGHBOUR: 'it returns false'. Refute it at one input. -/
def flattenValueWrong : ChangeSpec := { name := "flattenValue", fn := fun _ => fun
  | [d1, d2] => { results := [.lit (.bool false)], args := [d1, d2] }
  | _ => none }
def FlattenValueWrongFalsely : Prop := flattenValueRow.holds Try.pinned (OpenSpec.ofChange flattenValueWrong)

/-- 'saleroomlaw14.FlattenValues': WHATEVER THE INPUT: true; the input reads as it did. -/
def flattenValuesSpec : ChangeSpec := { name := "flattenValues", fn := fun _ => fun
  | [d1, d2] => { results := [.lit (.bool true)], args := [d1, d2] }
  | _ => none }
def flattenValuesRow : OpenClaim := { program := "ytgknggighpjcdaa", sum := "7a5dbbcb92d09949bea315a49f2a044cd1b6927cba6d3976998b9dfaa45bd9b6", func := "saleroom/saleroomlaw14.FlattenValues", spec := "flattenValues", unfollowed := true, recurses := true, plainKeys := false, apart := false }
def FlattenValuesSaid : Prop := flattenValuesRow.holds Try.pinned (OpenSpec.ofChange flattenValuesSpec)

/-- ITS FALSE NEIGHBOUR: 'it returns false'. Refute it at one input. -/
def flattenValuesWrong : ChangeSpec := { name := "flattenValues", fn := fun _ => fun
  | [d1, d2] => { results := [.lit (.bool false)], args := [d1, d2] }
  | _ => none }
def FlattenValuesWrongFalsely : Prop := flattenValuesRow.holds Try.pinned (OpenSpec.ofChange flattenValuesWrong)

/-- 'saleroomlaw14.FlattenExprs': WHATEVER THE INPUT: true; the input reads as it did. -/
def flattenExprsSpec : ChangeSpec := { name := "flattenExprs", fn := fun _ => fun
  | [d1, d2] => { results := [.lit (.bool true)], args := [d1, d2] }
  | _ => none }
def flattenExprsRow : OpenClaim := { program := "ytgknggighpjcdaa", sum := "7a5dbbcb92d09949bea315a49f2a044cd1b6927cba6d3976998b9dfaa45bd9b6", func := "saleroom/saleroomlaw14.FlattenExprs", spec := "flattenExprs", unfollowed := true, recurses := true, plainKeys := false, apart := false }
def FlattenExprsSaid : Prop := flattenExprsRow.holds Try.pinned (OpenSpec.ofChange flattenExprsSpec)

/-- ITS FALSE NEIGHBOUR: 'it returns false'. Refute it at one input. -/
def flattenExprsWrong : ChangeSpec := { name := "flattenExprs", fn := fun _ => fun
  | [d1, d2] => { results := [.lit (.bool false)], args := [d1, d2] }
  | _ => none }
def FlattenExprsWrongFalsely : Prop := flattenExprsRow.holds Try.pinned (OpenSpec.ofChange flattenExprsWrong)

/-- 'saleroomlaw14.FlattenCleans': WHATEVER THE INPUT: true; the input reads as it did. -/
def flattenCleansSpec : ChangeSpec := { name := "flattenCleans", fn := fun _ => fun
  | [d1, d2, d3] => { results := [.lit (.bool true)], args := [d1, d2, d3] }
  | _ => none }
def flattenCleansRow : OpenClaim := { program := "ytgknggighpjcdaa", sum := "7a5dbbcb92d09949bea315a49f2a044cd1b6927cba6d3976998b9dfaa45bd9b6", func := "saleroom/saleroomlaw14.FlattenCleans", spec := "flattenCleans", unfollowed := true, recurses := true, plainKeys := false, apart := false }
def FlattenCleansSaid : Prop := flattenCleansRow.holds Try.pinned (OpenSpec.ofChange flattenCleansSpec)

/-- ITS FALSE NEIGHBOUR: 'it returns false'. Refute it at one input. -/
def flattenCleansWrong : ChangeSpec := { name := "flattenCleans", fn := fun _ => fun
  | [d1, d2, d3] => { results := [.lit (.bool false)], args := [d1, d2, d3] }
  | _ => none }
def FlattenCleansWrongFalsely : Prop := flattenCleansRow.holds Try.pinned (OpenSpec.ofChange flattenCleansWrong)

/-- 'saleroomlaw14.FlattenMinimal': WHATEVER THE INPUT: true; the input reads as it did. -/
def flattenMinimalSpec : ChangeSpec := { name := "flattenMinimal", fn := fun _ => fun
  | [d1, d2] => { results := [.lit (.bool true)], args := [d1, d2] }
  | _ => none }
def flattenMinimalRow : OpenClaim := { program := "ytgknggighpjcdaa", sum := "7a5dbbcb92d09949bea315a49f2a044cd1b6927cba6d3976998b9dfaa45bd9b6", func := "saleroom/saleroomlaw14.FlattenMinimal", spec := "flattenMinimal", unfollowed := true, recurses := true, loops := true, plainKeys := false, apart := false }
def FlattenMinimalSaid : Prop := flattenMinimalRow.holds Try.pinned (OpenSpec.ofChange flattenMinimalSpec)

/-- ITS FALSE NEIGHBOUR: 'it returns false'. Refute it at one input. -/
def flattenMinimalWrong : ChangeSpec := { name := "flattenMinimal", fn := fun _ => fun
  | [d1, d2] => { results := [.lit (.bool false)], args := [d1, d2] }
  | _ => none }
def FlattenMinimalWrongFalsely : Prop := flattenMinimalRow.holds Try.pinned (OpenSpec.ofChange flattenMinimalWrong)

/- THE SECOND FORM. 'bulk': how many values and letters a reading holds, each counted each time it is reached (what is shared counts as often as it is met; a slice's spare places count too). A statement '..UptoSaid' is the law's where the arguments, and the package variables that the reading takes, are together of bulk at most 1048576: NARROWER than '..Said'. Prove '..Said' where nothing that the law and all that it calls make is longer than what came in: it says more and counts as full. Else prove '..UptoSaid'. A law counts once. -/
mutual
def uptoBulk {H : Type} : DataW H → Nat
  | .lit (.string bytes) => bytes.length + 1
  | .lit _ => 1
  | .nil => 1
  | .ptr d => uptoBulk d + 1
  | .slice elems spare => uptoBulkAll elems + uptoBulkAll spare + 1
  | .agg parts => uptoBulkAll parts + 1
  | .iface _ d => uptoBulk d + 1
  | .map entries => uptoBulkEntries entries + 1
  | .held _ => 1
def uptoBulkAll {H : Type} : List (DataW H) → Nat
  | [] => 0
  | d :: r => uptoBulk d + uptoBulkAll r
def uptoBulkEntries {H : Type} : List (Lit × DataW H) → Nat
  | [] => 0
  | x :: r => uptoBulkEntry x + uptoBulkEntries r
def uptoBulkEntry {H : Type} : Lit × DataW H → Nat
  | (.string bytes, d) => bytes.length + uptoBulk d + 1
  | (_, d) => uptoBulk d + 1
 end
def uptoSmall : (H : Type) → List (DataW H) → Bool := fun _ ds => decide (uptoBulkAll ds ≤ 1048576)
def OpenSpec.upto (s : _root_.Go.ChangeSpec) : _root_.Go.OpenSpec := { _root_.Go.OpenSpec.ofChange s with cond := some uptoSmall }

/-- 'saleroomlaw13.ValuationMonotone', WHERE WHAT IT READS IS OF BULK AT MOST 1048576: true; the input reads as it did. -/
def valuationMonotoneUptoRow : OpenClaim := { program := "ytgknggighpjcdaa", sum := "7a5dbbcb92d09949bea315a49f2a044cd1b6927cba6d3976998b9dfaa45bd9b6", func := "saleroom/saleroomlaw13.ValuationMonotone", spec := "valuationMonotone", unfollowed := true, recurses := true, loops := true, plainKeys := false, apart := false, narrowed := true }
def ValuationMonotoneUptoSaid : Prop := valuationMonotoneUptoRow.holds Try.pinned (OpenSpec.upto valuationMonotoneSpec)

/-- 'saleroomlaw13.ValuationValues', WHERE WHAT IT READS IS OF BULK AT MOST 1048576: true; the input reads as it did. -/
def valuationValuesUptoRow : OpenClaim := { program := "ytgknggighpjcdaa", sum := "7a5dbbcb92d09949bea315a49f2a044cd1b6927cba6d3976998b9dfaa45bd9b6", func := "saleroom/saleroomlaw13.ValuationValues", spec := "valuationValues", unfollowed := true, recurses := true, loops := true, plainKeys := false, apart := false, narrowed := true }
def ValuationValuesUptoSaid : Prop := valuationValuesUptoRow.holds Try.pinned (OpenSpec.upto valuationValuesSpec)

/-- 'saleroomlaw13.ValuationTables', WHERE WHAT IT READS IS OF BULK AT MOST 1048576: true; the input reads as it did. -/
def valuationTablesUptoRow : OpenClaim := { program := "ytgknggighpjcdaa", sum := "7a5dbbcb92d09949bea315a49f2a044cd1b6927cba6d3976998b9dfaa45bd9b6", func := "saleroom/saleroomlaw13.ValuationTables", spec := "valuationTables", unfollowed := true, recurses := true, loops := true, plainKeys := false, apart := false, narrowed := true }
def ValuationTablesUptoSaid : Prop := valuationTablesUptoRow.holds Try.pinned (OpenSpec.upto valuationTablesSpec)

/-- 'saleroomlaw13.ValuationOrders', WHERE WHAT IT READS IS OF BULK AT MOST 1048576: true; the input reads as it did. -/
def valuationOrdersUptoRow : OpenClaim := { program := "ytgknggighpjcdaa", sum := "7a5dbbcb92d09949bea315a49f2a044cd1b6927cba6d3976998b9dfaa45bd9b6", func := "saleroom/saleroomlaw13.ValuationOrders", spec := "valuationOrders", unfollowed := true, recurses := true, plainKeys := false, apart := false, narrowed := true }
def ValuationOrdersUptoSaid : Prop := valuationOrdersUptoRow.holds Try.pinned (OpenSpec.upto valuationOrdersSpec)

/-- 'saleroomlaw13.ValuationJoins', WHERE WHAT IT READS IS OF BULK AT MOST 1048576: true; the input reads as it did. -/
def valuationJoinsUptoRow : OpenClaim := { program := "ytgknggighpjcdaa", sum := "7a5dbbcb92d09949bea315a49f2a044cd1b6927cba6d3976998b9dfaa45bd9b6", func := "saleroom/saleroomlaw13.ValuationJoins", spec := "valuationJoins", unfollowed := true, recurses := true, loops := true, plainKeys := false, apart := false, narrowed := true }
def ValuationJoinsUptoSaid : Prop := valuationJoinsUptoRow.holds Try.pinned (OpenSpec.upto valuationJoinsSpec)

/-- 'saleroomlaw14.FlattenOffers', WHERE WHAT IT READS IS OF BULK AT MOST 1048576: true; the input reads as it did. -/
def flattenOffersUptoRow : OpenClaim := { program := "ytgknggighpjcdaa", sum := "7a5dbbcb92d09949bea315a49f2a044cd1b6927cba6d3976998b9dfaa45bd9b6", func := "saleroom/saleroomlaw14.FlattenOffers", spec := "flattenOffers", unfollowed := true, recurses := true, loops := true, plainKeys := false, apart := false, narrowed := true }
def FlattenOffersUptoSaid : Prop := flattenOffersUptoRow.holds Try.pinned (OpenSpec.upto flattenOffersSpec)

/-- 'saleroomlaw14.FlattenTables', WHERE WHAT IT READS IS OF BULK AT MOST 1048576: true; the input reads as it did. -/
def flattenTablesUptoRow : OpenClaim := { program := "ytgknggighpjcdaa", sum := "7a5dbbcb92d09949bea315a49f2a044cd1b6927cba6d3976998b9dfaa45bd9b6", func := "saleroom/saleroomlaw14.FlattenTables", spec := "flattenTables", unfollowed := true, recurses := true, plainKeys := false, apart := false, narrowed := true }
def FlattenTablesUptoSaid : Prop := flattenTablesUptoRow.holds Try.pinned (OpenSpec.upto flattenTablesSpec)

/-- 'saleroomlaw14.FlattenValue', WHERE WHAT IT READS IS OF BULK AT MOST 1048576: true; the input reads as it did. -/
def flattenValueUptoRow : OpenClaim := { program := "ytgknggighpjcdaa", sum := "7a5dbbcb92d09949bea315a49f2a044cd1b6927cba6d3976998b9dfaa45bd9b6", func := "saleroom/saleroomlaw14.FlattenValue", spec := "flattenValue", unfollowed := true, recurses := true, loops := true, plainKeys := false, apart := false, narrowed := true }
def FlattenValueUptoSaid : Prop := flattenValueUptoRow.holds Try.pinned (OpenSpec.upto flattenValueSpec)

/-- 'saleroomlaw14.FlattenValues', WHERE WHAT IT READS IS OF BULK AT MOST 1048576: true; the input reads as it did. -/
def flattenValuesUptoRow : OpenClaim := { program := "ytgknggighpjcdaa", sum := "7a5dbbcb92d09949bea315a49f2a044cd1b6927cba6d3976998b9dfaa45bd9b6", func := "saleroom/saleroomlaw14.FlattenValues", spec := "flattenValues", unfollowed := true, recurses := true, plainKeys := false, apart := false, narrowed := true }
def FlattenValuesUptoSaid : Prop := flattenValuesUptoRow.holds Try.pinned (OpenSpec.upto flattenValuesSpec)

/-- 'saleroomlaw14.FlattenExprs', WHERE WHAT IT READS IS OF BULK AT MOST 1048576: true; the input reads as it did. -/
def flattenExprsUptoRow : OpenClaim := { program := "ytgknggighpjcdaa", sum := "7a5dbbcb92d09949bea315a49f2a044cd1b6927cba6d3976998b9dfaa45bd9b6", func := "saleroom/saleroomlaw14.FlattenExprs", spec := "flattenExprs", unfollowed := true, recurses := true, plainKeys := false, apart := false, narrowed := true }
def FlattenExprsUptoSaid : Prop := flattenExprsUptoRow.holds Try.pinned (OpenSpec.upto flattenExprsSpec)

/-- 'saleroomlaw14.FlattenCleans', WHERE WHAT IT READS IS OF BULK AT MOST 1048576: true; the input reads as it did. -/
def flattenCleansUptoRow : OpenClaim := { program := "ytgknggighpjcdaa", sum := "7a5dbbcb92d09949bea315a49f2a044cd1b6927cba6d3976998b9dfaa45bd9b6", func := "saleroom/saleroomlaw14.FlattenCleans", spec := "flattenCleans", unfollowed := true, recurses := true, plainKeys := false, apart := false, narrowed := true }
def FlattenCleansUptoSaid : Prop := flattenCleansUptoRow.holds Try.pinned (OpenSpec.upto flattenCleansSpec)

/-- 'saleroomlaw14.FlattenMinimal', WHERE WHAT IT READS IS OF BULK AT MOST 1048576: true; the input reads as it did. -/
def flattenMinimalUptoRow : OpenClaim := { program := "ytgknggighpjcdaa", sum := "7a5dbbcb92d09949bea315a49f2a044cd1b6927cba6d3976998b9dfaa45bd9b6", func := "saleroom/saleroomlaw14.FlattenMinimal", spec := "flattenMinimal", unfollowed := true, recurses := true, loops := true, plainKeys := false, apart := false, narrowed := true }
def FlattenMinimalUptoSaid : Prop := flattenMinimalUptoRow.holds Try.pinned (OpenSpec.upto flattenMinimalSpec)

end Rows
end Go.Proofs.Ytgknggighpjcdaa
