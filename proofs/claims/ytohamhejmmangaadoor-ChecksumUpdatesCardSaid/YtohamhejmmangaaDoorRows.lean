/-
  NARROWER THAN 'FOR EVERY INPUT', by the rows' own cells (each row's printed sentence says how): ChecksumCRC: laid · ChecksumUpdates: laid · ChecksumHashes: laid · ChecksumSeals: laid · ChecksumDetects: laid · ChecksumHex: laid · ChecksumChains: laid.
  DERIVED. THE GIVEN ROWS OF THIS SEAT. 7 by the template 'for every input the law returns true; each argument reads behind the call as it read before'; 0 by the template 'total and deterministic' (their statements: YtohamhejmmangaaDoorTotals.lean).
  GIVEN WITH THE SEED: the statements are not yours to turn. If you find one false, say at which input.
  Laid BY PROGRAM, IN A SANDBOX (cutbox-rows.mjs): the forced cells as the released guide's own fill.sh prints them over the translation 94d4a9f9762face4… (all of the seat's roots in one cut). By AI agents, Wed Nov 11 2026. No macro, syntax, notation, axiom, sorry.
-/
import Derived.Test.YtohamhejmmangaaDoorChecked
import GoSem.Claim
import GoSem.ClaimJoined
import GoSem.ClaimMapViews
import Derived.JoinedTies
import Derived.KernelRfl
namespace Go.Proofs.YtohamhejmmangaaDoor
/- THE CELL 'sum', in the pinned program and in every row, IS THE sha256 OF THE DUMP (.gsa) THAT YtohamhejmmangaaDoorProg.lean LOADS. Nothing in Lean hashes anything: it is a label: what it is worth is what the hold of that sum in a sandbox is worth. -/
noncomputable def Tryd.pinned : Pinned := { name := "ytohamhejmmangaadoor", sum := "94d4a9f9762face433ccc12f0eb6c9b5060e97b9887626608264c3b01724b315", checked := Tryd.checked }
namespace Rows
def none {H : Type} : Left H := { results := [], args := [] }

/- WHAT THE LISTED PACKAGE-LEVEL VARIABLES READ AS WHEN THE CALL BEGINS. Each datum BY PROGRAM (the guide's laid-datum.mjs) off the statement by which the dump's own 'gosem.cut.vars' lays the variable. In a bare row this is a premise. The card (YtohamhejmmangaaDoorCards.lean) ties it to the program's text. -/
def laid_saleroom_checksum_nibbleSteps {H : Type} : DataW H := .agg [.lit (.int .u32 0), .lit (.int .u32 274646895), .lit (.int .u32 549293790), .lit (.int .u32 820201905), .lit (.int .u32 1098587580), .lit (.int .u32 1361435347), .lit (.int .u32 1640403810), .lit (.int .u32 1905808397), .lit (.int .u32 2197175160), .lit (.int .u32 2460548119), .lit (.int .u32 2722870694), .lit (.int .u32 2987750089), .lit (.int .u32 3280807620), .lit (.int .u32 3553878443), .lit (.int .u32 3811616794), .lit (.int .u32 4084100981)]

/-- 'saleroomlaw03.ChecksumCRC': WHATEVER THE INPUT: true; the input reads as it did. -/
def checksumCRCSpec : ChangeSpec := { name := "checksumCRC", fn := fun _ => fun
  | [d1, d2] => { results := [.lit (.bool true)], args := [d1, d2] }
  | _ => none }
def checksumCRCRow : OpenClaim := { program := "ytohamhejmmangaadoor", sum := "94d4a9f9762face433ccc12f0eb6c9b5060e97b9887626608264c3b01724b315", func := "saleroom/saleroomlaw03.ChecksumCRC", spec := "checksumCRC", named := ["saleroom/checksum.nibbleSteps"], apart := false, laid := [("saleroom/checksum.nibbleSteps", laid_saleroom_checksum_nibbleSteps)] }
def ChecksumCRCSaid : Prop := checksumCRCRow.holds Tryd.pinned (OpenSpec.ofChange checksumCRCSpec)

/-- ITS FALSE NEIGHBOUR: 'it returns false'. Refute it at one input. -/
def checksumCRCWrong : ChangeSpec := { name := "checksumCRC", fn := fun _ => fun
  | [d1, d2] => { results := [.lit (.bool false)], args := [d1, d2] }
  | _ => none }
def ChecksumCRCWrongFalsely : Prop := checksumCRCRow.holds Tryd.pinned (OpenSpec.ofChange checksumCRCWrong)

/-- 'saleroomlaw03.ChecksumUpdates': WHATEVER THE INPUT: true; the input reads as it did. -/
def checksumUpdatesSpec : ChangeSpec := { name := "checksumUpdates", fn := fun _ => fun
  | [d1, d2, d3] => { results := [.lit (.bool true)], args := [d1, d2, d3] }
  | _ => none }
def checksumUpdatesRow : OpenClaim := { program := "ytohamhejmmangaadoor", sum := "94d4a9f9762face433ccc12f0eb6c9b5060e97b9887626608264c3b01724b315", func := "saleroom/saleroomlaw03.ChecksumUpdates", spec := "checksumUpdates", named := ["saleroom/checksum.nibbleSteps"], apart := false, laid := [("saleroom/checksum.nibbleSteps", laid_saleroom_checksum_nibbleSteps)] }
def ChecksumUpdatesSaid : Prop := checksumUpdatesRow.holds Tryd.pinned (OpenSpec.ofChange checksumUpdatesSpec)

/-- ITS FALSE NEIGHBOUR: 'it returns false'. Refute it at one input. -/
def checksumUpdatesWrong : ChangeSpec := { name := "checksumUpdates", fn := fun _ => fun
  | [d1, d2, d3] => { results := [.lit (.bool false)], args := [d1, d2, d3] }
  | _ => none }
def ChecksumUpdatesWrongFalsely : Prop := checksumUpdatesRow.holds Tryd.pinned (OpenSpec.ofChange checksumUpdatesWrong)

/-- 'saleroomlaw03.ChecksumHashes': WHATEVER THE INPUT: true; the input reads as it did. -/
def checksumHashesSpec : ChangeSpec := { name := "checksumHashes", fn := fun _ => fun
  | [d1, d2] => { results := [.lit (.bool true)], args := [d1, d2] }
  | _ => none }
def checksumHashesRow : OpenClaim := { program := "ytohamhejmmangaadoor", sum := "94d4a9f9762face433ccc12f0eb6c9b5060e97b9887626608264c3b01724b315", func := "saleroom/saleroomlaw03.ChecksumHashes", spec := "checksumHashes", named := ["saleroom/checksum.nibbleSteps"], apart := false, laid := [("saleroom/checksum.nibbleSteps", laid_saleroom_checksum_nibbleSteps)] }
def ChecksumHashesSaid : Prop := checksumHashesRow.holds Tryd.pinned (OpenSpec.ofChange checksumHashesSpec)

/-- ITS FALSE NEIGHBOUR: 'it returns false'. Refute it at one input. -/
def checksumHashesWrong : ChangeSpec := { name := "checksumHashes", fn := fun _ => fun
  | [d1, d2] => { results := [.lit (.bool false)], args := [d1, d2] }
  | _ => none }
def ChecksumHashesWrongFalsely : Prop := checksumHashesRow.holds Tryd.pinned (OpenSpec.ofChange checksumHashesWrong)

/-- 'saleroomlaw03.ChecksumSeals': WHATEVER THE INPUT: true; the input reads as it did. -/
def checksumSealsSpec : ChangeSpec := { name := "checksumSeals", fn := fun _ => fun
  | [d] => { results := [.lit (.bool true)], args := [d] }
  | _ => none }
def checksumSealsRow : OpenClaim := { program := "ytohamhejmmangaadoor", sum := "94d4a9f9762face433ccc12f0eb6c9b5060e97b9887626608264c3b01724b315", func := "saleroom/saleroomlaw03.ChecksumSeals", spec := "checksumSeals", named := ["saleroom/checksum.nibbleSteps"], apart := false, laid := [("saleroom/checksum.nibbleSteps", laid_saleroom_checksum_nibbleSteps)] }
def ChecksumSealsSaid : Prop := checksumSealsRow.holds Tryd.pinned (OpenSpec.ofChange checksumSealsSpec)

/-- ITS FALSE NEIGHBOUR: 'it returns false'. Refute it at one input. -/
def checksumSealsWrong : ChangeSpec := { name := "checksumSeals", fn := fun _ => fun
  | [d] => { results := [.lit (.bool false)], args := [d] }
  | _ => none }
def ChecksumSealsWrongFalsely : Prop := checksumSealsRow.holds Tryd.pinned (OpenSpec.ofChange checksumSealsWrong)

/-- 'saleroomlaw03.ChecksumDetects': WHATEVER THE INPUT: true; the input reads as it did. -/
def checksumDetectsSpec : ChangeSpec := { name := "checksumDetects", fn := fun _ => fun
  | [d1, d2, d3] => { results := [.lit (.bool true)], args := [d1, d2, d3] }
  | _ => none }
def checksumDetectsRow : OpenClaim := { program := "ytohamhejmmangaadoor", sum := "94d4a9f9762face433ccc12f0eb6c9b5060e97b9887626608264c3b01724b315", func := "saleroom/saleroomlaw03.ChecksumDetects", spec := "checksumDetects", named := ["saleroom/checksum.nibbleSteps"], apart := false, laid := [("saleroom/checksum.nibbleSteps", laid_saleroom_checksum_nibbleSteps)] }
def ChecksumDetectsSaid : Prop := checksumDetectsRow.holds Tryd.pinned (OpenSpec.ofChange checksumDetectsSpec)

/-- ITS FALSE NEIGHBOUR: 'it returns false'. Refute it at one input. -/
def checksumDetectsWrong : ChangeSpec := { name := "checksumDetects", fn := fun _ => fun
  | [d1, d2, d3] => { results := [.lit (.bool false)], args := [d1, d2, d3] }
  | _ => none }
def ChecksumDetectsWrongFalsely : Prop := checksumDetectsRow.holds Tryd.pinned (OpenSpec.ofChange checksumDetectsWrong)

/-- 'saleroomlaw03.ChecksumHex': WHATEVER THE INPUT: true; the input reads as it did. -/
def checksumHexSpec : ChangeSpec := { name := "checksumHex", fn := fun _ => fun
  | [d1, d2] => { results := [.lit (.bool true)], args := [d1, d2] }
  | _ => none }
def checksumHexRow : OpenClaim := { program := "ytohamhejmmangaadoor", sum := "94d4a9f9762face433ccc12f0eb6c9b5060e97b9887626608264c3b01724b315", func := "saleroom/saleroomlaw03.ChecksumHex", spec := "checksumHex", named := ["saleroom/checksum.nibbleSteps"], apart := false, laid := [("saleroom/checksum.nibbleSteps", laid_saleroom_checksum_nibbleSteps)] }
def ChecksumHexSaid : Prop := checksumHexRow.holds Tryd.pinned (OpenSpec.ofChange checksumHexSpec)

/-- ITS FALSE NEIGHBOUR: 'it returns false'. Refute it at one input. -/
def checksumHexWrong : ChangeSpec := { name := "checksumHex", fn := fun _ => fun
  | [d1, d2] => { results := [.lit (.bool false)], args := [d1, d2] }
  | _ => none }
def ChecksumHexWrongFalsely : Prop := checksumHexRow.holds Tryd.pinned (OpenSpec.ofChange checksumHexWrong)

/-- 'saleroomlaw03.ChecksumChains': WHATEVER THE INPUT: true; the input reads as it did. -/
def checksumChainsSpec : ChangeSpec := { name := "checksumChains", fn := fun _ => fun
  | [d1, d2, d3, d4] => { results := [.lit (.bool true)], args := [d1, d2, d3, d4] }
  | _ => none }
def checksumChainsRow : OpenClaim := { program := "ytohamhejmmangaadoor", sum := "94d4a9f9762face433ccc12f0eb6c9b5060e97b9887626608264c3b01724b315", func := "saleroom/saleroomlaw03.ChecksumChains", spec := "checksumChains", named := ["saleroom/checksum.nibbleSteps"], apart := false, laid := [("saleroom/checksum.nibbleSteps", laid_saleroom_checksum_nibbleSteps)] }
def ChecksumChainsSaid : Prop := checksumChainsRow.holds Tryd.pinned (OpenSpec.ofChange checksumChainsSpec)

/-- ITS FALSE NEIGHBOUR: 'it returns false'. Refute it at one input. -/
def checksumChainsWrong : ChangeSpec := { name := "checksumChains", fn := fun _ => fun
  | [d1, d2, d3, d4] => { results := [.lit (.bool false)], args := [d1, d2, d3, d4] }
  | _ => none }
def ChecksumChainsWrongFalsely : Prop := checksumChainsRow.holds Tryd.pinned (OpenSpec.ofChange checksumChainsWrong)

/- THE SECOND FORM. 'bulk': how many values and letters a reading holds, each counted each time it is reached (what is shared counts as often as it is met; a slice's spare places count too). A statement '..UptoSaid' is the law's where the arguments, and the package variables that the reading takes, are together of bulk at most 1048576: NARROWER than '..Said'. Prove '..Said' where nothing that the law and all that it calls make is longer than what came in: it says more and counts as full. Else prove '..UptoSaid'. A law counts once. -/
mutual
def uptoBulk {H : Type} : DataW H → Nat
  | .lit (.string bytes) => bytes.length + 1
  | .lit _ => 1
  | .nil => 1
  | .ptr d => uptoBulk d + 1
  | .slice elems spare => uptoBulkAll elems + uptoBulkAll spare + 1
  | .agg parts => uptoBulkAll parts + 1
  | .iface _ d => uptoBulk d + 1
  | .map entries => uptoBulkEntries entries + 1
  | .held _ => 1
def uptoBulkAll {H : Type} : List (DataW H) → Nat
  | [] => 0
  | d :: r => uptoBulk d + uptoBulkAll r
def uptoBulkEntries {H : Type} : List (Lit × DataW H) → Nat
  | [] => 0
  | x :: r => uptoBulkEntry x + uptoBulkEntries r
def uptoBulkEntry {H : Type} : Lit × DataW H → Nat
  | (.string bytes, d) => bytes.length + uptoBulk d + 1
  | (_, d) => uptoBulk d + 1
 end
def uptoSmall : (H : Type) → List (DataW H) → Bool := fun _ ds => decide (uptoBulkAll ds ≤ 1048576)
def OpenSpec.upto (s : _root_.Go.ChangeSpec) : _root_.Go.OpenSpec := { _root_.Go.OpenSpec.ofChange s with cond := some uptoSmall }

/-- 'saleroomlaw03.ChecksumCRC', WHERE WHAT IT READS IS OF BULK AT MOST 1048576: true; the input reads as it did. -/
def checksumCRCUptoRow : OpenClaim := { program := "ytohamhejmmangaadoor", sum := "94d4a9f9762face433ccc12f0eb6c9b5060e97b9887626608264c3b01724b315", func := "saleroom/saleroomlaw03.ChecksumCRC", spec := "checksumCRC", named := ["saleroom/checksum.nibbleSteps"], apart := false, laid := [("saleroom/checksum.nibbleSteps", laid_saleroom_checksum_nibbleSteps)], narrowed := true }
def ChecksumCRCUptoSaid : Prop := checksumCRCUptoRow.holds Tryd.pinned (OpenSpec.upto checksumCRCSpec)

/-- 'saleroomlaw03.ChecksumUpdates', WHERE WHAT IT READS IS OF BULK AT MOST 1048576: true; the input reads as it did. -/
def checksumUpdatesUptoRow : OpenClaim := { program := "ytohamhejmmangaadoor", sum := "94d4a9f9762face433ccc12f0eb6c9b5060e97b9887626608264c3b01724b315", func := "saleroom/saleroomlaw03.ChecksumUpdates", spec := "checksumUpdates", named := ["saleroom/checksum.nibbleSteps"], apart := false, laid := [("saleroom/checksum.nibbleSteps", laid_saleroom_checksum_nibbleSteps)], narrowed := true }
def ChecksumUpdatesUptoSaid : Prop := checksumUpdatesUptoRow.holds Tryd.pinned (OpenSpec.upto checksumUpdatesSpec)

/-- 'saleroomlaw03.ChecksumHashes', WHERE WHAT IT READS IS OF BULK AT MOST 1048576: true; the input reads as it did. -/
def checksumHashesUptoRow : OpenClaim := { program := "ytohamhejmmangaadoor", sum := "94d4a9f9762face433ccc12f0eb6c9b5060e97b9887626608264c3b01724b315", func := "saleroom/saleroomlaw03.ChecksumHashes", spec := "checksumHashes", named := ["saleroom/checksum.nibbleSteps"], apart := false, laid := [("saleroom/checksum.nibbleSteps", laid_saleroom_checksum_nibbleSteps)], narrowed := true }
def ChecksumHashesUptoSaid : Prop := checksumHashesUptoRow.holds Tryd.pinned (OpenSpec.upto checksumHashesSpec)

/-- 'saleroomlaw03.ChecksumSeals', WHERE WHAT IT READS IS OF BULK AT MOST 1048576: true; the input reads as it did. -/
def checksumSealsUptoRow : OpenClaim := { program := "ytohamhejmmangaadoor", sum := "94d4a9f9762face433ccc12f0eb6c9b5060e97b9887626608264c3b01724b315", func := "saleroom/saleroomlaw03.ChecksumSeals", spec := "checksumSeals", named := ["saleroom/checksum.nibbleSteps"], apart := false, laid := [("saleroom/checksum.nibbleSteps", laid_saleroom_checksum_nibbleSteps)], narrowed := true }
def ChecksumSealsUptoSaid : Prop := checksumSealsUptoRow.holds Tryd.pinned (OpenSpec.upto checksumSealsSpec)

/-- 'saleroomlaw03.ChecksumDetects', WHERE WHAT IT READS IS OF BULK AT MOST 1048576: true; the input reads as it did. -/
def checksumDetectsUptoRow : OpenClaim := { program := "ytohamhejmmangaadoor", sum := "94d4a9f9762face433ccc12f0eb6c9b5060e97b9887626608264c3b01724b315", func := "saleroom/saleroomlaw03.ChecksumDetects", spec := "checksumDetects", named := ["saleroom/checksum.nibbleSteps"], apart := false, laid := [("saleroom/checksum.nibbleSteps", laid_saleroom_checksum_nibbleSteps)], narrowed := true }
def ChecksumDetectsUptoSaid : Prop := checksumDetectsUptoRow.holds Tryd.pinned (OpenSpec.upto checksumDetectsSpec)

/-- 'saleroomlaw03.ChecksumHex', WHERE WHAT IT READS IS OF BULK AT MOST 1048576: true; the input reads as it did. -/
def checksumHexUptoRow : OpenClaim := { program := "ytohamhejmmangaadoor", sum := "94d4a9f9762face433ccc12f0eb6c9b5060e97b9887626608264c3b01724b315", func := "saleroom/saleroomlaw03.ChecksumHex", spec := "checksumHex", named := ["saleroom/checksum.nibbleSteps"], apart := false, laid := [("saleroom/checksum.nibbleSteps", laid_saleroom_checksum_nibbleSteps)], narrowed := true }
def ChecksumHexUptoSaid : Prop := checksumHexUptoRow.holds Tryd.pinned (OpenSpec.upto checksumHexSpec)

/-- 'saleroomlaw03.ChecksumChains', WHERE WHAT IT READS IS OF BULK AT MOST 1048576: true; the input reads as it did. -/
def checksumChainsUptoRow : OpenClaim := { program := "ytohamhejmmangaadoor", sum := "94d4a9f9762face433ccc12f0eb6c9b5060e97b9887626608264c3b01724b315", func := "saleroom/saleroomlaw03.ChecksumChains", spec := "checksumChains", named := ["saleroom/checksum.nibbleSteps"], apart := false, laid := [("saleroom/checksum.nibbleSteps", laid_saleroom_checksum_nibbleSteps)], narrowed := true }
def ChecksumChainsUptoSaid : Prop := checksumChainsUptoRow.holds Tryd.pinned (OpenSpec.upto checksumChainsSpec)

end Rows
end Go.Proofs.YtohamhejmmangaaDoor
