/- worth, rankBelow: no claim of its own. -/
import Derived.Test.YtjjpfpgjpmedmaaVSteps
import Derived.Test.YtjjpfpgjpmedmaaBRank
import Derived.Test.YtjjpfpgjpmedmaaBUnr
namespace Go.Proofs.Ytjjpfpgjpmedmaa
open Go.RowKit
theorem take_snoc' {α} {S : List α} {k : Nat} {p : α} (h : S[k]? = some p) : S.take (k + 1) = S.take k ++ [p] := by
  rw [List.take_add_one, h]; rfl
theorem worth_yes {S : VV.St} {k : Nat} {p : List Int × Int} {x : List Int} (h : S[k]? = some p) (hw : MB.withinB p.1 x 6 = true) (hv : VV.worth (S.take k) x < p.2) : VV.worth (S.take (k + 1)) x = p.2 := by
  rw [take_snoc' h, VV.worth_snoc, if_pos (show VV.leB p.1 x = true from hw)]; omega
theorem worth_no1 {S : VV.St} {k : Nat} {p : List Int × Int} {x : List Int} (h : S[k]? = some p) (hv : p.2 ≤ VV.worth (S.take k) x) : VV.worth (S.take (k + 1)) x = VV.worth (S.take k) x := by
  rw [take_snoc' h, VV.worth_snoc]; split <;> omega
theorem worth_no2 {S : VV.St} {k : Nat} {p : List Int × Int} {x : List Int} (h : S[k]? = some p) (hw : MB.withinB p.1 x 6 = false) : VV.worth (S.take (k + 1)) x = VV.worth (S.take k) x := by
  rw [take_snoc' h, VV.worth_snoc, if_neg]
  intro g
  rw [show VV.leB p.1 x = false from hw] at g
  cases g
end Go.Proofs.Ytjjpfpgjpmedmaa
