/- CRFmt, ERef, joined: no claim of its own. -/
import Derived.Test.YtcokplikmjegcaaDoorJI
import Derived.Test.YtcokplikmjegcaaDoorJH
import Derived.Test.YtcokplikmjegcaaDoorJO
import Derived.Test.YtcokplikmjegcaaDoorJK
import Derived.Test.YtcokplikmjegcaaDoorJP
namespace Go.Proofs.YtcokplikmjegcaaDoor
open Go.RowKit
open MC (Pr)
end Go.Proofs.YtcokplikmjegcaaDoor
namespace Go.Proofs.YtcokplikmjegcaaDoor
open Go.RowKit
open ME (F Nd)
theorem formB_eq (x : NT) : ME.formB x.n = if x.o = 1 then decide (x.k.len = 0) else if x.o = 2 ∨ x.o = 3 then decide (1 ≤ x.k.len) && decide (x.k.len ≤ 8) && decide (x.b = ME.zero6) && decide (x.v = 0) else if x.o = 4 then decide (x.k.len = 1) else if x.o = 5 then decide (x.k.len = 1) && decide (x.b = ME.zero6) else false := by
  unfold ME.formB
  rw [show x.n.k.len = x.k.len from FT.len_f x.k]
  rfl
end Go.Proofs.YtcokplikmjegcaaDoor
