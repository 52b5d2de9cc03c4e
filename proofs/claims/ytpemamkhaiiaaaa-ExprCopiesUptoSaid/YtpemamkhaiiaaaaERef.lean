/- The reference's errors of a node, Check: no claim of its own. -/
import Derived.Test.YtpemamkhaiiaaaaECheck3
import Derived.Test.YtpemamkhaiiaaaaEApply0
import Derived.Test.YtpemamkhaiiaaaaEDepth
namespace Go.Proofs.Ytpemamkhaiiaaaa
open Go.RowKit
open ME (F Nd)
theorem formB_eq (x : NT) : ME.formB x.n = if x.o = 1 then decide (x.k.len = 0) else if x.o = 2 ∨ x.o = 3 then decide (1 ≤ x.k.len) && decide (x.k.len ≤ 8) && decide (x.b = ME.zero6) && decide (x.v = 0) else if x.o = 4 then decide (x.k.len = 1) else if x.o = 5 then decide (x.k.len = 1) && decide (x.b = ME.zero6) else false := by
  unfold ME.formB
  rw [show x.n.k.len = x.k.len from FT.len_f x.k]
  rfl
end Go.Proofs.Ytpemamkhaiiaaaa
