/- The reference's dominated. No claim of its own. -/
import Derived.Test.YtjjpfpgjpmedmaaJFD
import Derived.Deep.RegionHeld3
import Derived.Deep.DeepCutAuto
namespace Go.Proofs.Ytjjpfpgjpmedmaa
open Go.RowKit
attribute [local go_sem] Oper.semAt_some
end Go.Proofs.Ytjjpfpgjpmedmaa
