/- FChk, FMost, MathFU, joined: no claim of its own. -/
import Derived.Test.YtjjpfpgjpmedmaaVMono
import Derived.Test.YtjjpfpgjpmedmaaVTable
import Derived.Test.YtjjpfpgjpmedmaaVWorth
import Derived.Test.YtjjpfpgjpmedmaaMathVE
import Derived.Test.YtjjpfpgjpmedmaaJFM
import Derived.Test.YtjjpfpgjpmedmaaJFA
namespace Go.Proofs.Ytjjpfpgjpmedmaa
open Go.RowKit
attribute [local go_sem] Oper.semAt_some
end Go.Proofs.Ytjjpfpgjpmedmaa
namespace Go.Proofs.Ytjjpfpgjpmedmaa
open Go.RowKit
attribute [local go_sem] Oper.semAt_some
end Go.Proofs.Ytjjpfpgjpmedmaa
namespace Go.Proofs.Ytjjpfpgjpmedmaa
open Go.RowKit
/-- A table as a function of the bundle. -/
def fT (L s b : List Int) : Int := L.getD (VV.rank s b) 0
/-- What `most` holds behind k bundles. -/
def gM (L s : List Int) (k i : Nat) : Int := if i < k then VV.upT (fT L s) (VV.at6 s i) else L.getD i 0
end Go.Proofs.Ytjjpfpgjpmedmaa
