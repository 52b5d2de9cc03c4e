/- EDepth, ECheck4, joined: no claim of its own. -/
import Derived.Test.YtjjpfpgjpmedmaaJK
import Derived.Deep.DeepCutAuto
import Derived.Test.YtjjpfpgjpmedmaaJO
namespace Go.Proofs.Ytjjpfpgjpmedmaa
open Go.RowKit
end Go.Proofs.Ytjjpfpgjpmedmaa
namespace Go.Proofs.Ytjjpfpgjpmedmaa
open Go.RowKit
open ME (F Nd)
end Go.Proofs.Ytjjpfpgjpmedmaa
