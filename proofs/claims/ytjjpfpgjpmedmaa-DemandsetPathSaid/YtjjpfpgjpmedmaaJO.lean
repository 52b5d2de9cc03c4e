/- ECheck, ECheck2, ECheck3, joined: no claim of its own. -/
import Derived.Test.YtjjpfpgjpmedmaaJK
import Derived.Test.YtjjpfpgjpmedmaaJB
import Derived.Test.YtjjpfpgjpmedmaaBEq
import Derived.Deep.DeepCutAuto
import Derived.Laws.EntriesVeiled
import Derived.Shelf.Abstract
namespace Go.Proofs.Ytjjpfpgjpmedmaa
open Go.RowKit
open ME (F Nd)
end Go.Proofs.Ytjjpfpgjpmedmaa
namespace Go.Proofs.Ytjjpfpgjpmedmaa
open Go.RowKit
open ME (F Nd)
end Go.Proofs.Ytjjpfpgjpmedmaa
namespace Go.Proofs.Ytjjpfpgjpmedmaa
open Go.RowKit
open ME (F Nd)
end Go.Proofs.Ytjjpfpgjpmedmaa
