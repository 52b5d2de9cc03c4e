/- The reference's List and Halves: no claim of its own. -/
import Derived.Test.YtjjpfpgjpmedmaaBRows
import Derived.Test.YtjjpfpgjpmedmaaBRank
import Derived.Deep.DeepCutAuto
import Derived.OneCell
namespace Go.Proofs.Ytjjpfpgjpmedmaa
open Go.RowKit
/-- What List answers; what Halves answers. -/
def listB (s : List Int) : List (List Int) := if MB.okB s then (if MB.P s 6 ≤ 1024 then MB.row s 6 (MB.P s 6) else []) else []
end Go.Proofs.Ytjjpfpgjpmedmaa
