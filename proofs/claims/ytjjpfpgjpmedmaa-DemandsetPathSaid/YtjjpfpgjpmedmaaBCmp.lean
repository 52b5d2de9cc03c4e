/- Compare of both: no claim of its own. -/
import Derived.Test.YtjjpfpgjpmedmaaJB
namespace Go.Proofs.Ytjjpfpgjpmedmaa
open Go.RowKit
def cmp3 (x y : Int) : Int := if x < y then -1 else if y < x then 1 else 0
end Go.Proofs.Ytjjpfpgjpmedmaa
