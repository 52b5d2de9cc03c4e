/- What Offers answers: its list is worth what the expression is worth, and nothing in it is dominated. No claim of its own. -/
import Derived.Test.YtjjpfpgjpmedmaaJFC
import Derived.Test.YtjjpfpgjpmedmaaJFM
namespace Go.Proofs.Ytjjpfpgjpmedmaa
open Go.RowKit
namespace VV
end VV
end Go.Proofs.Ytjjpfpgjpmedmaa
