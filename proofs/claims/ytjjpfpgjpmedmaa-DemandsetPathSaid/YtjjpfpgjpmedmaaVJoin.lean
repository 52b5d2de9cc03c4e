/- bundle.Join, as chapter 7 has it. No claim of its own. -/
import Derived.Test.YtjjpfpgjpmedmaaJB
namespace Go.Proofs.Ytjjpfpgjpmedmaa
open Go.RowKit
end Go.Proofs.Ytjjpfpgjpmedmaa
