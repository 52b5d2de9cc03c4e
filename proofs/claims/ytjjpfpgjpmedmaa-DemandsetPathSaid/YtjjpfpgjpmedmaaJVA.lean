/- VAny, VVal, joined: no claim of its own. -/
import Derived.Test.YtjjpfpgjpmedmaaMathVD
import Derived.Test.YtjjpfpgjpmedmaaJVX
import Derived.Test.YtjjpfpgjpmedmaaJVL
import Derived.Test.YtjjpfpgjpmedmaaJP
namespace Go.Proofs.Ytjjpfpgjpmedmaa
open Go.RowKit
end Go.Proofs.Ytjjpfpgjpmedmaa
namespace Go.Proofs.Ytjjpfpgjpmedmaa
open Go.RowKit
end Go.Proofs.Ytjjpfpgjpmedmaa
