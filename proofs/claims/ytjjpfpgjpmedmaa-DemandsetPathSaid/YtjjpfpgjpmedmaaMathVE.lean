/- Tables in which greater bundles never have smaller values: the mathematics of chapter 13. No claim of its own. -/
import Derived.Test.YtjjpfpgjpmedmaaMathVD
import Derived.Test.YtjjpfpgjpmedmaaBRank
namespace Go.Proofs.Ytjjpfpgjpmedmaa.VV
open MB (at_)
end Go.Proofs.Ytjjpfpgjpmedmaa.VV
