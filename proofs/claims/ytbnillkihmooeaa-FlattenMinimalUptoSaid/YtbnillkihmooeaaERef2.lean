/- The reference's Check: no claim of its own. -/
import Derived.Test.YtbnillkihmooeaaERef
import Derived.Test.YtbnillkihmooeaaJK
namespace Go.Proofs.Ytbnillkihmooeaa
open Go.RowKit
open ME (F Nd)
end Go.Proofs.Ytbnillkihmooeaa
