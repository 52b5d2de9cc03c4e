/- The reference's errors of a node, Check: no claim of its own. -/
import Derived.Test.YtbnillkihmooeaaJO
import Derived.Test.YtbnillkihmooeaaJK
import Derived.Test.YtbnillkihmooeaaJP
namespace Go.Proofs.Ytbnillkihmooeaa
open Go.RowKit
open ME (F Nd)
end Go.Proofs.Ytbnillkihmooeaa
