/- The reference's Uses, nodes, Few. No claim of its own. -/
import Derived.Test.YtbnillkihmooeaaMathVD
import Derived.Test.YtbnillkihmooeaaJK
import Derived.Deep.DeepCutAuto
namespace Go.Proofs.Ytbnillkihmooeaa
open Go.RowKit
open ME (F Nd)
end Go.Proofs.Ytbnillkihmooeaa
