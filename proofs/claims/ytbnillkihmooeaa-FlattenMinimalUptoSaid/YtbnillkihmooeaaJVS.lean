/- VRVal, VRTab, joined: no claim of its own. -/
import Derived.Test.YtbnillkihmooeaaVAll
import Derived.Test.YtbnillkihmooeaaJVA
import Derived.Test.YtbnillkihmooeaaVFew
import Derived.Test.YtbnillkihmooeaaERef2
import Derived.Test.YtbnillkihmooeaaMathVE
import Derived.Test.YtbnillkihmooeaaVTable
namespace Go.Proofs.Ytbnillkihmooeaa
open Go.RowKit
attribute [local go_sem] Oper.semAt_some
end Go.Proofs.Ytbnillkihmooeaa
namespace Go.Proofs.Ytbnillkihmooeaa
open Go.RowKit
attribute [local go_sem] Oper.semAt_some
end Go.Proofs.Ytbnillkihmooeaa
