/- The reference of layer 13: within, held, count, index, at. No claim of its own. -/
import Derived.Test.YtbnillkihmooeaaBRank
import Derived.Test.YtbnillkihmooeaaBNext
import Derived.Test.YtbnillkihmooeaaBUnr
namespace Go.Proofs.Ytbnillkihmooeaa
open Go.RowKit
end Go.Proofs.Ytbnillkihmooeaa
