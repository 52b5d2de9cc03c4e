/- The reference's text and Format: no claim of its own. -/
import Derived.Test.YtcokplikmjegcaaDoorJQ
import Derived.Test.YtcokplikmjegcaaDoorJR
import Derived.Test.YtcokplikmjegcaaDoorERef2
namespace Go.Proofs.YtcokplikmjegcaaDoor
open Go.RowKit
open MC (Pr)
open ME (F Nd)
theorem lit_str (a : Array UInt8) : (⟨a⟩ : ByteArray) = str a.toList := bytes_eq _ _ (by rw [str_data])
end Go.Proofs.YtcokplikmjegcaaDoor
