/- A word's token, a number's token: no claim of its own. -/
import Derived.Test.YtooeafpcbejpdaaLPre
namespace Go.Proofs.Ytooeafpcbejpdaa
open Go.RowKit
/-- What number answers. -/
def numT (l : List UInt8) : Tk × Int :=
  if (l.head?.map UInt8.toNat = some 48) ∧ 1 < l.length then (.zero, 2)
  else if 9 < l.length then (.zero, 4)
  else (⟨2, l, (numV l : Nat), 0⟩, 0)
end Go.Proofs.Ytooeafpcbejpdaa
