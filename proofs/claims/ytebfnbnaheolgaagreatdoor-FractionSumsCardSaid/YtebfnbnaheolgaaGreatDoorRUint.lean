/- The contract of the reference's Uint: no claim of its own. -/
import Derived.Test.YtebfnbnaheolgaaGreatDoorRMul
import Derived.Test.YtebfnbnaheolgaaGreatDoorCmp
import Derived.Test.YtebfnbnaheolgaaGreatDoorDivS
namespace Go.Proofs.YtebfnbnaheolgaaGreatDoor
open Go.RowKit
def RUintInv (xs : List Nat) (k x : Nat) : Prop := dval (xs.drop k) = x
end Go.Proofs.YtebfnbnaheolgaaGreatDoor
