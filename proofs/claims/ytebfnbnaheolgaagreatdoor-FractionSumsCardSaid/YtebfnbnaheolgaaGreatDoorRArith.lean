/- Contracts of the reference's Neg, Sign, Mul and Div over fractions: no claim of its own. -/
import Derived.Test.YtebfnbnaheolgaaGreatDoorFDiv
import Derived.Test.YtebfnbnaheolgaaGreatDoorRMake
import Derived.Test.YtebfnbnaheolgaaGreatDoorRMul
namespace Go.Proofs.YtebfnbnaheolgaaGreatDoor
open Go.RowKit
theorem rmul_s {A B : Option Addr} {n c m d a b i j : Nat} {xs ys : List Nat} {w : World} (hx : Num w A n c xs a) (hy : Num w B m d ys b) (ha : a < 4294967296 ^ i) (hb : b < 4294967296 ^ j) (hi : i ≤ 100000) (hj : j ≤ 100000) :
    Calls Tryz.prog 51 #[.slice A n c, .slice B m d] w (GivesNum (a * b) w) := rmul_any A B n c m d a b xs ys w hx hy (hx.sh ha hi) (hy.sh hb hj)
theorem rmake_s {s : Bool} {A B : Option Addr} {n c m d p q i : Nat} {xs ys : List Nat} {w : World} (hx : Num w A n c xs p) (hy : Num w B m d ys q) (hq : 0 < q) (hp : p < 4294967296 ^ i) (hq1 : q < 4294967296 ^ i) (hi : i ≤ 900000) {T : Fr} (hT : Fr.mk' s p q = T) :
    Calls Tryz.prog 33 #[.bool s, .slice A n c, .slice B m d] w (GivesFrE T 0 w) := by subst hT; exact rmake_any s A B n c m d p q i xs ys w hx hy hq hp hq1 hi
end Go.Proofs.YtebfnbnaheolgaaGreatDoor
