/- Value and Most of the program. No claim of its own. -/
import Derived.Test.YtbnillkihmooeaaVAny
import Derived.Test.YtbnillkihmooeaaJP
namespace Go.Proofs.Ytbnillkihmooeaa
open Go.RowKit
theorem value_bad {n : ME.Nd} {b : List Int} (h : ME.checkE n ≠ 0) : VV.value n b = 0 := if_neg fun g => h g.1
theorem value_bad2 {n : ME.Nd} {b : List Int} (h : chk b ≠ 0) : VV.value n b = 0 := if_neg fun g => h g.2
theorem value_ok {n : ME.Nd} {b : List Int} (h : ME.checkE n = 0) (h2 : chk b = 0) : VV.value n b = VV.valN n b := if_pos ⟨h, h2⟩
theorem k4_of {b : List Int} (hl : b.length = 6) (h : chk b = 0) : K4 b := ⟨hl, VV.ok_of_chk h⟩
def full6 : List Int := [4, 4, 4, 4, 4, 4]
end Go.Proofs.Ytbnillkihmooeaa
