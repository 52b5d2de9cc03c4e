/- The contract of math/bits.Div32: no claim of its own. -/
import Derived.Test.YtgmjpkkpkdcncaaDoorOwns
import Derived.Test.YtgmjpkkpkdcncaaDoorOr
namespace Go.Proofs.YtgmjpkkpkdcncaaDoor
open Go.RowKit
theorem div_lt_of (hi lo y : Nat) (h1 : hi < y) (h2 : lo < 4294967296) : (hi * 4294967296 + lo) / y < 4294967296 := by
  rw [Nat.div_lt_iff_lt_mul (by omega)]
  have : (hi + 1) * 4294967296 ≤ y * 4294967296 := Nat.mul_le_mul_right _ h1
  rw [Nat.mul_comm y] at this
  omega
set_option maxRecDepth 100000 in
set_option maxHeartbeats 400000 in
theorem div32_any (hi lo y : Nat) (w : World) (h1 : hi < y) (h2 : lo < 4294967296) (h3 : y < 4294967296) :
    Calls Tryd.prog 65 #[.int .u32 hi, .int .u32 lo, .int .u32 y] w fun e w' => e = .returned (.tuple #[.int .u32 (((hi * 4294967296 + lo) / y : Nat) : Int), .int .u32 (((hi * 4294967296 + lo) % y : Nat) : Int)]) ∧ ∃ q, w' = w.drewN q := by
  have hy : ((y : Int) != 0) = true := bne_iff_ne.2 (by omega)
  have hor := bits_hi_lo hi lo (by omega) h2
  have hq := div_lt_of hi lo y h1 h2
  have hm : (hi * 4294967296 + lo) % y < y := Nat.mod_lt _ (by omega)
  have eq : (((hi * 4294967296 + lo) / y : Nat) : Int) = ((hi : Int) * 4294967296 + (lo : Int)) / (y : Int) := by rw [Int.natCast_ediv]; rfl
  have em : (((hi * 4294967296 + lo) % y : Nat) : Int) = ((hi : Int) * 4294967296 + (lo : Int)) % (y : Int) := by rw [Int.natCast_emod]; rfl
  have b1 : ((hi : Int) * 4294967296 + (lo : Int)) / (y : Int) ≤ 4294967295 := by
    rw [← eq]; generalize (hi * 4294967296 + lo) / y = q at hq; omega
  have b2 : 0 ≤ ((hi : Int) * 4294967296 + (lo : Int)) / (y : Int) := Int.ediv_nonneg (by omega) (by omega)
  have b3 : ((hi : Int) * 4294967296 + (lo : Int)) % (y : Int) ≤ 4294967295 := by
    rw [← em]; generalize (hi * 4294967296 + lo) % y = q at hm; omega
  have b4 : 0 ≤ ((hi : Int) * 4294967296 + (lo : Int)) % (y : Int) := Int.emod_nonneg _ (by omega)
  have b5 : (1 : Int) ≤ (y : Int) := by omega
  have E := Lib.hid eq
  have M := Lib.hid em
  clear eq em hq hm
  go_enter Tryd.func65, Tryd.ntmps65
  go_wp2
  go_quiet (fail)
  go_wp2
  go_outline
  go_ret2
  refine ⟨by rw [E.out, M.out]; rfl, _, rfl⟩
end Go.Proofs.YtgmjpkkpkdcncaaDoor
