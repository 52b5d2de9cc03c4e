/- Bitwise or of parts that don't meet: no program, no claim of its own. -/
import Derived.WalkKit
namespace Go.Proofs.YtgmjpkkpkdcncaaDoor
open Go
theorem wrap_u64 (n : Nat) (h : n < 18446744073709551616) : IntKind.u64.wrap (n : Int) = (n : Int) := by
  have : IntKind.u64.wrap (n : Int) = (n : Int) % 18446744073709551616 := rfl
  rw [this]
  omega
theorem bits_or_u64 (x y : Nat) (hx : x < 18446744073709551616) (hy : y < 18446744073709551616) : bits BinOp.or IntKind.u64 (x : Int) (y : Int) = ((x ||| y : Nat) : Int) := by
  have h : x ||| y < 2 ^ 64 := Nat.or_lt_two_pow hx hy
  have e : bits BinOp.or IntKind.u64 (x : Int) (y : Int) = IntKind.u64.wrap (((BitVec.ofInt 64 (x : Int)) ||| (BitVec.ofInt 64 (y : Int))).toNat : Int) := rfl
  rw [e, BitVec.toNat_or, BitVec.ofInt_natCast, BitVec.ofInt_natCast, BitVec.toNat_ofNat, BitVec.toNat_ofNat, Nat.mod_eq_of_lt hx, Nat.mod_eq_of_lt hy]
  exact wrap_u64 _ h
theorem bits_hi_lo (hi lo : Nat) (h1 : hi < 4294967296) (h2 : lo < 4294967296) : bits BinOp.or IntKind.u64 ((hi : Int) * 4294967296) (lo : Int) = (hi : Int) * 4294967296 + (lo : Int) := by
  have e : (hi : Int) * 4294967296 = ((2 ^ 32 * hi : Nat) : Int) := by omega
  rw [e, bits_or_u64 _ _ (by omega) (by omega), ← Nat.two_pow_add_eq_or_of_lt (i := 32) h2]
  omega
theorem bits_lo_hi (lo hi : Nat) (h1 : hi < 4294967296) (h2 : lo < 4294967296) : bits BinOp.or IntKind.u64 (lo : Int) ((hi : Int) * 4294967296) = (lo : Int) + (hi : Int) * 4294967296 := by
  have e : (hi : Int) * 4294967296 = ((2 ^ 32 * hi : Nat) : Int) := by omega
  rw [e, bits_or_u64 _ _ (by omega) (by omega), Nat.or_comm, ← Nat.two_pow_add_eq_or_of_lt (i := 32) h2]
  omega
theorem bits_zero_lo (lo : Nat) (h2 : lo < 4294967296) : bits BinOp.or IntKind.u64 0 (lo : Int) = (lo : Int) := by
  have := bits_or_u64 0 lo (by omega) (by omega)
  rw [Nat.zero_or] at this
  exact this
end Go.Proofs.YtgmjpkkpkdcncaaDoor
