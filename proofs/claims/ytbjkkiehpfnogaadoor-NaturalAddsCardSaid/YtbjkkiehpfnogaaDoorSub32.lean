/- The contract of math/bits.Sub32: no claim of its own. -/
import Derived.Test.YtbjkkiehpfnogaaDoorOwns
import Derived.Test.YtbjkkiehpfnogaaDoorOr
namespace Go.Proofs.YtbjkkiehpfnogaaDoor
open Go.RowKit
theorem wrap_u32 (n : Nat) (h : n < 4294967296) : IntKind.u32.wrap (n : Int) = (n : Int) := by
  have : IntKind.u32.wrap (n : Int) = (n : Int) % 4294967296 := rfl
  rw [this]
  omega
theorem bits_or_u32 (x y : Nat) (hx : x < 4294967296) (hy : y < 4294967296) : bits BinOp.or IntKind.u32 (x : Int) (y : Int) = ((x ||| y : Nat) : Int) := by
  have h : x ||| y < 2 ^ 32 := Nat.or_lt_two_pow hx hy
  have e : bits BinOp.or IntKind.u32 (x : Int) (y : Int) = IntKind.u32.wrap (((BitVec.ofInt 32 (x : Int)) ||| (BitVec.ofInt 32 (y : Int))).toNat : Int) := rfl
  rw [e, BitVec.toNat_or, BitVec.ofInt_natCast, BitVec.ofInt_natCast, BitVec.toNat_ofNat, BitVec.toNat_ofNat, Nat.mod_eq_of_lt hx, Nat.mod_eq_of_lt hy]
  exact wrap_u32 _ h
theorem bits_and_u32 (x y : Nat) (hx : x < 4294967296) (hy : y < 4294967296) : bits BinOp.and IntKind.u32 (x : Int) (y : Int) = ((x &&& y : Nat) : Int) := by
  have h : x &&& y < 4294967296 := Nat.lt_of_le_of_lt Nat.and_le_left hx
  have e : bits BinOp.and IntKind.u32 (x : Int) (y : Int) = IntKind.u32.wrap (((BitVec.ofInt 32 (x : Int)) &&& (BitVec.ofInt 32 (y : Int))).toNat : Int) := rfl
  rw [e, BitVec.toNat_and, BitVec.ofInt_natCast, BitVec.ofInt_natCast, BitVec.toNat_ofNat, BitVec.toNat_ofNat, Nat.mod_eq_of_lt hx, Nat.mod_eq_of_lt hy]
  exact wrap_u32 _ h
theorem bits_xor_u32 (x y : Nat) (hx : x < 4294967296) (hy : y < 4294967296) : bits BinOp.xor IntKind.u32 (x : Int) (y : Int) = ((x ^^^ y : Nat) : Int) := by
  have h : x ^^^ y < 2 ^ 32 := Nat.xor_lt_two_pow hx hy
  have e : bits BinOp.xor IntKind.u32 (x : Int) (y : Int) = IntKind.u32.wrap (((BitVec.ofInt 32 (x : Int)) ^^^ (BitVec.ofInt 32 (y : Int))).toNat : Int) := rfl
  rw [e, BitVec.toNat_xor, BitVec.ofInt_natCast, BitVec.ofInt_natCast, BitVec.toNat_ofNat, BitVec.toNat_ofNat, Nat.mod_eq_of_lt hx, Nat.mod_eq_of_lt hy]
  exact wrap_u32 _ h
theorem tb_le (z : Nat) (h : z < 4294967296) : z.testBit 31 = decide (2147483648 ≤ z) := by
  rw [Nat.testBit_eq_decide_div_mod_eq]
  exact decide_eq_decide.2 (by omega)
theorem top_div (z : Nat) (h : z < 4294967296) : z / 2147483648 = if z.testBit 31 then 1 else 0 := by
  rw [tb_le z h]
  by_cases h1 : 2147483648 ≤ z
  · rw [decide_eq_true h1, if_pos rfl]; omega
  · rw [decide_eq_false h1]; simp; omega
theorem borrow_math (x y b d : Nat) (h1 : x < 4294967296) (h2 : y < 4294967296) (h3 : b ≤ 1) (hd : d = (x + 4294967296 - y - b) % 4294967296) :
    (((4294967295 ^^^ x) &&& y) ||| ((4294967295 ^^^ (x ^^^ y)) &&& d)) / 2147483648 = if x < y + b then 1 else 0 := by
  have hdl : d < 4294967296 := by omega
  have l1 : (4294967295 ^^^ x) &&& y < 2 ^ 32 := Nat.lt_of_le_of_lt Nat.and_le_right h2
  have l2 : (4294967295 ^^^ (x ^^^ y)) &&& d < 2 ^ 32 := Nat.lt_of_le_of_lt Nat.and_le_right hdl
  rw [top_div _ (Nat.or_lt_two_pow l1 l2), Nat.testBit_or, Nat.testBit_and, Nat.testBit_and, Nat.testBit_xor, Nat.testBit_xor, Nat.testBit_xor, tb_le x h1, tb_le y h2, tb_le d hdl, tb_le 4294967295 (by decide)]
  by_cases a1 : 2147483648 ≤ x <;> by_cases a2 : 2147483648 ≤ y <;> by_cases a3 : 2147483648 ≤ d <;> by_cases a4 : x < y + b <;> simp [a1, a2, a3, a4] <;> omega
theorem borrow_int (x y b : Nat) (h1 : x < 4294967296) (h2 : y < 4294967296) (h3 : b ≤ 1) :
    bits BinOp.or IntKind.u32 (bits BinOp.and IntKind.u32 (bits BinOp.xor IntKind.u32 IntKind.u32.max (x : Int)) (y : Int)) (bits BinOp.and IntKind.u32 (bits BinOp.xor IntKind.u32 IntKind.u32.max (bits BinOp.xor IntKind.u32 (x : Int) (y : Int))) (((x : Int) - (y : Int) - (b : Int)) % 4294967296)) / 2147483648 = ((if x < y + b then 1 else 0 : Nat) : Int) := by
  have hd : ((x : Int) - (y : Int) - (b : Int)) % 4294967296 = (((x + 4294967296 - y - b) % 4294967296 : Nat) : Int) := by omega
  have hm : IntKind.u32.max = ((4294967295 : Nat) : Int) := rfl
  have hdl : (x + 4294967296 - y - b) % 4294967296 < 4294967296 := Nat.mod_lt _ (by decide)
  have x1 : 4294967295 ^^^ x < 2 ^ 32 := Nat.xor_lt_two_pow (by decide) h1
  have x2 : x ^^^ y < 2 ^ 32 := Nat.xor_lt_two_pow h1 h2
  have x3 : 4294967295 ^^^ (x ^^^ y) < 2 ^ 32 := Nat.xor_lt_two_pow (by decide) x2
  rw [hd, hm, bits_xor_u32 x y h1 h2, bits_xor_u32 _ x (by decide) h1, bits_xor_u32 _ _ (by decide) x2, bits_and_u32 _ _ x1 h2, bits_and_u32 _ _ x3 hdl, bits_or_u32 _ _ (Nat.lt_of_le_of_lt Nat.and_le_right h2) (Nat.lt_of_le_of_lt Nat.and_le_right hdl)]
  rw [← borrow_math x y b _ h1 h2 h3 rfl]
  rw [Int.natCast_ediv]
  rfl
set_option maxHeartbeats 400000 in
theorem sub32_any (x y b : Nat) (w : World) (h1 : x < 4294967296) (h2 : y < 4294967296) (h3 : b ≤ 1) :
    Calls Tryd.prog 46 #[.int .u32 x, .int .u32 y, .int .u32 b] w fun e w' => e = .returned (.tuple #[.int .u32 (((x + 4294967296 - y - b) % 4294967296 : Nat) : Int), .int .u32 ((if x < y + b then 1 else 0 : Nat) : Int)]) ∧ w = w' := by
  have E := Lib.hid (borrow_int x y b h1 h2 h3)
  have D : Hid ((((x : Int) - (y : Int)) % 4294967296 - (b : Int)) % 4294967296 = (((x + 4294967296 - y - b) % 4294967296 : Nat) : Int)) := Lib.hid (by omega)
  generalize ((if x < y + b then 1 else 0 : Nat) : Int) = q at *
  generalize (((x + 4294967296 - y - b) % 4294967296 : Nat) : Int) = d at *
  have hs : IntKind.u32.signed = false := rfl
  clear h1 h2 h3
  go_enter Tryd.func46, Tryd.ntmps46
  go_wp2
  go_ret2
  refine ⟨?_, rfl⟩
  show Ending.returned (Value.tuple #[Value.int .u32 _, Value.int .u32 _]) = _
  rw [← E.out, ← D.out]
end Go.Proofs.YtbjkkiehpfnogaaDoor
