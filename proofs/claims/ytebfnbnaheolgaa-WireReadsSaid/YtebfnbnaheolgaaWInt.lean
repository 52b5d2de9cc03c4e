/- The contracts of Int, of the package and of the reference: no claim of its own. -/
import Derived.Test.YtebfnbnaheolgaaWUint
import Derived.Laws.Bits64b
import Derived.Laws.DeepNot64
namespace Go.Proofs.Ytebfnbnaheolgaa
open Go.RowKit
/-- The unsigned integer that stands for a signed one. -/
def foldN (y : Int) : Nat := if 0 ≤ y then (2 * y).toNat else (-2 * y - 1).toNat
def unfoldI (x : Nat) : Int := if x % 2 = 0 then (x / 2 : Nat) else -((x / 2 : Nat) : Int) - 1
theorem unfold_fold (y : Int) : unfoldI (foldN y) = y := by unfold unfoldI foldN; split <;> split <;> omega
theorem fold_unfold (x : Nat) : foldN (unfoldI x) = x := by unfold unfoldI foldN; split <;> split <;> omega
theorem fold_lt (y : Int) (h0 : -9223372036854775808 ≤ y) (h1 : y ≤ 9223372036854775807) : foldN y < 18446744073709551616 := by unfold foldN; split <;> omega
theorem unfold_in (x : Nat) (h : x < 18446744073709551616) : -9223372036854775808 ≤ unfoldI x ∧ unfoldI x ≤ 9223372036854775807 := by unfold unfoldI; split <;> omega
theorem ones_xor64 (c : Nat) (h : c < 18446744073709551616) : 18446744073709551615 ^^^ c = 18446744073709551615 - c := by
  apply Nat.eq_of_testBit_eq
  intro i
  have e : 18446744073709551615 - c = 2 ^ 64 - (c + 1) := by omega
  rw [e, Nat.testBit_two_pow_sub_succ (n := 64) (x := c) h, Nat.testBit_xor, show (18446744073709551615 : Nat) = 2 ^ 64 - 1 from rfl, Nat.testBit_two_pow_sub_one]
  by_cases hi : i < 64
  · simp [hi]
  · have : c.testBit i = false := Nat.testBit_lt_two_pow (Nat.lt_of_lt_of_le h (by
      have := Nat.pow_le_pow_right (n := 2) (by decide) (Nat.le_of_not_lt hi)
      omega))
    simp [hi, this]
theorem xor_pos (y : Int) (h0 : 0 ≤ y) (h1 : y ≤ 9223372036854775807) : bits .xor .u64 (IntKind.u64.wrap (wrap64 (y * 2))) (y / 9223372036854775808) = ((foldN y : Nat) : Int) := by
  have e1 : IntKind.u64.wrap (wrap64 (y * 2)) = ((foldN y : Nat) : Int) := by
    rw [IntKind.wrap_u64]; unfold wrap64 foldN; rw [if_pos h0]; omega
  have e2 : y / 9223372036854775808 = ((0 : Nat) : Int) := by omega
  have := fold_lt y (by omega) h1
  rw [e1, e2, bits_xor_u64_nat _ _ this (by decide), Nat.xor_zero]
theorem xor_neg (y : Int) (h0 : -9223372036854775808 ≤ y) (h1 : y < 0) : bits .xor .u64 (IntKind.u64.wrap (wrap64 (y * 2))) (IntKind.u64.wrap (y / 9223372036854775808)) = ((foldN y : Nat) : Int) := by
  have hl := fold_lt y h0 (by omega)
  have e1 : IntKind.u64.wrap (wrap64 (y * 2)) = ((18446744073709551615 - foldN y : Nat) : Int) := by
    rw [IntKind.wrap_u64]; unfold wrap64 foldN; rw [if_neg (by omega)]; omega
  have e2 : IntKind.u64.wrap (y / 9223372036854775808) = ((18446744073709551615 : Nat) : Int) := by rw [IntKind.wrap_u64]; omega
  rw [e1, e2, bits_xor_u64_nat _ _ (by omega) (by decide), Nat.xor_comm, ones_xor64 _ (by omega)]
  omega
set_option maxRecDepth 100000 in
theorem fold_any (y : Int) (h0 : -9223372036854775808 ≤ y) (h1 : y ≤ 9223372036854775807) (w : World) :
    Calls Try.prog 33 #[.int .i64 y] w fun e w' => e = .returned (.int .u64 (foldN y : Nat)) ∧ w = w' := by
  by_cases h : 0 ≤ y
  · have X := Lib.hid (xor_pos y h h1)
    go_enter Try.func33, Try.ntmps33
    go_wp2
    go_ret
    exact ⟨ret_i X.out, rfl⟩
  · have X := Lib.hid (xor_neg y h0 (by omega))
    go_enter Try.func33, Try.ntmps33
    go_wp2
    go_ret
    exact ⟨ret_i X.out, rfl⟩
theorem xor_i64_zero (a : Nat) (ha : a < 9223372036854775808) : bits .xor .i64 (a : Int) 0 = a := by
  show IntKind.i64.wrap ((BitVec.ofInt 64 (a : Int) ^^^ BitVec.ofInt 64 0).toNat : Int) = _
  have h1 : BitVec.ofInt 64 0 = 0#64 := by decide
  rw [h1, BitVec.xor_zero, BitVec.ofInt_natCast, BitVec.toNat_ofNat]
  simp [IntKind.wrap, IntKind.bits, IntKind.signed]
  omega
theorem xor_i64_ones (a : Nat) (ha : a < 9223372036854775808) : bits .xor .i64 (a : Int) (-1) = -1 - (a : Int) := by
  rw [← i64_not a ha]
  show IntKind.i64.wrap ((BitVec.ofInt 64 (a : Int) ^^^ BitVec.ofInt 64 (-1)).toNat : Int) = IntKind.i64.wrap ((BitVec.ofInt 64 (-1) ^^^ BitVec.ofInt 64 (a : Int)).toNat : Int)
  rw [BitVec.xor_comm]
theorem and_one (x : Nat) (h1 : x < 18446744073709551616) : bits .and .u64 (x : Int) 1 = ((x % 2 : Nat) : Int) := by
  have := bits_and_u64_nat x 1 h1 (by decide)
  rw [show ((1 : Nat) : Int) = 1 from rfl] at this
  rw [this, Nat.and_one_is_mod]
theorem xor_unfold (x : Nat) (h1 : x < 18446744073709551616) : bits .xor .i64 ((x : Int) / 2) (wrap64 (-wrap64 (bits .and .u64 (x : Int) 1))) = unfoldI x := by
  have e : (x : Int) / 2 = ((x / 2 : Nat) : Int) := by omega
  rw [and_one x h1, e]
  unfold unfoldI
  rcases Nat.mod_two_eq_zero_or_one x with h | h
  · rw [h, if_pos rfl, show wrap64 (-wrap64 ((0 : Nat) : Int)) = 0 by unfold wrap64; omega]
    exact xor_i64_zero _ (by omega)
  · rw [h, if_neg (by decide), show wrap64 (-wrap64 ((1 : Nat) : Int)) = -1 by unfold wrap64; omega, xor_i64_ones (x / 2) (by omega)]
    omega
set_option maxRecDepth 100000 in
theorem unfold_any (x : Nat) (h1 : x < 18446744073709551616) (w : World) :
    Calls Try.prog 35 #[.int .u64 x] w fun e w' => e = .returned (.int .i64 (unfoldI x)) ∧ w = w' := by
  have X := Lib.hid (xor_unfold x h1)
  go_enter Try.func35, Try.ntmps35
  go_wp2
  go_ret
  exact ⟨ret_i X.out, rfl⟩
set_option maxRecDepth 100000 in
theorem putInt_any (y : Int) (h0 : -9223372036854775808 ≤ y) (h1 : y ≤ 9223372036854775807) (w : World) :
    Calls Try.prog 10 #[.int .i64 y] w (Gives (.string (str (leb (foldN y)))) w) := by
  have F := Lib.hid (fold_any y h0 h1 w)
  have U := Lib.hid (putUint_any (foldN y) (fold_lt y h0 h1) w)
  generalize foldN y = x at *
  generalize str (leb x) = t at *
  go_enter Try.func10, Try.ntmps10
  go_wp2_with fail
  refine F.out.mono ?_
  rintro e w' ⟨rfl, rfl⟩
  go_wp2_with fail
  refine U.out.mono ?_
  rintro e w1 ⟨rfl, hb⟩
  have B := Lib.hid hb
  clear hb
  go_wp2
  go_ret
  exact ⟨rfl, B.out⟩
set_option maxRecDepth 100000 in
theorem rputInt_any (y : Int) (h0 : -9223372036854775808 ≤ y) (h1 : y ≤ 9223372036854775807) (w : World) :
    Calls Try.prog 12 #[.int .i64 y] w (Gives (.string (str (leb (foldN y)))) w) := by
  have U := Lib.hid (fun w' => rputUint_any 10 (foldN y) (fold_lt y h0 h1) (Nat.lt_of_lt_of_le (fold_lt y h0 h1) (by decide)) w')
  by_cases h : 0 ≤ y
  · have e : foldN y = y.toNat * 2 := by unfold foldN; rw [if_pos h]; omega
    obtain ⟨x, rfl⟩ := Int.eq_ofNat_of_zero_le h
    have e1 : foldN (x : Int) = x * 2 := e
    have hx : x * 2 < 18446744073709551616 := by omega
    rw [e1] at U ⊢
    clear e e1
    generalize str (leb (x * 2)) = t at *
    go_enter Try.func12, Try.ntmps12
    go_wp2_with fail
    refine (U.out _).mono ?_
    rintro e w1 ⟨rfl, hb⟩
    have B := Lib.hid hb
    clear hb
    go_wp2
    go_ret
    exact ⟨rfl, B.out⟩
  · obtain ⟨x, hx⟩ : ∃ x : Nat, y = -(x : Int) - 1 := ⟨(-y - 1).toNat, by omega⟩
    subst hx
    have e1 : foldN (-(x : Int) - 1) = x * 2 + 1 := by unfold foldN; rw [if_neg (by omega)]; omega
    have hx : x * 2 + 1 < 18446744073709551616 := by omega
    rw [e1] at U ⊢
    clear e1
    generalize str (leb (x * 2 + 1)) = t at *
    go_enter Try.func12, Try.ntmps12
    go_wp2_with fail
    refine (U.out _).mono ?_
    rintro e w1 ⟨rfl, hb⟩
    have B := Lib.hid hb
    clear hb
    go_wp2
    go_ret
    exact ⟨rfl, B.out⟩
end Go.Proofs.Ytebfnbnaheolgaa
