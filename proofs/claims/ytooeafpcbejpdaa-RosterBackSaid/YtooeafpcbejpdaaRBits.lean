/- Has, Bit, the program's has: no claim of its own. -/
import Derived.Test.YtooeafpcbejpdaaGBd
import Derived.IntWalk
namespace Go.Proofs.Ytooeafpcbejpdaa
open Go.RowKit
open MR (Bd)
theorem i64_and1 (n : Int) : bits .and .i64 n 1 = n % 2 := by
  have h1 : (BitVec.ofInt 64 1).toNat = 2 ^ 1 - 1 := by decide
  have key : (BitVec.ofInt 64 n &&& BitVec.ofInt 64 1).toNat = (n % ((2 ^ 64 : Nat) : Int)).toNat % 2 ^ 1 := by
    rw [BitVec.toNat_and, BitVec.toNat_ofInt, h1, Nat.and_two_pow_sub_one_eq_mod]
  show IntKind.i64.wrap ((BitVec.ofInt 64 n &&& BitVec.ofInt 64 1).toNat : Nat) = n % 2
  rw [key, IntKind.wrap_i64]
  omega
theorem has_eq (m : Int) (i : Nat) : (bits .and .i64 (MR.shr m i) 1 == 1) = MR.has m i := by
  rw [i64_and1]
  unfold MR.has
  by_cases h : MR.shr m i % 2 = 1
  · rw [decide_eq_true h, h]; rfl
  · rw [decide_eq_false h]; exact beq_eq_false_iff_ne.2 h
theorem has_eq' (m : Int) (i : Nat) : (bits .and .i64 (m / 2 ^ i) 1 == 1) = MR.has m i := by
  have := has_eq m i
  unfold MR.shr at this
  rw [← this]
  push_cast
  rfl
theorem or_bit {s : Int} {k : Nat} (h0 : 0 ≤ s ∧ s ≤ 255) (hk : k < 8) (h : MR.has s k = false) : bits .or .i64 s ((2 ^ k : Nat) : Int) = s + ((2 ^ k : Nat) : Int) := by
  have K : ∀ a : Fin 256, ∀ j : Fin 8, a.val / 2 ^ j.val % 2 ≠ 1 → bits .or .i64 (a.val : Int) ((2 ^ j.val : Nat) : Int) = ((a.val + 2 ^ j.val : Nat) : Int) := by decide +kernel
  obtain ⟨S, rfl⟩ := Int.eq_ofNat_of_zero_le h0.1
  rw [MR.has_nat] at h
  have := K ⟨S, by omega⟩ ⟨k, hk⟩ (of_decide_eq_false h)
  rw [Int.natCast_add] at this
  exact this
theorem p_has_any (m : Int) (i : Nat) (hi : i < 8) (w : World) :
    Calls Try.prog 29 #[.int .i64 m, .int .i64 i] w fun e w' => e = .returned (.bool (MR.has m i)) ∧ w' = w := by
  go_enter Try.func29, Try.ntmps29
  go_wp2
  go_ret
  exact ⟨by simp [has_eq'], rfl⟩
set_option maxRecDepth 100000 in
set_option maxHeartbeats 1000000 in
theorem r_has_any (m : Int) (i : Nat) (hm : -9223372036854775808 ≤ m ∧ m ≤ 9223372036854775807) (hi : i ≤ 100) (w : World) :
    Calls Try.prog 30 #[.int .i64 m, .int .i64 i] w (Gives (.bool (MR.has m i)) w) := by
  go_enter Try.func30, Try.ntmps30
  go_wp2
  go_loop [0, 5] (fun t i' => ∃ k : Nat, k ≤ i ∧ i' = .int .i64 k ∧ t = .int .i64 (MR.shr m k)) (fun _ i' => i - (intOf i').toNat)
  case atStart => exact ⟨0, Nat.zero_le _, rfl, by rw [MR.shr_zero]⟩
  case round =>
    obtain ⟨k, hk, rfl, rfl⟩ := hrel
    have e := MR.shr_succ m k
    have r := MR.shr_range hm k
    by_cases hlt : k < i
    · generalize MR.shr m k = x at *
      go_wp2
      go_round
      case rel => exact ⟨k + 1, by omega, by go_num, by rw [e]⟩
      case measure => simp [intOf]; omega
    · obtain rfl : k = i := by omega
      have E := has_eq m k
      generalize MR.shr m k = x at *
      go_wp2
      go_ret
      exact ⟨by rw [← E]; rfl, Below.refl _ _⟩
set_option maxRecDepth 100000 in
set_option maxHeartbeats 1000000 in
theorem bit_any (i : Nat) (hi : i ≤ 60) (w : World) :
    Calls Try.prog 24 #[.int .i64 i] w (Gives (.int .i64 ((2 ^ i : Nat) : Int)) w) := by
  have HP := Lib.hid (fun k (hk : k ≤ i) => show (2 ^ k : Nat) ≤ 2 ^ 60 from Nat.pow_le_pow_right (by decide) (by omega))
  go_enter Try.func24, Try.ntmps24
  go_wp2
  go_loop [3, 4] (fun t i' => ∃ k : Nat, k ≤ i ∧ i' = .int .i64 k ∧ t = .int .i64 ((2 ^ k : Nat) : Int)) (fun _ i' => i - (intOf i').toNat)
  case atStart => exact ⟨0, Nat.zero_le _, rfl, rfl⟩
  case round =>
    obtain ⟨k, hk, rfl, rfl⟩ := hrel
    by_cases hlt : k < i
    · have h1 := HP.out (k + 1) hlt
      have e1 := Nat.pow_succ 2 k
      have E := Lib.hid e1
      rw [e1] at h1
      clear e1
      generalize (2 ^ k : Nat) = x at *
      go_wp2
      go_round
      case rel => exact ⟨k + 1, by omega, by go_num, by rw [E.out]; congr 1; push_cast; omega⟩
      case measure => simp [intOf]; omega
    · obtain rfl : k = i := by omega
      go_wp2
      go_ret
      exact ⟨rfl, Below.refl _ _⟩
end Go.Proofs.Ytooeafpcbejpdaa
