/- The contract of decode: no claim of its own. -/
import Derived.Test.YtebfnbnaheolgaaWInt
import Derived.BigQuiet
import Derived.Deep.QuietTactic
namespace Go.Proofs.Ytebfnbnaheolgaa
open Go.RowKit
set_option maxRecDepth 100000 in
theorem decGo_lt : ∀ (l : List UInt8) (i acc : Nat), i ≤ 9 → acc < 128 ^ i → (decGo l i acc).1 < 18446744073709551616
  | [], _, _, _, _ => by simp [decGo]
  | b :: t, i, acc, hi, ha => by
    rw [decGo]
    have hb : b.toNat % 128 < 128 := Nat.mod_lt _ (by decide)
    have hs : acc + b.toNat % 128 * 128 ^ i < 128 ^ (i + 1) := by
      rw [Nat.pow_succ]
      have := Nat.mul_le_mul_right (128 ^ i) (show b.toNat % 128 ≤ 127 by omega)
      omega
    split
    · simp
    · rename_i h
      by_cases h9 : i = 9
      · rw [if_pos (by omega)]
        have h1 : b.toNat % 128 ≤ 1 := by omega
        have e : (128 : Nat) ^ i = 9223372036854775808 := by rw [h9]
        show acc + b.toNat % 128 * 128 ^ i < _
        rw [e] at ha ⊢
        have := Nat.mul_le_mul_right 9223372036854775808 h1
        omega
      · split
        · show acc + b.toNat % 128 * 128 ^ i < _
          have := Nat.pow_le_pow_right (n := 128) (by decide) (show i + 1 ≤ 9 by omega)
          have e : (128 : Nat) ^ 9 = 9223372036854775808 := by decide
          omega
        · exact decGo_lt t (i + 1) _ (by omega) hs
def decRet (r : Nat × Nat × Nat) : Ending := .returned (.tuple #[.int .u64 (r.1 : Nat), .int .i64 (r.2.1 : Nat), .int .i64 (r.2.2 : Nat)])
def DecPost (r : Nat × Nat × Nat) (w : World) (e : Ending) (w' : World) : Prop := e = decRet r ∧ w = w'
theorem or_val (acc b k : Nat) (hk : k ≤ 9) (ha : acc < 128 ^ k) (hb : b < 256) (h9 : k = 9 → b ≤ 1) :
    bits .or .u64 (acc : Int) (IntKind.u64.wrap (IntKind.u64.wrap (bits .andNot .u8 (b : Int) 128) * 2 ^ (7 * k))) = ((acc + b % 128 * 128 ^ k : Nat) : Int) ∧ acc + b % 128 * 128 ^ k < 18446744073709551616 := by
  have e1 : bits .andNot .u8 (b : Int) 128 = ((b % 128 : Nat) : Int) := by
    have h : ∀ z : Nat, z < 256 → bits .andNot .u8 (z : Int) 128 = ((z % 128 : Nat) : Int) := by decide +kernel
    exact h b hb
  have e2 : (2 : Int) ^ (7 * k) = ((128 ^ k : Nat) : Int) := by
    rw [Int.natCast_pow, show ((128 : Nat) : Int) = 2 ^ 7 from rfl, ← Int.pow_mul]
  have hP : k ≤ 8 → 128 ^ k ≤ 72057594037927936 := fun h => by
    have := Nat.pow_le_pow_right (n := 128) (by decide) h
    have e : (128 : Nat) ^ 8 = 72057594037927936 := by decide
    omega
  have hlt : acc + b % 128 * 128 ^ k < 18446744073709551616 := by
    rcases Nat.lt_or_ge k 9 with h | h
    · have := hP (by omega)
      have h2 := Nat.mul_le_mul (show b % 128 ≤ 127 by omega) this
      omega
    · obtain rfl : k = 9 := by omega
      have e : (128 : Nat) ^ 9 = 9223372036854775808 := by decide
      rw [e] at ha ⊢
      have := h9 rfl
      have h2 := Nat.mul_le_mul_right 9223372036854775808 (show b % 128 ≤ 1 by omega)
      omega
  have e3 : IntKind.u64.wrap ((b % 128 : Nat) : Int) = ((b % 128 : Nat) : Int) := by rw [IntKind.wrap_u64]; omega
  have e4 : ((b % 128 : Nat) : Int) * ((128 ^ k : Nat) : Int) = ((b % 128 * 128 ^ k : Nat) : Int) := (Int.natCast_mul _ _).symm
  have e5 : IntKind.u64.wrap ((b % 128 * 128 ^ k : Nat) : Int) = ((b % 128 * 128 ^ k : Nat) : Int) := by
    rw [IntKind.wrap_u64]
    generalize b % 128 * 128 ^ k = M at hlt ⊢
    omega
  rw [e1, e3, e2, e4, e5, bits_or_u64_nat _ _ (by omega) (by omega)]
  refine ⟨?_, hlt⟩
  congr 1
  rw [show 128 ^ k = 2 ^ (7 * k) by rw [Nat.pow_mul]] at ha ⊢
  rw [Nat.or_comm, Nat.mul_comm, ← Nat.two_pow_add_eq_or_of_lt ha, Nat.add_comm]
theorem drop_cons (s : ByteArray) (k : Nat) (h : k < s.size) : s.data.toList.drop k = s[k] :: s.data.toList.drop (k + 1) := by
  rw [List.drop_eq_getElem_cons (by simpa using h)]; rfl
theorem decRet_eq {r : Nat × Nat × Nat} {x n e : Nat} (h : (x, n, e) = r) : Ending.returned (.tuple #[.int .u64 (x : Int), .int .i64 (n : Int), .int .i64 (e : Int)]) = decRet r := by subst h; rfl
set_option maxRecDepth 100000 in
set_option maxHeartbeats 1000000 in
theorem decode_any (s : ByteArray) (hs : s.size ≤ 9223372036854775807) (w : World) :
    Calls Try.prog 34 #[.string s] w (DecPost (decGo s.data.toList 0 0) w) := by
  go_enter Try.func34, Try.ntmps34
  go_wp2
  go_loop [2, 9] (fun v i => ∃ (k acc : Nat), k ≤ 9 ∧ k ≤ s.size ∧ Hid (acc < 128 ^ k) ∧ i = .int .i64 k ∧ v = .int .u64 acc ∧ Hid (decGo (s.data.toList.drop k) k acc = decGo s.data.toList 0 0)) (fun _ i => s.size - (intOf i).toNat)
  case atStart => exact ⟨0, 0, by omega, by omega, Lib.hid (by decide), rfl, rfl, Lib.hid (by rw [List.drop_zero])⟩
  case round =>
    obtain ⟨k, acc, hk, hks, ha, rfl, rfl, hd⟩ := hrel
    by_cases hlt : k < s.size
    · have D := hd.out
      rw [drop_cons s k hlt, decGo] at D
      obtain ⟨b, hb⟩ : ∃ b, s[k].toNat = b := ⟨_, rfl⟩
      rw [hb] at D
      have hbl : b < 256 := by rw [← hb]; exact s[k].toNat_lt
      by_cases c1 : (k = 9 ∧ 1 < b) ∨ (0 < k ∧ b = 0)
      · rw [if_pos c1] at D
        have F : Hid (decRet (0, 0, 2) = decRet (decGo s.data.toList 0 0)) := Lib.hid (by rw [D])
        clear D hd
        by_cases h9 : k = 9 ∧ 1 < b
        · obtain ⟨h9, h1b⟩ := h9
          subst h9
          go_wp2
          refine bodyPost_ret (v := .tuple #[.int .u64 0, .int .i64 0, .int .i64 2]) (by simp [results, Try.results34, go_sem]) rfl ⟨F.out, rfl⟩
        · have hk0 : 0 < k := by omega
          have hb0 : b = 0 := by omega
          have h9' : k = 9 → b ≤ 1 := by omega
          clear c1 h9
          subst hb0
          by_cases h9 : k = 9
          · subst h9
            go_wp2
            refine bodyPost_ret (v := .tuple #[.int .u64 0, .int .i64 0, .int .i64 2]) (by simp [results, Try.results34, go_sem]) rfl ⟨F.out, rfl⟩
          · have n9 : ((k : Int) == 9) = false := beq_eq_false_iff_ne.2 (by omega)
            go_wp2
            refine bodyPost_ret (v := .tuple #[.int .u64 0, .int .i64 0, .int .i64 2]) (by simp [results, Try.results34, go_sem]) rfl ⟨F.out, rfl⟩
      · obtain ⟨V, hV⟩ := or_val acc b k hk ha.out hbl (by omega)
        rw [if_neg c1] at D
        have R0 : b < 128 → Hid ((acc + b % 128 * 128 ^ k, k + 1, 0) = decGo s.data.toList 0 0) := fun h => Lib.hid (by rw [← D, if_pos h])
        have N0 : ¬ b < 128 → Hid (decGo (s.data.toList.drop (k + 1)) (k + 1) (acc + b % 128 * 128 ^ k) = decGo s.data.toList 0 0) := fun h => Lib.hid (by rw [← D, if_neg h])
        have P0 : Hid (acc + b % 128 * 128 ^ k < 128 ^ (k + 1)) := Lib.hid (by
          have h := ha.out
          rw [Nat.pow_succ]
          have := Nat.mul_le_mul_right (128 ^ k) (show b % 128 ≤ 127 by omega)
          omega)
        clear D hd ha
        generalize acc + b % 128 * 128 ^ k = acc' at *
        by_cases h9 : k = 9
        · have hb1 : b = 1 := by omega
          have R1 := R0 (by omega)
          have t9 : ((k : Int) == 9) = true := beq_iff_eq.2 (by omega)
          have n1 : decide ((1 : Int) < (b : Int)) = false := decide_eq_false (by omega)
          have nb : ((b : Int) == 0) = false := beq_eq_false_iff_ne.2 (by omega)
          have k0 : (0 : Int) < (k : Int) := by omega
          have h128 : (b : Int) < 128 := by omega
          clear c1 R0 N0 P0 h9 hb1
          go_wp2
          refine bodyPost_ret (v := .tuple #[.int .u64 acc', .int .i64 (k + 1), .int .i64 0]) (by simp [results, Try.results34, go_sem]) rfl ⟨decRet_eq (n := k + 1) (e := 0) R1.out, rfl⟩
        · have n9 : ((k : Int) == 9) = false := beq_eq_false_iff_ne.2 (by omega)
          by_cases hk0 : 0 < k
          · have hb0 : b ≠ 0 := by omega
            have nb : ((b : Int) == 0) = false := beq_eq_false_iff_ne.2 (by omega)
            by_cases h128 : b < 128
            · have R1 := R0 h128
              clear c1 R0 N0 P0
              go_wp2
              refine bodyPost_ret (v := .tuple #[.int .u64 acc', .int .i64 (k + 1), .int .i64 0]) (by simp [results, Try.results34, go_sem]) rfl ⟨decRet_eq (n := k + 1) (e := 0) R1.out, rfl⟩
            · have N1 := N0 h128
              clear c1 R0 N0
              go_wp2
              go_round
              case rel => exact ⟨k + 1, acc', by omega, by omega, P0, by go_num, rfl, N1⟩
              case measure => simp [intOf]; omega
          · have k0 : ¬ (0 : Int) < (k : Int) := by omega
            by_cases h128 : b < 128
            · have R1 := R0 h128
              clear c1 R0 N0 P0 hk0
              go_wp2
              refine bodyPost_ret (v := .tuple #[.int .u64 acc', .int .i64 (k + 1), .int .i64 0]) (by simp [results, Try.results34, go_sem]) rfl ⟨decRet_eq (n := k + 1) (e := 0) R1.out, rfl⟩
            · have N1 := N0 h128
              clear c1 R0 N0 hk0
              go_wp2
              go_round
              case rel => exact ⟨k + 1, acc', by omega, by omega, P0, by go_num, rfl, N1⟩
              case measure => simp [intOf]; omega
    · go_wp2
      refine bodyPost_ret (v := .tuple #[.int .u64 0, .int .i64 0, .int .i64 1]) (by simp [results, Try.results34, go_sem]) rfl ⟨decRet_eq (x := 0) (n := 0) (e := 1) ?_, rfl⟩
      have h := hd.out
      rw [List.drop_eq_nil_of_le (by simp; omega), decGo] at h
      exact h
end Go.Proofs.Ytebfnbnaheolgaa
