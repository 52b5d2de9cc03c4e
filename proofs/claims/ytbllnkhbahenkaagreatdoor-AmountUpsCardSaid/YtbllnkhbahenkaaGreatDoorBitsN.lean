/- Contracts of math/bits off the shelf, in plain words: no claim of its own. -/
import Derived.Shelf.Small.Bits
import Derived.Test.YtbllnkhbahenkaaGreatDoorBase
import Derived.Test.YtbllnkhbahenkaaGreatDoorCmp
import Derived.Test.YtbllnkhbahenkaaGreatDoorMaths
import Derived.Lib.ItoaNum
namespace Go.Proofs.YtbllnkhbahenkaaGreatDoor
open Go.Shelf
def lays128_ren : Go.Shelf.Ren := ⟨fun | 128 => 111 | n => n, fun | 51 => 52 | 3 => 3 | 4 => 4 | 46 => 104 | 5 => 5 | 9 => 9 | n => n, fun | n => n⟩
theorem lays128 : Go.Proofs.Lays.n128 Tryz.prog lays128_ren := {
  mixed := by kernel_rfl
  f128 := Tryz.func111.trans (congrArg some (by kernel_rfl))
  t3 := Tryz.underlying3
  a3 := Tryz.isAgg3
  z3 := Tryz.sizeOf3
  v3 := Tryz.zeroValue3
  t4 := Tryz.underlying4
  a4 := Tryz.isAgg4
  z4 := Tryz.sizeOf4
  v4 := Tryz.zeroValue4
  t5 := Tryz.underlying5
  a5 := Tryz.isAgg5
  z5 := Tryz.sizeOf5
  v5 := Tryz.zeroValue5
  t9 := Tryz.underlying9
  a9 := Tryz.isAgg9
  z9 := Tryz.sizeOf9
  v9 := Tryz.zeroValue9
  t46 := Tryz.underlying104
  a46 := Tryz.isAgg104
  z46 := Tryz.sizeOf104
  v46 := Tryz.zeroValue104
  t51 := Tryz.underlying52
  a51 := Tryz.isAgg52
  z51 := Tryz.sizeOf52
  v51 := Tryz.zeroValue52 }
theorem bits_Len32 (x : Int) (w : World) (h0 : 0 ≤ x) (h1 : x ≤ 4294967295) :
    Calls Tryz.prog 111 #[.int .u32 x] w fun e w' => e = .returned (.int .i64 (Lib.bitLen x.toNat)) ∧ w' = w := Any.bits_Len32 lays128 x w h0 h1
def lays133_ren : Go.Shelf.Ren := ⟨fun | 133 => 130 | 128 => 111 | n => n, fun | 51 => 52 | 3 => 3 | 4 => 4 | 46 => 104 | 5 => 5 | 9 => 9 | n => n, fun | n => n⟩
theorem lays133 : Go.Proofs.Lays.n133 Tryz.prog lays133_ren := {
  mixed := by kernel_rfl
  f128 := Tryz.func111.trans (congrArg some (by kernel_rfl))
  f133 := Tryz.func130.trans (congrArg some (by kernel_rfl))
  t3 := Tryz.underlying3
  a3 := Tryz.isAgg3
  z3 := Tryz.sizeOf3
  v3 := Tryz.zeroValue3
  t4 := Tryz.underlying4
  a4 := Tryz.isAgg4
  z4 := Tryz.sizeOf4
  v4 := Tryz.zeroValue4
  t5 := Tryz.underlying5
  a5 := Tryz.isAgg5
  z5 := Tryz.sizeOf5
  v5 := Tryz.zeroValue5
  t9 := Tryz.underlying9
  a9 := Tryz.isAgg9
  z9 := Tryz.sizeOf9
  v9 := Tryz.zeroValue9
  t46 := Tryz.underlying104
  a46 := Tryz.isAgg104
  z46 := Tryz.sizeOf104
  v46 := Tryz.zeroValue104
  t51 := Tryz.underlying52
  a51 := Tryz.isAgg52
  z51 := Tryz.sizeOf52
  v51 := Tryz.zeroValue52 }
theorem bits_LeadingZeros32 (x : Int) (w : World) (h0 : 0 ≤ x) (h1 : x ≤ 4294967295) :
    Calls Tryz.prog 130 #[.int .u32 x] w fun e w' => e = .returned (.int .i64 (32 - (Lib.bitLen x.toNat : Int))) ∧ w' = w := Any.bits_LeadingZeros32 lays133 x w h0 h1
end Go.Proofs.YtbllnkhbahenkaaGreatDoor
/- The contract of natural.Bits: no claim of its own. -/
namespace Go.Proofs.YtbllnkhbahenkaaGreatDoor
open Go.RowKit
/-- a has k binary digits. -/
def isBits (k a : Nat) : Prop := a < 2 ^ k ∧ (k = 0 ∨ 2 ^ (k - 1) ≤ a)
theorem isBits_inj {k j a : Nat} (h : isBits k a) (g : isBits j a) : k = j := by
  have le : ∀ {x y}, isBits x a → isBits y a → x ≤ y := by
    intro x y hx hy
    rcases hx.2 with h0 | h0
    · omega
    · have h1 : 2 ^ (x - 1) < 2 ^ y := Nat.lt_of_le_of_lt h0 hy.1
      have := (Nat.pow_lt_pow_iff_right (by decide : 1 < 2)).1 h1
      omega
  have := le h g
  have := le g h
  omega
theorem isBits_top (low t j b : Nat) (hl : low < 2 ^ j) (hb : 1 ≤ b) (h1 : 2 ^ (b - 1) ≤ t) (h2 : t < 2 ^ b) : isBits (j + b) (low + 2 ^ j * t) := by
  refine ⟨?_, .inr ?_⟩
  · rw [Nat.pow_add]
    have h3 : 2 ^ j * (t + 1) ≤ 2 ^ j * 2 ^ b := Nat.mul_le_mul_left _ h2
    rw [Nat.mul_add, Nat.mul_one] at h3
    omega
  · rw [show j + b - 1 = j + (b - 1) by omega, Nat.pow_add]
    have h3 : 2 ^ j * 2 ^ (b - 1) ≤ 2 ^ j * t := Nat.mul_le_mul_left _ h1
    omega
theorem bits_len (t : Nat) (h0 : t ≠ 0) (h : t < 4294967296) : 1 ≤ Lib.bitLen t ∧ 2 ^ (Lib.bitLen t - 1) ≤ t ∧ t < 2 ^ Lib.bitLen t ∧ Lib.bitLen t ≤ 32 := by
  have h1 := Lib.bitLenAux_bounds 64 t (by omega) h0
  refine ⟨h1.1, h1.2.1, h1.2.2, ?_⟩
  have h2 : 2 ^ (Lib.bitLen t - 1) < 2 ^ 32 := Nat.lt_of_le_of_lt h1.2.1 h
  have := (Nat.pow_lt_pow_iff_right (by decide : 1 < 2)).1 h2
  omega
def GivesBits (a : Nat) (w : World) (e : Ending) (w' : World) : Prop := ∃ k : Nat, e = .returned (.int .i64 (k : Int)) ∧ isBits k a ∧ w = w'
theorem pow32 (n : Nat) : (4294967296 : Nat) ^ n = 2 ^ (n * 32) := by rw [Nat.mul_comm, Nat.pow_mul]
set_option maxRecDepth 100000 in
set_option maxHeartbeats 400000 in
theorem bits_any (A : Option Addr) (n c a : Nat) (xs : List Nat) (w : World) (h : Num w A n c xs a) (hn : n ≤ 1000000) :
    Calls Tryz.prog 79 #[.slice A n c] w (GivesBits a w) := by
  have H := Lib.hid h
  rcases Nat.eq_zero_or_pos n with h0 | h0
  · subst h0
    have e : Hid (GivesBits a w (.returned (.int .i64 0)) w) := Lib.hid ⟨0, rfl, ⟨by have h1 := h.len; have h2 := h.val; have : xs = [] := List.eq_nil_of_length_eq_zero h1; subst this; simp [dval] at h2; omega, .inl rfl⟩, rfl⟩
    clear h
    go_enter Tryz.func79, Tryz.ntmps79
    go_wp2_with fail
    refine (trim_num _ _ _ _ _ _ H.out).mono ?_
    rintro e w' ⟨rfl, rfl⟩
    go_wp2
    go_ret
    exact e.out
  · obtain ⟨ad, rfl, _, hcell⟩ := h.toLst.at_ (k := n - 1) (by omega)
    have ht : xs.getD (n - 1) 0 ≠ 0 := by
      rcases h.tight with h1 | h1
      · have := h.len; omega
      · rw [h.len] at h1; exact h1
    have hx := h.toLst.getD_lt (n - 1)
    have hz : ((n : Int) == 0) = false := beq_eq_false_iff_ne.2 (by omega)
    have hval : a = dval (xs.take (n - 1)) + 2 ^ ((n - 1) * 32) * xs.getD (n - 1) 0 := by
      have := dval_take_succ' xs (n - 1)
      rw [show n - 1 + 1 = n by omega, List.take_of_length_le (by have := h.len; omega), h.val, pow32] at this
      exact this
    have hlow : dval (xs.take (n - 1)) < 2 ^ ((n - 1) * 32) := by
      have := dval_lt (xs.take (n - 1)) fun d hd => h.lt d (List.mem_of_mem_take hd)
      rw [List.length_take, h.len, Nat.min_eq_left (by omega), pow32] at this
      exact this
    generalize xs.getD (n - 1) 0 = t at *
    obtain ⟨b1, b2, b3, b4⟩ := bits_len t ht hx
    have HB : Hid (isBits ((n - 1) * 32 + Lib.bitLen t) a) := Lib.hid (by rw [hval]; exact isBits_top _ _ _ _ hlow b1 b2 b3)
    have C := Lib.hid (fun w' => bits_Len32 (t : Int) w' (by omega) (by omega))
    rw [Int.toNat_natCast] at C
    generalize Lib.bitLen t = L at *
    clear h hval hlow ht b1 b2 b3
    go_enter Tryz.func79, Tryz.ntmps79
    go_wp2_with fail
    refine (trim_num _ _ _ _ _ _ H.out).mono ?_
    rintro e w' ⟨rfl, rfl⟩
    go_wp2_with fail
    refine (C.out _).mono ?_
    rintro e w' ⟨rfl, rfl⟩
    go_wp2
    go_ret
    exact ⟨(n - 1) * 32 + L, by go_num, HB.out, rfl⟩
end Go.Proofs.YtbllnkhbahenkaaGreatDoor
