/- The contracts of CRC and Update, of the package and of the reference: no claim of its own. -/
import Derived.Test.YtohamhejmmangaaDoorKBase
namespace Go.Proofs.YtohamhejmmangaaDoor
open Go.RowKit
theorem ret_i {k : IntKind} {a b : Int} (h : a = b) : Ending.returned (.int k a) = .returned (.int k b) := by rw [h]
theorem mask15 (r : Nat) (h : r < 4294967296) : bits BinOp.and IntKind.u32 (r : Int) 15 = ((r % 16 : Nat) : Int) := by
  have := u32_and_nat r 15 h (by decide)
  rw [nat_mask4] at this
  exact this
theorem nib_lt (i : Nat) : nibs.getD i 0 < 4294967296 := by
  rcases Nat.lt_or_ge i 16 with h | h
  · exact (show ∀ i, i < 16 → nibs.getD i 0 < 4294967296 by decide) i h
  · rw [List.getD_eq_getElem?_getD, List.getElem?_eq_none h]; decide
set_option maxRecDepth 100000 in
set_option maxHeartbeats 400000 in
theorem shift_any (r : Nat) (h : r < 4294967296) (w : World) (ht : Tab w) :
    Calls Tryd.prog 28 #[.int .u32 r] w fun e w' => e = .returned (.int .u32 (nibStep r : Nat)) ∧ w = w' := by
  have hc := ht (r % 16) (by omega)
  have hm := mask15 r h
  have hl : r % 16 < 16 := by omega
  have hx : Hid (bits BinOp.xor IntKind.u32 ((r : Int) / 16) ((nibs.getD (r % 16) 0 : Nat) : Int) = (nibStep r : Nat)) := Lib.hid (u32_xor_nat (r / 16) (nibs.getD (r % 16) 0) (by omega) (nib_lt _))
  generalize nibs.getD (r % 16) 0 = t at *
  go_enter Tryd.func28, Tryd.ntmps28
  go_wp2
  go_ret
  exact ⟨ret_i hx.out, rfl⟩
theorem nibStep_lt {r : Nat} (h : r < 4294967296) : nibStep r < 4294967296 := by rw [nibStep_eq]; exact bits4_lt h
theorem xor_byte (r : Nat) (b : UInt8) (h : r < 4294967296) : bits BinOp.xor IntKind.u32 (r : Int) (b.toNat : Int) = ((r ^^^ b.toNat : Nat) : Int) := u32_xor_nat r b.toNat h (u8_lt b)
theorem xor_byte_lt (r : Nat) (b : UInt8) (h : r < 4294967296) : r ^^^ b.toNat < 4294967296 := Nat.xor_lt_two_pow (n := 32) h (u8_lt b)
theorem ones_xor (c : Nat) (h : c < 4294967296) : 4294967295 ^^^ c = 4294967295 - c := by
  apply Nat.eq_of_testBit_eq
  intro i
  have e : 4294967295 - c = 2 ^ 32 - (c + 1) := by omega
  rw [e, Nat.testBit_two_pow_sub_succ (n := 32) (x := c) h, Nat.testBit_xor, show (4294967295 : Nat) = 2 ^ 32 - 1 from rfl, Nat.testBit_two_pow_sub_one]
  rcases Nat.lt_or_ge i 32 with hi | hi
  · simp [hi]
  · have : c.testBit i = false := Nat.testBit_lt_two_pow (Nat.lt_of_lt_of_le h (show 2 ^ 32 ≤ 2 ^ i from Nat.pow_le_pow_right (by decide) hi))
    simp [show ¬ i < 32 by omega, this]
theorem flip_bits (c : Nat) (h : c < 4294967296) : bits BinOp.xor IntKind.u32 IntKind.u32.max (c : Int) = ((4294967295 - c : Nat) : Int) := by
  have := u32_xor_nat 4294967295 c (by decide) h
  rw [ones_xor c h] at this
  exact this
set_option maxRecDepth 100000 in
set_option maxHeartbeats 1000000 in
theorem update_any (c : Nat) (hc : c < 4294967296) (s : ByteArray) (hs : s.size ≤ 9223372036854775807) (w : World) (ht : Tab w) :
    Calls Tryd.prog 13 #[.int .u32 c, .string s] w fun e w' => e = .returned (.int .u32 (crcOf c s.data.toList : Nat)) ∧ w = w' := by
  have S := Lib.hid (fun r (h : r < 4294967296) => shift_any r h w ht)
  have hfl := flip_bits c hc
  have hdl : 4294967295 - c < 4294967296 := by omega
  have hcr : Hid (crcOf c s.data.toList = 4294967295 - crcFold (4294967295 - c) s.data.toList) := Lib.hid rfl
  generalize 4294967295 - c = d at *
  clear ht
  go_enter Tryd.func13, Tryd.ntmps13
  go_wp2
  go_loop [5, 11] (fun v i => ∃ k r : Nat, k ≤ s.size ∧ i = .int .i64 k ∧ v = .int .u32 r ∧ Hid (r = crcFold d (s.data.toList.take k))) (fun _ i => s.size - (intOf i).toNat)
  case atStart => exact ⟨0, d, by omega, rfl, rfl, Lib.hid rfl⟩
  case round =>
    obtain ⟨k, r, hk, rfl, rfl, hr⟩ := hrel
    have hr2 : r < 4294967296 := by rw [hr.out]; exact crcFold_lt hdl _
    by_cases hlt : k < s.size
    · have hb8 : s[k].toNat < 256 := s[k].toNat_lt
      have hxb := xor_byte r s[k] hr2
      have hxl := xor_byte_lt r s[k] hr2
      have R : Hid (nibStep (nibStep (r ^^^ s[k].toNat)) = crcFold d (s.data.toList.take (k + 1))) := Lib.hid (by
        rw [take_snoc' s k hlt, crcFold_snoc, ← hr.out, byteStep_nib])
      clear hr
      generalize r ^^^ s[k].toNat = x at *
      go_wp2_with fail
      refine (S.out x hxl).mono ?_
      rintro e w' ⟨rfl, rfl⟩
      go_wp2_with fail
      refine (S.out _ (nibStep_lt hxl)).mono ?_
      rintro e w' ⟨rfl, rfl⟩
      go_wp2
      go_round
      case rel => exact ⟨k + 1, nibStep (nibStep x), by omega, by go_num, rfl, R⟩
      case measure => simp [intOf]; omega
    · obtain rfl : k = s.size := by omega
      have F : Hid (4294967295 - r = crcOf c s.data.toList) := Lib.hid (by
        rw [hcr.out, hr.out, List.take_of_length_le (by simp)])
      have hfr := flip_bits r hr2
      rw [F.out] at hfr
      clear hr
      go_wp2
      go_ret
      exact ⟨rfl, rfl⟩
set_option maxRecDepth 100000 in
set_option maxHeartbeats 400000 in
theorem crc_any (s : ByteArray) (hs : s.size ≤ 9223372036854775807) (w : World) (ht : Tab w) :
    Calls Tryd.prog 11 #[.string s] w fun e w' => e = .returned (.int .u32 (crcOf 0 s.data.toList : Nat)) ∧ w = w' := by
  have S := Lib.hid (update_any 0 (by decide) s hs w ht)
  clear ht
  go_enter Tryd.func11, Tryd.ntmps11
  go_wp2_with fail
  refine S.out.mono ?_
  rintro e w' ⟨rfl, rfl⟩
  go_wp2
  go_ret
  exact ⟨rfl, rfl⟩
/-- k shifts of the register. -/
def shifts (r : Nat) : Nat → Nat
  | 0 => r
  | k + 1 => bitStep (shifts r k)
theorem shifts_eight (r : Nat) : shifts r 8 = bits4 (bits4 r) := rfl
theorem shifts_lt {r : Nat} (h : r < 4294967296) (k : Nat) : shifts r k < 4294967296 := by
  induction k with
  | zero => exact h
  | succ k ih => exact bitStep_lt ih
theorem poly_xor (r : Nat) (h : r < 4294967296) : bits BinOp.xor IntKind.u32 ((r : Int) / 2) 2197175160 = ((r / 2 ^^^ 2197175160 : Nat) : Int) := u32_xor_nat (r / 2) 2197175160 (by omega) (by decide)
set_option maxRecDepth 100000 in
set_option maxHeartbeats 1000000 in
theorem step_any (r : Nat) (b : UInt8) (h : r < 4294967296) (w : World) :
    Calls Tryd.prog 29 #[.int .u32 r, .int .u8 b.toNat] w fun e w' => e = .returned (.int .u32 (byteStep r b.toNat : Nat)) ∧ w = w' := by
  have hb8 : b.toNat < 256 := b.toNat_lt
  have hx := xor_byte r b h
  have hxl := xor_byte_lt r b h
  have hs : Hid (byteStep r b.toNat = shifts (r ^^^ b.toNat) 8) := Lib.hid rfl
  generalize r ^^^ b.toNat = x at *
  go_enter Tryd.func29, Tryd.ntmps29
  go_wp2
  go_loop [0, 5] (fun v i => ∃ k y : Nat, k ≤ 8 ∧ i = .int .i64 k ∧ v = .int .u32 y ∧ y < 4294967296 ∧ Hid (y = shifts x k)) (fun _ i => 8 - (intOf i).toNat)
  case atStart => exact ⟨0, x, by omega, rfl, rfl, hxl, Lib.hid rfl⟩
  case round =>
    obtain ⟨k, y, hk, rfl, rfl, hy, he⟩ := hrel
    by_cases hlt : k < 8
    · have hp := poly_xor y hy
      have hyl := bitStep_lt hy
      by_cases hodd : y % 2 = 1
      · have hd : (((y : Int) % 2) == 1) = true := beq_iff_eq.2 (by omega)
        have R : Hid (y / 2 ^^^ 2197175160 = shifts x (k + 1)) := Lib.hid (by
          have : shifts x (k + 1) = bitStep y := by rw [he.out]; rfl
          rw [this]; unfold bitStep; rw [if_pos hodd])
        have hl : y / 2 ^^^ 2197175160 < 4294967296 := by rw [R.out]; exact shifts_lt hxl _
        generalize y / 2 ^^^ 2197175160 = z at *
        clear he hodd hyl
        go_wp2
        go_round
        case rel => exact ⟨k + 1, z, by omega, by go_num, rfl, hl, R⟩
        case measure => simp [intOf]; omega
      · have hd : (((y : Int) % 2) == 1) = false := beq_eq_false_iff_ne.2 (by omega)
        have R : Hid (y / 2 = shifts x (k + 1)) := Lib.hid (by
          have : shifts x (k + 1) = bitStep y := by rw [he.out]; rfl
          rw [this]; unfold bitStep; rw [if_neg hodd])
        clear he hodd hyl hp
        go_wp2
        go_round
        case rel => exact ⟨k + 1, y / 2, by omega, by go_num, by go_num, by omega, R⟩
        case measure => simp [intOf]; omega
    · obtain rfl : k = 8 := by omega
      have F : Hid (y = byteStep r b.toNat) := Lib.hid (by rw [he.out, hs.out])
      clear he
      go_wp2
      go_ret
      exact ⟨ret_i (by rw [F.out]), rfl⟩
set_option maxRecDepth 100000 in
set_option maxHeartbeats 1000000 in
theorem rupdate_any (c : Nat) (hc : c < 4294967296) (s : ByteArray) (hs : s.size ≤ 9223372036854775807) (w : World) :
    Calls Tryd.prog 14 #[.int .u32 c, .string s] w fun e w' => e = .returned (.int .u32 (crcOf c s.data.toList : Nat)) ∧ w = w' := by
  have S := Lib.hid (fun r b (h : r < 4294967296) => step_any r b h w)
  have hdl : 4294967295 - c < 4294967296 := by omega
  have hcr : Hid (crcOf c s.data.toList = 4294967295 - crcFold (4294967295 - c) s.data.toList) := Lib.hid rfl
  go_enter Tryd.func14, Tryd.ntmps14
  go_wp2
  go_loop [5, 6] (fun v i => ∃ k r : Nat, k ≤ s.size ∧ i = .int .i64 k ∧ v = .int .u32 r ∧ r < 4294967296 ∧ Hid (r = crcFold (4294967295 - c) (s.data.toList.take k))) (fun _ i => s.size - (intOf i).toNat)
  case atStart => exact ⟨0, 4294967295 - c, by omega, rfl, by go_num, hdl, Lib.hid rfl⟩
  case round =>
    obtain ⟨k, r, hk, rfl, rfl, hr2, hr⟩ := hrel
    by_cases hlt : k < s.size
    · have hb8 : s[k].toNat < 256 := s[k].toNat_lt
      have R : Hid (byteStep r s[k].toNat = crcFold (4294967295 - c) (s.data.toList.take (k + 1))) := Lib.hid (by
        rw [take_snoc' s k hlt, crcFold_snoc, ← hr.out])
      have hl := byteStep_lt (b := s[k].toNat) hr2 (u8_lt _)
      clear hr
      go_wp2_with fail
      refine (S.out r s[k] hr2).mono ?_
      rintro e w' ⟨rfl, rfl⟩
      generalize byteStep r s[k].toNat = z at *
      go_wp2
      go_round
      case rel => exact ⟨k + 1, z, by omega, by go_num, rfl, hl, R⟩
      case measure => simp [intOf]; omega
    · obtain rfl : k = s.size := by omega
      have F : Hid (4294967295 - r = crcOf c s.data.toList) := Lib.hid (by
        rw [hcr.out, hr.out, List.take_of_length_le (by simp)])
      clear hr
      go_wp2
      go_ret
      exact ⟨ret_i (by rw [← F.out]; omega), rfl⟩
set_option maxRecDepth 100000 in
set_option maxHeartbeats 400000 in
theorem rcrc_any (s : ByteArray) (hs : s.size ≤ 9223372036854775807) (w : World) :
    Calls Tryd.prog 12 #[.string s] w fun e w' => e = .returned (.int .u32 (crcOf 0 s.data.toList : Nat)) ∧ w = w' := by
  have S := Lib.hid (rupdate_any 0 (by decide) s hs w)
  go_enter Tryd.func12, Tryd.ntmps12
  go_wp2_with fail
  refine S.out.mono ?_
  rintro e w' ⟨rfl, rfl⟩
  go_wp2
  go_ret
  exact ⟨rfl, rfl⟩
end Go.Proofs.YtohamhejmmangaaDoor
