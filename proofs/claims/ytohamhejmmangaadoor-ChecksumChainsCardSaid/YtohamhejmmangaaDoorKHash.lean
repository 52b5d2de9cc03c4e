/- The contracts of Hash and of the hash steps: no claim of its own. -/
import Derived.Test.YtohamhejmmangaaDoorKCrc
namespace Go.Proofs.YtohamhejmmangaaDoor
open Go.RowKit
theorem xor64_byte (r : Nat) (b : UInt8) (h : r < 18446744073709551616) : bits BinOp.xor IntKind.u64 (r : Int) (b.toNat : Int) = ((r ^^^ b.toNat : Nat) : Int) := u64_xor_nat r b.toNat h (u8_lt64 b)
theorem fnv_int (x : Nat) : IntKind.u64.wrap ((x : Int) * 1099511628211) = ((x * 1099511628211 % 18446744073709551616 : Nat) : Int) := by
  rw [IntKind.wrap_u64]; omega
set_option maxRecDepth 100000 in
set_option maxHeartbeats 1000000 in
theorem absorb_any (c : Nat) (hc : c < 18446744073709551616) (s : ByteArray) (hs : s.size ≤ 9223372036854775807) (w : World) :
    Calls Tryd.prog 30 #[.int .u64 c, .string s] w fun e w' => e = .returned (.int .u64 (fnvFold c s.data.toList : Nat)) ∧ w = w' := by
  go_enter Tryd.func30, Tryd.ntmps30
  go_wp2
  go_loop [0, 8] (fun v i => ∃ k r : Nat, k ≤ s.size ∧ i = .int .i64 k ∧ v = .int .u64 r ∧ r < 18446744073709551616 ∧ Hid (r = fnvFold c (s.data.toList.take k))) (fun _ i => s.size - (intOf i).toNat)
  case atStart => exact ⟨0, c, by omega, rfl, rfl, hc, Lib.hid rfl⟩
  case round =>
    obtain ⟨k, r, hk, rfl, rfl, hr2, hr⟩ := hrel
    by_cases hlt : k < s.size
    · have hb8 : s[k].toNat < 256 := s[k].toNat_lt
      have hxb := xor64_byte r s[k] hr2
      have hxm := fnv_int (r ^^^ s[k].toNat)
      have R : Hid ((r ^^^ s[k].toNat) * 1099511628211 % 18446744073709551616 = fnvFold c (s.data.toList.take (k + 1))) := Lib.hid (by
        rw [take_snoc' s k hlt, fnvFold_snoc, ← hr.out]; rfl)
      have hl : (r ^^^ s[k].toNat) * 1099511628211 % 18446744073709551616 < 18446744073709551616 := Nat.mod_lt _ (by decide)
      clear hr
      generalize r ^^^ s[k].toNat = x at *
      generalize x * 1099511628211 % 18446744073709551616 = z at *
      go_wp2
      go_round
      case rel => exact ⟨k + 1, z, by omega, by go_num, rfl, hl, R⟩
      case measure => simp [intOf]; omega
    · obtain rfl : k = s.size := by omega
      have F : Hid (r = fnvFold c s.data.toList) := Lib.hid (by
        rw [hr.out, List.take_of_length_le (by simp)])
      clear hr
      go_wp2
      go_ret
      exact ⟨ret_i (by rw [F.out]), rfl⟩
/-- What Hash answers. -/
def hashOf (l : List UInt8) : Nat := fnvFold 14695981039346656037 l
theorem hashOf_lt (l : List UInt8) : hashOf l < 18446744073709551616 := fnvFold_lt (by decide) _
set_option maxRecDepth 100000 in
set_option maxHeartbeats 400000 in
theorem hash_any (s : ByteArray) (hs : s.size ≤ 9223372036854775807) (w : World) :
    Calls Tryd.prog 16 #[.string s] w fun e w' => e = .returned (.int .u64 (hashOf s.data.toList : Nat)) ∧ w = w' := by
  have S : Hid (Calls Tryd.prog 30 #[.int .u64 14695981039346656037, .string s] w fun e w' => e = .returned (.int .u64 (hashOf s.data.toList : Nat)) ∧ w = w') := Lib.hid (absorb_any 14695981039346656037 (by decide) s hs w)
  go_enter Tryd.func16, Tryd.ntmps16
  go_wp2_with fail
  refine S.out.mono ?_
  rintro e w' ⟨rfl, rfl⟩
  go_wp2
  go_ret
  exact ⟨rfl, rfl⟩
set_option maxRecDepth 100000 in
set_option maxHeartbeats 1000000 in
theorem rhash_any (s : ByteArray) (hs : s.size ≤ 9223372036854775807) (w : World) :
    Calls Tryd.prog 17 #[.string s] w fun e w' => e = .returned (.int .u64 (hashOf s.data.toList : Nat)) ∧ w = w' := by
  go_enter Tryd.func17, Tryd.ntmps17
  go_wp2
  go_loop [3, 4] (fun v i => ∃ k r : Nat, k ≤ s.size ∧ i = .int .i64 k ∧ v = .int .u64 r ∧ r < 18446744073709551616 ∧ Hid (r = hashOf (s.data.toList.take k))) (fun _ i => s.size - (intOf i).toNat)
  case atStart => exact ⟨0, 14695981039346656037, by omega, rfl, rfl, by decide, Lib.hid rfl⟩
  case round =>
    obtain ⟨k, r, hk, rfl, rfl, hr2, hr⟩ := hrel
    by_cases hlt : k < s.size
    · have hb8 : s[k].toNat < 256 := s[k].toNat_lt
      have hxb := xor64_byte r s[k] hr2
      have hxm := fnv_int (r ^^^ s[k].toNat)
      have R : Hid ((r ^^^ s[k].toNat) * 1099511628211 % 18446744073709551616 = hashOf (s.data.toList.take (k + 1))) := Lib.hid (by
        unfold hashOf at hr ⊢
        rw [take_snoc' s k hlt, fnvFold_snoc, ← hr.out]; rfl)
      have hl : (r ^^^ s[k].toNat) * 1099511628211 % 18446744073709551616 < 18446744073709551616 := Nat.mod_lt _ (by decide)
      clear hr
      generalize r ^^^ s[k].toNat = x at *
      generalize x * 1099511628211 % 18446744073709551616 = z at *
      go_wp2
      go_round
      case rel => exact ⟨k + 1, z, by omega, by go_num, rfl, hl, R⟩
      case measure => simp [intOf]; omega
    · obtain rfl : k = s.size := by omega
      have F : Hid (r = hashOf s.data.toList) := Lib.hid (by
        rw [hr.out, List.take_of_length_le (by simp)])
      clear hr
      go_wp2
      go_ret
      exact ⟨ret_i (by rw [F.out]), rfl⟩
end Go.Proofs.YtohamhejmmangaaDoor
