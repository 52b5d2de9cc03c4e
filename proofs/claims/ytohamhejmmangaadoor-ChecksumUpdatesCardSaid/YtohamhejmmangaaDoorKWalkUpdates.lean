/- The walk of ChecksumUpdates: no claim of its own. -/
import Derived.Test.YtohamhejmmangaaDoorKAwake
namespace Go.Proofs.YtohamhejmmangaaDoor
open Go.RowKit
set_option maxRecDepth 100000 in
set_option maxHeartbeats 1000000 in
theorem updates_walk (crc : Int) (a b : ByteArray) (w : World) (hc : 0 ≤ crc ∧ crc ≤ 4294967295) (hs : a.size ≤ maxLen) (hs2 : b.size ≤ maxLen) (ht : Tab w) :
    Calls Tryd.prog 4 #[.int .u32 crc, .string a, .string b] w (Gives (.bool true) w) := by
  obtain ⟨c, rfl⟩ := Int.eq_ofNat_of_zero_le hc.1
  unfold maxLen at hs hs2
  have hc2 : c < 4294967296 := by omega
  have ht0 := Lib.hid ht
  rcases Nat.lt_or_ge 6000 a.size with h | h
  · have F := Lib.hid (few_no a h w)
    clear ht
    go_enter Tryd.func4, Tryd.ntmps4
    go_wp2_with fail
    refine (F.out).mono ?_
    rintro e w' ⟨rfl, rfl⟩
    go_wp2_with fail
    refine (awake_any _ ht0.out).mono ?_
    rintro e w9 ⟨rfl, hb⟩
    have BE := Lib.hid hb
    clear hb
    go_wp2
    go_ret
    exact ⟨rfl, BE.out⟩
  rcases Nat.lt_or_ge 6000 b.size with h2 | h2
  · have F := Lib.hid (few_yes a h w)
    have F2 := Lib.hid (few_no b h2 w)
    clear ht
    go_enter Tryd.func4, Tryd.ntmps4
    go_wp2_with fail
    refine (F.out).mono ?_
    rintro e w' ⟨rfl, rfl⟩
    go_wp2_with fail
    refine (F2.out).mono ?_
    rintro e w' ⟨rfl, rfl⟩
    go_wp2_with fail
    refine (awake_any _ ht0.out).mono ?_
    rintro e w9 ⟨rfl, hb⟩
    have BE := Lib.hid hb
    clear hb
    go_wp2
    go_ret
    exact ⟨rfl, BE.out⟩
  have F := Lib.hid (few_yes a h w)
  have F2 := Lib.hid (few_yes b h2 w)
  have hsum : ¬ 9223372036854775807 < a.size + b.size := by omega
  have hab : (a ++ b).size ≤ 9223372036854775807 := by rw [ByteArray.size_append]; omega
  have U1 := Lib.hid (update_any c hc2 a (by omega) w ht)
  have hl1 := crcOf_lt c a.data.toList
  have U2 : Hid (Calls Tryd.prog 13 #[.int .u32 (crcOf c a.data.toList : Nat), .string b] w fun e w' => e = .returned (.int .u32 (crcOf c (a ++ b).data.toList : Nat)) ∧ w = w') := Lib.hid (by
    have := update_any _ hl1 b (by omega) w ht
    rw [crcOf_append hc2, ← append_data] at this
    exact this)
  have U3 := Lib.hid (update_any c hc2 (a ++ b) hab w ht)
  have U4 : Hid (Calls Tryd.prog 13 #[.int .u32 c, .string ⟨#[]⟩] w fun e w' => e = .returned (.int .u32 c) ∧ w = w') := Lib.hid (by
    have := update_any c hc2 ⟨#[]⟩ (by decide) w ht
    rw [show (⟨#[]⟩ : ByteArray).data.toList = [] from rfl, crcOf_nil hc2] at this
    exact this)
  have C1 := Lib.hid (crc_any a (by omega) w ht)
  have hl2 := crcOf_lt 0 a.data.toList
  have U5 : Hid (Calls Tryd.prog 13 #[.int .u32 (crcOf 0 a.data.toList : Nat), .string b] w fun e w' => e = .returned (.int .u32 (crcOf 0 (a ++ b).data.toList : Nat)) ∧ w = w') := Lib.hid (by
    have := update_any _ hl2 b (by omega) w ht
    rw [crcOf_append (by decide), ← append_data] at this
    exact this)
  have C2 := Lib.hid (crc_any (a ++ b) hab w ht)
  clear ht hab
  generalize crcOf c a.data.toList = r1 at *
  generalize crcOf 0 a.data.toList = r2 at *
  generalize crcOf c (a ++ b).data.toList = r3 at *
  generalize crcOf 0 (a ++ b).data.toList = r4 at *
  go_enter Tryd.func4, Tryd.ntmps4
  go_wp2_with fail
  refine (F.out).mono ?_
  rintro e w' ⟨rfl, rfl⟩
  go_wp2_with fail
  refine (F2.out).mono ?_
  rintro e w' ⟨rfl, rfl⟩
  go_wp2_with fail
  refine (U1.out).mono ?_
  rintro e w' ⟨rfl, rfl⟩
  go_wp2_with fail
  refine (U2.out).mono ?_
  rintro e w' ⟨rfl, rfl⟩
  go_wp2_with fail
  refine (U3.out).mono ?_
  rintro e w' ⟨rfl, rfl⟩
  go_wp2_with fail
  refine (U4.out).mono ?_
  rintro e w' ⟨rfl, rfl⟩
  go_wp2_with fail
  refine (C1.out).mono ?_
  rintro e w' ⟨rfl, rfl⟩
  go_wp2_with fail
  refine (U5.out).mono ?_
  rintro e w' ⟨rfl, rfl⟩
  go_wp2_with fail
  refine (C2.out).mono ?_
  rintro e w' ⟨rfl, rfl⟩
  go_wp2_with fail
  refine (awake_any _ ht0.out).mono ?_
  rintro e w9 ⟨rfl, hb⟩
  have BE := Lib.hid hb
  clear hb
  go_wp2
  go_ret
  exact ⟨rfl, BE.out⟩
end Go.Proofs.YtohamhejmmangaaDoor
