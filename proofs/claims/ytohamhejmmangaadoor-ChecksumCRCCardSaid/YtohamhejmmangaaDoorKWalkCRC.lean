/- The walk of ChecksumCRC: no claim of its own. -/
import Derived.Test.YtohamhejmmangaaDoorKAwake
namespace Go.Proofs.YtohamhejmmangaaDoor
open Go.RowKit
set_option maxRecDepth 100000 in
set_option maxHeartbeats 1000000 in
theorem crc_walk (crc : Int) (s : ByteArray) (w : World) (hc : 0 ≤ crc ∧ crc ≤ 4294967295) (hs : s.size ≤ maxLen) (ht : Tab w) :
    Calls Tryd.prog 3 #[.int .u32 crc, .string s] w (Gives (.bool true) w) := by
  obtain ⟨c, rfl⟩ := Int.eq_ofNat_of_zero_le hc.1
  unfold maxLen at hs
  have hc2 : c < 4294967296 := by omega
  have ht0 := Lib.hid ht
  rcases Nat.lt_or_ge 6000 s.size with h | h
  · have F := Lib.hid (few_no s h w)
    clear ht
    go_enter Tryd.func3, Tryd.ntmps3
    go_wp2_with fail
    refine F.out.mono ?_
    rintro e w' ⟨rfl, rfl⟩
    go_wp2
    go_ret
    exact ⟨rfl, Below.refl _ _⟩
  have F := Lib.hid (few_yes s h w)
  have C1 := Lib.hid (crc_any s (by omega) w ht)
  have C2 := Lib.hid (rcrc_any s (by omega) w)
  have U1 := Lib.hid (update_any c hc2 s (by omega) w ht)
  have U2 := Lib.hid (rupdate_any c hc2 s (by omega) w)
  clear ht
  generalize crcOf 0 s.data.toList = r1 at *
  generalize crcOf c s.data.toList = r2 at *
  go_enter Tryd.func3, Tryd.ntmps3
  go_wp2_with fail
  refine (F.out).mono ?_
  rintro e w' ⟨rfl, rfl⟩
  go_wp2_with fail
  refine (C1.out).mono ?_
  rintro e w' ⟨rfl, rfl⟩
  go_wp2_with fail
  refine (C2.out).mono ?_
  rintro e w' ⟨rfl, rfl⟩
  go_wp2_with fail
  refine (U1.out).mono ?_
  rintro e w' ⟨rfl, rfl⟩
  go_wp2_with fail
  refine (U2.out).mono ?_
  rintro e w' ⟨rfl, rfl⟩
  go_wp2_with fail
  refine (awake_any _ ht0.out).mono ?_
  rintro e w9 ⟨rfl, hb⟩
  have BE := Lib.hid hb
  clear hb
  go_wp2
  go_ret
  exact ⟨rfl, BE.out⟩
end Go.Proofs.YtohamhejmmangaaDoor
