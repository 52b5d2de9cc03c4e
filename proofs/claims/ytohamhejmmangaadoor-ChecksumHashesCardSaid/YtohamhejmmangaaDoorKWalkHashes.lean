/- The walk of ChecksumHashes: no claim of its own. -/
import Derived.Test.YtohamhejmmangaaDoorKAwake
namespace Go.Proofs.YtohamhejmmangaaDoor
open Go.RowKit
set_option maxRecDepth 100000 in
set_option maxHeartbeats 1000000 in
theorem hashes_walk (p : Int) (s : ByteArray) (w : World) (hc : 0 ≤ p ∧ p ≤ 18446744073709551615) (hs : s.size ≤ maxLen) (ht : Tab w) :
    Calls Tryd.prog 5 #[.int .u64 p, .string s] w (Gives (.bool true) w) := by
  obtain ⟨c, rfl⟩ := Int.eq_ofNat_of_zero_le hc.1
  unfold maxLen at hs
  have hc2 : c < 18446744073709551616 := by omega
  have ht0 := Lib.hid ht
  rcases Nat.lt_or_ge 6000 s.size with h | h
  · have F := Lib.hid (few_no s h w)
    clear ht
    go_enter Tryd.func5, Tryd.ntmps5
    go_wp2_with fail
    refine F.out.mono ?_
    rintro e w' ⟨rfl, rfl⟩
    go_wp2
    go_ret
    exact ⟨rfl, Below.refl _ _⟩
  have F := Lib.hid (few_yes s h w)
  have C1 := Lib.hid (hash_any s (by omega) w)
  have C2 := Lib.hid (rhash_any s (by omega) w)
  have U1 := Lib.hid (fun w' => chain_any c hc2 s (by omega) w')
  have U2 := Lib.hid (fun w' => rchain_any c hc2 s (by omega) w')
  clear ht
  generalize hashOf s.data.toList = r1 at *
  generalize chainOf c s.data.toList = r2 at *
  go_enter Tryd.func5, Tryd.ntmps5
  go_wp2_with fail
  refine (F.out).mono ?_
  rintro e w' ⟨rfl, rfl⟩
  go_wp2_with fail
  refine (C1.out).mono ?_
  rintro e w' ⟨rfl, rfl⟩
  go_wp2_with fail
  refine (C2.out).mono ?_
  rintro e w' ⟨rfl, rfl⟩
  go_wp2_with fail
  refine (U1.out _).mono ?_
  rintro e w1 ⟨rfl, hb⟩
  have B1 := Lib.hid hb
  have T1 := Lib.hid (ht0.out.keep hb (Nat.le_refl _))
  clear hb
  go_wp2_with fail
  refine (U2.out _).mono ?_
  rintro e w2 ⟨rfl, hb⟩
  have B2 := Lib.hid (B1.out.trans (hb.mono B1.out.size))
  have T2 := Lib.hid (T1.out.keep hb (Nat.le_refl _))
  clear hb
  go_wp2_with fail
  refine (awake_any _ T2.out).mono ?_
  rintro e w9 ⟨rfl, hb⟩
  have BE := Lib.hid (B2.out.trans (hb.mono B2.out.size))
  clear hb
  go_wp2
  go_ret
  exact ⟨rfl, BE.out⟩
end Go.Proofs.YtohamhejmmangaaDoor
