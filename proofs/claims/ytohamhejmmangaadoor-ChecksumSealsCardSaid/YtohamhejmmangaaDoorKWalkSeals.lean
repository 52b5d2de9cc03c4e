/- The walk of ChecksumSeals: no claim of its own. -/
import Derived.Test.YtohamhejmmangaaDoorKBuf
namespace Go.Proofs.YtohamhejmmangaaDoor
open Go.RowKit
set_option maxRecDepth 100000 in
set_option maxHeartbeats 1000000 in
theorem seals_walk (s : ByteArray) (w : World) (hs : s.size ≤ maxLen) (ht : Tab w) :
    Calls Tryd.prog 6 #[.string s] w (Gives (.bool true) w) := by
  unfold maxLen at hs
  have T0 := Lib.hid ht
  have B0 := Lib.hid (Below.refl w.heap.size w)
  clear ht
  rcases Nat.lt_or_ge 6000 s.size with h | h
  · have F := Lib.hid (few_no s h w)
    go_enter Tryd.func6, Tryd.ntmps6
    go_wp2_with fail
    refine (F.out).mono ?_
    rintro e w' ⟨rfl, rfl⟩
    go_wp2_with fail
    refine (awake_any _ T0.out).mono ?_
    rintro e w1 ⟨rfl, hb⟩
    have T1 := Lib.hid (T0.out.keep hb (Nat.le_refl _))
    have B1 := Lib.hid (B0.out.trans (hb.mono B0.out.size))
    clear hb T0 B0
    go_wp2
    go_ret
    exact ⟨rfl, B1.out⟩
  have F := Lib.hid (few_yes s h w)
  have O1 := Lib.hid (fun w' h' => open_any s (by omega) w' h')
  have O2 := Lib.hid (fun w' => ropen_any s (by omega) w')
  have S1 := Lib.hid (fun w' h' => seal_any s (by omega) w' h')
  have S2 := Lib.hid (fun w' => rseal_any s (by omega) w')
  generalize str (openText s.data.toList) = t1 at *
  generalize openErr s.data.toList = k1 at *
  generalize str (sealOf s.data.toList ++ s.data.toList) = t2 at *
  go_enter Tryd.func6, Tryd.ntmps6
  go_wp2_with fail
  refine (F.out).mono ?_
  rintro e w' ⟨rfl, rfl⟩
  go_wp2_with fail
  refine (O1.out _ T0.out).mono ?_
  rintro e w1 ⟨rfl, hb⟩
  have T1 := Lib.hid (T0.out.keep hb (Nat.le_refl _))
  have B1 := Lib.hid (B0.out.trans (hb.mono B0.out.size))
  clear hb T0 B0
  go_wp2_with fail
  refine (O2.out _).mono ?_
  rintro e w2 ⟨rfl, hb⟩
  have T2 := Lib.hid (T1.out.keep hb (Nat.le_refl _))
  have B2 := Lib.hid (B1.out.trans (hb.mono B1.out.size))
  clear hb T1 B1
  go_wp2_with fail
  refine (S1.out _ T2.out).mono ?_
  rintro e w3 ⟨rfl, hb⟩
  have T3 := Lib.hid (T2.out.keep hb (Nat.le_refl _))
  have B3 := Lib.hid (B2.out.trans (hb.mono B2.out.size))
  clear hb T2 B2
  go_wp2_with fail
  refine (S2.out _).mono ?_
  rintro e w4 ⟨rfl, hb⟩
  have T4 := Lib.hid (T3.out.keep hb (Nat.le_refl _))
  have B4 := Lib.hid (B3.out.trans (hb.mono B3.out.size))
  clear hb T3 B3
  go_wp2_with fail
  refine (awake_any _ T4.out).mono ?_
  rintro e w5 ⟨rfl, hb⟩
  have T5 := Lib.hid (T4.out.keep hb (Nat.le_refl _))
  have B5 := Lib.hid (B4.out.trans (hb.mono B4.out.size))
  clear hb T4 B4
  go_wp2
  go_ret
  exact ⟨rfl, B5.out⟩
end Go.Proofs.YtohamhejmmangaaDoor
