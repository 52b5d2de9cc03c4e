/- The contracts of Seal and Open, of the package and of the reference: no claim of its own. -/
import Derived.Test.YtohamhejmmangaaDoorKBytes
namespace Go.Proofs.YtohamhejmmangaaDoor
open Go.RowKit
set_option maxRecDepth 100000 in
set_option maxHeartbeats 400000 in
theorem sealOf_any (s : ByteArray) (hs : s.size ≤ 9223372036854775807) (w : World) (ht : Tab w) :
    Calls Tryd.prog 33 #[.string s] w (Gives (.string (str (sealOf s.data.toList))) w) := by
  have C := Lib.hid (crc_any s hs w ht)
  have hl := crcOf_lt 0 s.data.toList
  have L : Hid (∀ w', Calls Tryd.prog 31 #[.int .u64 (crcOf 0 s.data.toList : Nat), .int .i64 4] w' (Gives (.string (str (sealOf s.data.toList))) w')) := Lib.hid (fun w' => low_any (crcOf 0 s.data.toList) 4 (by omega) (by decide) (by decide) w')
  clear ht
  generalize str (sealOf s.data.toList) = t at *
  generalize crcOf 0 s.data.toList = c at *
  go_enter Tryd.func33, Tryd.ntmps33
  go_wp2_with fail
  refine C.out.mono ?_
  rintro e w' ⟨rfl, rfl⟩
  go_wp2_with fail
  refine (L.out _).mono ?_
  rintro e w1 ⟨rfl, hb1⟩
  go_wp2
  go_ret
  exact ⟨rfl, hb1⟩
theorem sealText (s : ByteArray) : str (sealOf s.data.toList) ++ s = str (sealOf s.data.toList ++ s.data.toList) := by
  rw [← str_append, str_self]
theorem seal_size (s : ByteArray) : (str (sealOf s.data.toList)).size = 4 := by rw [str_size, sealOf_length]
set_option maxRecDepth 100000 in
set_option maxHeartbeats 400000 in
theorem seal_any (s : ByteArray) (hs : s.size ≤ 140737488351232) (w : World) (ht : Tab w) :
    Calls Tryd.prog 22 #[.string s] w (Gives (.string (str (sealOf s.data.toList ++ s.data.toList))) w) := by
  have C := Lib.hid (sealOf_any s (by omega) w ht)
  have z : (str (sealOf s.data.toList)).size ≤ 4 := by rw [seal_size]; exact Nat.le_refl _
  have T := Lib.hid (sealText s)
  clear ht
  generalize str (sealOf s.data.toList ++ s.data.toList) = r at *
  generalize str (sealOf s.data.toList) = t at *
  go_enter Tryd.func22, Tryd.ntmps22
  go_wp2_with fail
  refine C.out.mono ?_
  rintro e w1 ⟨rfl, hb1⟩
  go_wp2
  go_ret
  exact ⟨by rw [← T.out]; rfl, hb1⟩
set_option maxRecDepth 100000 in
set_option maxHeartbeats 400000 in
theorem rseal_any (s : ByteArray) (hs : s.size ≤ 140737488351232) (w : World) :
    Calls Tryd.prog 23 #[.string s] w (Gives (.string (str (sealOf s.data.toList ++ s.data.toList))) w) := by
  have C := Lib.hid (rcrc_any s (by omega) w)
  have hl := crcOf_lt 0 s.data.toList
  have L : Hid (∀ w', Calls Tryd.prog 32 #[.int .u64 (crcOf 0 s.data.toList : Nat), .int .i64 4] w' (Gives (.string (str (sealOf s.data.toList))) w')) := Lib.hid (fun w' => rlow_any (crcOf 0 s.data.toList) 4 (by omega) (by decide) w')
  have z : (str (sealOf s.data.toList)).size ≤ 4 := by rw [seal_size]; exact Nat.le_refl _
  have T := Lib.hid (sealText s)
  generalize str (sealOf s.data.toList ++ s.data.toList) = r at *
  generalize str (sealOf s.data.toList) = t at *
  generalize crcOf 0 s.data.toList = c at *
  go_enter Tryd.func23, Tryd.ntmps23
  go_wp2_with fail
  refine C.out.mono ?_
  rintro e w' ⟨rfl, rfl⟩
  go_wp2_with fail
  refine (L.out _).mono ?_
  rintro e w1 ⟨rfl, hb1⟩
  go_wp2
  go_ret
  exact ⟨by rw [← T.out]; rfl, hb1⟩
end Go.Proofs.YtohamhejmmangaaDoor
