/- The contracts of Open, of the package and of the reference: no claim of its own. -/
import Derived.Test.YtohamhejmmangaaDoorKSeal
namespace Go.Proofs.YtohamhejmmangaaDoor
open Go.RowKit
theorem drop_data (s : ByteArray) (k : Nat) : (s.extract k s.size).data.toList = s.data.toList.drop k := by
  rw [ByteArray.data_extract, Array.toList_extract]
  exact List.take_of_length_le (by simp)
theorem take_data (s : ByteArray) (k : Nat) : (s.extract 0 k).data.toList = s.data.toList.take k := by
  rw [ByteArray.data_extract, Array.toList_extract]
  simp
theorem tab_drew {w : World} (h : Tab w) : Tab w.drew := h
set_option maxRecDepth 100000 in
set_option maxHeartbeats 400000 in
theorem open_short (s : ByteArray) (hs : s.size < 4) (w : World) :
    Calls Tryd.prog 20 #[.string s] w (Gives (.tuple #[.string ⟨#[]⟩, .int .i64 1]) w) := by
  go_enter Tryd.func20, Tryd.ntmps20
  go_wp2
  go_ret2
  exact ⟨rfl, Below.refl _ _⟩
set_option maxRecDepth 100000 in
set_option maxHeartbeats 1000000 in
theorem open_yes (s : ByteArray) (h4 : 4 ≤ s.size) (hs : s.size ≤ 140737488351232) (w : World) (ht : Tab w) (he : s.data.toList.take 4 = sealOf (s.data.toList.drop 4)) :
    Calls Tryd.prog 20 #[.string s] w (Gives (.tuple #[.string (s.extract 4 s.size), .int .i64 0]) w) := by
  have C : Hid (∀ w', Tab w' → Calls Tryd.prog 33 #[.string (s.extract 4 s.size)] w' (Gives (.string (s.extract 0 4)) w')) := Lib.hid fun w' h => by
    have := sealOf_any (s.extract 4 s.size) (by rw [ByteArray.size_extract]; omega) w' h
    rw [drop_data, ← he, ← take_data, str_self] at this
    exact this
  have T := Lib.hid ht
  clear ht he
  go_enter Tryd.func20, Tryd.ntmps20
  go_wp2
  go_region_with ((go_at_call 33; refine (C.out w.drew (tab_drew T.out)).mono ?_; rintro e w1 ⟨rfl, hb⟩))
  have B1 := Lib.hid ((Below.refl w.heap.size w).drew.trans hb)
  clear hb
  go_wp2
  go_ret2
  exact ⟨rfl, B1.out⟩
theorem test_no {a b : ByteArray} (h : a.data.toList ≠ b.data.toList) : (a.toList == b.toList) = false := by
  rw [ByteArray.toList_eq, ByteArray.toList_eq]
  exact beq_eq_false_iff_ne.2 h
theorem test_yes {a b : ByteArray} (h : a.data.toList = b.data.toList) : (a.toList == b.toList) = true := by
  rw [ByteArray.toList_eq, ByteArray.toList_eq]
  exact beq_iff_eq.2 h
set_option maxRecDepth 100000 in
set_option maxHeartbeats 1000000 in
theorem open_no (s : ByteArray) (h4 : 4 ≤ s.size) (hs : s.size ≤ 140737488351232) (w : World) (ht : Tab w) (he : s.data.toList.take 4 ≠ sealOf (s.data.toList.drop 4)) :
    Calls Tryd.prog 20 #[.string s] w (Gives (.tuple #[.string ⟨#[]⟩, .int .i64 11]) w) := by
  have C : Hid (∀ w', Tab w' → Calls Tryd.prog 33 #[.string (s.extract 4 s.size)] w' (Gives (.string (str (sealOf (s.data.toList.drop 4)))) w')) := Lib.hid fun w' h => by
    have := sealOf_any (s.extract 4 s.size) (by rw [ByteArray.size_extract]; omega) w' h
    rw [drop_data] at this
    exact this
  have N : ((s.extract 0 4).toList == (str (sealOf (s.data.toList.drop 4))).toList) = false := test_no (by rw [take_data, str_data]; exact he)
  have T := Lib.hid ht
  clear ht he
  generalize str (sealOf (s.data.toList.drop 4)) = t at *
  go_enter Tryd.func20, Tryd.ntmps20
  go_wp2
  go_region_with ((go_at_call 33; refine (C.out w.drew (tab_drew T.out)).mono ?_; rintro e w1 ⟨rfl, hb⟩))
  have B1 := Lib.hid ((Below.refl w.heap.size w).drew.trans hb)
  clear hb
  go_wp2
  go_ret2
  exact ⟨rfl, B1.out⟩
/-- What Open answers. -/
def OpenText (s : ByteArray) : ByteArray := if openErr s.data.toList = 0 then s.extract 4 s.size else ⟨#[]⟩
theorem openText_data (s : ByteArray) : (OpenText s).data.toList = openText s.data.toList := by
  unfold OpenText openText
  split
  · exact drop_data s 4
  · rfl
theorem openText_str (s : ByteArray) : OpenText s = str (openText s.data.toList) := bytes_eq _ _ (by rw [openText_data, str_data])
theorem open_any (s : ByteArray) (hs : s.size ≤ 140737488351232) (w : World) (ht : Tab w) :
    Calls Tryd.prog 20 #[.string s] w (Gives (.tuple #[.string (str (openText s.data.toList)), .int .i64 (openErr s.data.toList : Nat)]) w) := by
  rw [← openText_str]
  have hl := size_list s
  rcases Nat.lt_or_ge s.size 4 with h | h
  · have e : openErr s.data.toList = 1 := if_pos (by omega)
    have e2 : OpenText s = ⟨#[]⟩ := by unfold OpenText; rw [if_neg (by omega)]
    rw [e, e2]
    exact open_short s h w
  · by_cases he : s.data.toList.take 4 = sealOf (s.data.toList.drop 4)
    · have e : openErr s.data.toList = 0 := by unfold openErr; rw [if_neg (by omega), if_pos he]
      have e2 : OpenText s = s.extract 4 s.size := by unfold OpenText; rw [if_pos e]
      rw [e, e2]
      exact open_yes s h hs w ht he
    · have e : openErr s.data.toList = 11 := by unfold openErr; rw [if_neg (by omega), if_neg he]
      have e2 : OpenText s = ⟨#[]⟩ := by unfold OpenText; rw [if_neg (by omega)]
      rw [e, e2]
      exact open_no s h hs w ht he
set_option maxRecDepth 100000 in
set_option maxHeartbeats 400000 in
theorem ropen_short (s : ByteArray) (hs : s.size < 4) (w : World) :
    Calls Tryd.prog 21 #[.string s] w (Gives (.tuple #[.string ⟨#[]⟩, .int .i64 1]) w) := by
  go_enter Tryd.func21, Tryd.ntmps21
  go_wp2
  go_ret2
  exact ⟨rfl, Below.refl _ _⟩
set_option maxRecDepth 100000 in
set_option maxHeartbeats 1000000 in
theorem ropen_yes (s : ByteArray) (h4 : 4 ≤ s.size) (hs : s.size ≤ 140737488351232) (w : World) (he : s.data.toList.take 4 = sealOf (s.data.toList.drop 4)) :
    Calls Tryd.prog 21 #[.string s] w (Gives (.tuple #[.string (s.extract 4 s.size), .int .i64 0]) w) := by
  have C : Hid (Calls Tryd.prog 23 #[.string (s.extract 4 s.size)] w (Gives (.string s) w)) := Lib.hid (by
    have := rseal_any (s.extract 4 s.size) (by rw [ByteArray.size_extract]; omega) w
    rw [drop_data, ← he, List.take_append_drop, str_self] at this
    exact this)
  clear he
  go_enter Tryd.func21, Tryd.ntmps21
  go_wp2_with fail
  refine C.out.mono ?_
  rintro e w1 ⟨rfl, hb⟩
  have B1 := Lib.hid hb
  clear hb
  go_wp2
  go_ret2
  exact ⟨rfl, B1.out⟩
set_option maxRecDepth 100000 in
set_option maxHeartbeats 1000000 in
theorem ropen_no (s : ByteArray) (h4 : 4 ≤ s.size) (hs : s.size ≤ 140737488351232) (w : World) (he : s.data.toList.take 4 ≠ sealOf (s.data.toList.drop 4)) :
    Calls Tryd.prog 21 #[.string s] w (Gives (.tuple #[.string ⟨#[]⟩, .int .i64 11]) w) := by
  have C : Hid (Calls Tryd.prog 23 #[.string (s.extract 4 s.size)] w (Gives (.string (str (sealOf (s.data.toList.drop 4) ++ s.data.toList.drop 4))) w)) := Lib.hid (by
    have := rseal_any (s.extract 4 s.size) (by rw [ByteArray.size_extract]; omega) w
    rw [drop_data] at this
    exact this)
  have N : ((str (sealOf (s.data.toList.drop 4) ++ s.data.toList.drop 4)).toList == s.toList) = false := test_no (by
    rw [str_data]
    intro e
    apply he
    have := congrArg (List.take 4) e
    rw [List.take_left' (sealOf_length _)] at this
    exact this.symm)
  clear he
  generalize str (sealOf (s.data.toList.drop 4) ++ s.data.toList.drop 4) = t at *
  go_enter Tryd.func21, Tryd.ntmps21
  go_wp2_with fail
  refine C.out.mono ?_
  rintro e w1 ⟨rfl, hb⟩
  have B1 := Lib.hid hb
  clear hb
  go_wp2
  go_ret2
  exact ⟨rfl, B1.out⟩
theorem ropen_any (s : ByteArray) (hs : s.size ≤ 140737488351232) (w : World) :
    Calls Tryd.prog 21 #[.string s] w (Gives (.tuple #[.string (str (openText s.data.toList)), .int .i64 (openErr s.data.toList : Nat)]) w) := by
  rw [← openText_str]
  have hl := size_list s
  rcases Nat.lt_or_ge s.size 4 with h | h
  · have e : openErr s.data.toList = 1 := if_pos (by omega)
    have e2 : OpenText s = ⟨#[]⟩ := by unfold OpenText; rw [if_neg (by omega)]
    rw [e, e2]
    exact ropen_short s h w
  · by_cases he : s.data.toList.take 4 = sealOf (s.data.toList.drop 4)
    · have e : openErr s.data.toList = 0 := by unfold openErr; rw [if_neg (by omega), if_pos he]
      have e2 : OpenText s = s.extract 4 s.size := by unfold OpenText; rw [if_pos e]
      rw [e, e2]
      exact ropen_yes s h hs w he
    · have e : openErr s.data.toList = 11 := by unfold openErr; rw [if_neg (by omega), if_neg he]
      have e2 : OpenText s = ⟨#[]⟩ := by unfold OpenText; rw [if_neg (by omega)]
      rw [e, e2]
      exact ropen_no s h hs w he
end Go.Proofs.YtohamhejmmangaaDoor
