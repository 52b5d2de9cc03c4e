/- The walk of AmountTexts, given what awake answers: no claim of its own. -/
import Derived.Test.YtbllnkhbahenkaaDoorAWalkB
namespace Go.Proofs.YtbllnkhbahenkaaDoor
open Go.RowKit MA
theorem itoa_size (v : Int) (h0 : -9223372036854775808 ≤ v) (h1 : v ≤ 9223372036854775807) : (str (Lib.itoa v)).size ≤ 21 := by rw [str_size]; exact itoa_len v h0 h1
set_option maxRecDepth 100000 in
set_option maxHeartbeats 4000000 in
theorem texts_of (AW : Awk) (v : Int) (s : ByteArray) (w : World) (h0 : -9223372036854775808 ≤ v) (h1 : v ≤ 9223372036854775807) (hs : s.size ≤ 100) (ht : Tab w) :
    Calls Tryd.prog 5 #[.int .i64 v, .string s] w (Gives (.bool true) w) := by
  have AH := Lib.hid AW
  have T0 := Lib.hid ht
  have zs := itoa_size v h0 h1
  have C1 := Lib.hid (fun W => parse5_any s W (by omega))
  have C2 := Lib.hid (fun W => rparse5_any s W (by omega))
  have C3 := Lib.hid (fun W (h : Tab W) => format5_any v h0 h1 W h)
  have C4 := Lib.hid (fun W => rformat5_any v h0 h1 W)
  have C5 : Hid (∀ W, Calls Tryd.prog 11 #[.string (str (Lib.itoa v))] W (GP (if v < 0 then (0, 2) else if v ≤ 1000000 then (v, 0) else (0, 4)) W)) := Lib.hid (fun W => by
    have := parse5_any (str (Lib.itoa v)) W (by omega)
    rw [str_data, parseA_itoa v h0 h1] at this
    exact this)
  have z1 : ((parseA s.data.toList).1 == (parseA s.data.toList).1) = true := by simp
  have z2 : ((parseA s.data.toList).2 == (parseA s.data.toList).2) = true := by simp
  clear ht AW
  generalize parseA s.data.toList = R at *
  obtain ⟨a, e⟩ := R
  generalize hx : str (Lib.itoa v) = x at *
  have B0 := Lib.hid (Below.refl w.heap.size w)
  clear hx
  by_cases hn : v < 0
  · rw [if_pos hn] at C5
    go_enter Tryd.func5, Tryd.ntmps5
    go_wp2_with (first | (go_at_call 11; refine (C1.out _).mono ?_; rintro e w' ⟨rfl, rfl⟩) | (go_at_call 12; refine (C2.out _).mono ?_; rintro e w' ⟨rfl, rfl⟩))
    refine (C3.out _ T0.out).mono ?_
    rintro e w1 ⟨rfl, hb⟩
    have B1 := Lib.hid (B0.out.trans hb)
    clear hb B0
    go_wp2_with fail
    refine (C5.out _).mono ?_
    rintro e w' ⟨rfl, rfl⟩
    go_wp2_with fail
    refine (C3.out _ (T0.out.keep B1.out)).mono ?_
    rintro e w2 ⟨rfl, hb⟩
    have B2 := Lib.hid (B1.out.trans (hb.mono B1.out.size))
    clear hb B1
    go_wp2_with fail
    refine (C4.out _).mono ?_
    rintro e w3 ⟨rfl, hb⟩
    have B3 := Lib.hid (B2.out.trans (hb.mono B2.out.size))
    clear hb B2
    go_wp2_with fail
    refine (AH.out _ (T0.out.keep B3.out)).mono ?_
    rintro e w4 ⟨rfl, hb⟩
    have B4 := Lib.hid (B3.out.trans (hb.mono B3.out.size))
    clear hb B3
    go_wp2
    go_ret
    exact ⟨rfl, B4.out⟩
  rw [if_neg hn] at C5
  by_cases hm : v ≤ 1000000
  · rw [if_pos hm] at C5
    go_enter Tryd.func5, Tryd.ntmps5
    go_wp2_with (first | (go_at_call 11; refine (C1.out _).mono ?_; rintro e w' ⟨rfl, rfl⟩) | (go_at_call 12; refine (C2.out _).mono ?_; rintro e w' ⟨rfl, rfl⟩))
    refine (C3.out _ T0.out).mono ?_
    rintro e w1 ⟨rfl, hb⟩
    have B1 := Lib.hid (B0.out.trans hb)
    clear hb B0
    go_wp2_with fail
    refine (C5.out _).mono ?_
    rintro e w' ⟨rfl, rfl⟩
    go_wp2_with fail
    refine (C3.out _ (T0.out.keep B1.out)).mono ?_
    rintro e w2 ⟨rfl, hb⟩
    have B2 := Lib.hid (B1.out.trans (hb.mono B1.out.size))
    clear hb B1
    go_wp2_with fail
    refine (C4.out _).mono ?_
    rintro e w3 ⟨rfl, hb⟩
    have B3 := Lib.hid (B2.out.trans (hb.mono B2.out.size))
    clear hb B2
    go_wp2_with fail
    refine (AH.out _ (T0.out.keep B3.out)).mono ?_
    rintro e w4 ⟨rfl, hb⟩
    have B4 := Lib.hid (B3.out.trans (hb.mono B3.out.size))
    clear hb B3
    go_wp2
    go_ret
    exact ⟨rfl, B4.out⟩
  · rw [if_neg hm] at C5
    go_enter Tryd.func5, Tryd.ntmps5
    go_wp2_with (first | (go_at_call 11; refine (C1.out _).mono ?_; rintro e w' ⟨rfl, rfl⟩) | (go_at_call 12; refine (C2.out _).mono ?_; rintro e w' ⟨rfl, rfl⟩))
    refine (C3.out _ T0.out).mono ?_
    rintro e w1 ⟨rfl, hb⟩
    have B1 := Lib.hid (B0.out.trans hb)
    clear hb B0
    go_wp2_with fail
    refine (C5.out _).mono ?_
    rintro e w' ⟨rfl, rfl⟩
    go_wp2_with fail
    refine (C3.out _ (T0.out.keep B1.out)).mono ?_
    rintro e w2 ⟨rfl, hb⟩
    have B2 := Lib.hid (B1.out.trans (hb.mono B1.out.size))
    clear hb B1
    go_wp2_with fail
    refine (C4.out _).mono ?_
    rintro e w3 ⟨rfl, hb⟩
    have B3 := Lib.hid (B2.out.trans (hb.mono B2.out.size))
    clear hb B2
    go_wp2_with fail
    refine (AH.out _ (T0.out.keep B3.out)).mono ?_
    rintro e w4 ⟨rfl, hb⟩
    have B4 := Lib.hid (B3.out.trans (hb.mono B3.out.size))
    clear hb B3
    go_wp2
    go_ret
    exact ⟨rfl, B4.out⟩
set_option maxRecDepth 100000 in
set_option maxHeartbeats 1000000 in
theorem texts_long (AW : Awk) (v : Int) (s : ByteArray) (w : World) (hs : 100 < s.size) (hm : s.size ≤ 9223372036854775807) (ht : Tab w) :
    Calls Tryd.prog 5 #[.int .i64 v, .string s] w (Gives (.bool true) w) := by
  have AH := Lib.hid (AW w ht)
  clear ht AW
  go_enter Tryd.func5, Tryd.ntmps5
  go_wp2_with fail
  refine AH.out.mono ?_
  rintro e w4 ⟨rfl, hb⟩
  have B4 := Lib.hid hb
  clear hb
  go_wp2
  go_ret
  exact ⟨rfl, B4.out⟩
theorem texts_walk_of (AW : Awk) (v : Int) (s : ByteArray) (w : World) (hv : -9223372036854775808 ≤ v ∧ v ≤ 9223372036854775807) (hs : s.size ≤ maxLen) (ht : Tab w) :
    Calls Tryd.prog 5 #[.int .i64 v, .string s] w (Gives (.bool true) w) := by
  rcases Nat.lt_or_ge 100 s.size with h1 | h1
  · exact texts_long AW v s w h1 (by unfold maxLen at hs; omega) ht
  · exact texts_of AW v s w hv.1 hv.2 h1 ht
end Go.Proofs.YtbllnkhbahenkaaDoor
