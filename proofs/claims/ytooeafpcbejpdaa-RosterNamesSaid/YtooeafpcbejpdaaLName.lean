/- IsName, of the package and of the reference: no claim of its own. -/
import Derived.Test.YtooeafpcbejpdaaLOne
namespace Go.Proofs.Ytooeafpcbejpdaa
open Go.RowKit
theorem nameB_long {s : ByteArray} (h : 12 < s.size) : nameB s.data.toList = false := by
  have hl := size_list s
  cases e : s.data.toList with
  | nil => rfl
  | cons c r =>
    rw [e] at hl
    show (decide ((c :: r).length ≤ 12) && _) = false
    rw [decide_eq_false (by omega)]; rfl
theorem nameB_eq {s : ByteArray} (h0 : 0 < s.size) (h : ¬ 12 < s.size) : nameB s.data.toList = (letterN (s[0]).toNat && decide (fits partN s.data.toList = s.data.toList)) := by
  have hl := size_list s
  have e := list_head s h0
  rw [e] at hl ⊢
  show (decide (_ ≤ 12) && _) = _
  rw [decide_eq_true (by omega), Bool.true_and]
theorem empty_of {s : ByteArray} (h : s.size = 0) : s = ⟨#[]⟩ := bytes_eq _ _ (List.eq_nil_of_length_eq_zero (by rw [size_list]; exact h))
theorem ne_empty {s : ByteArray} (h : 0 < s.size) : s.toList ≠ [] := by
  rw [ByteArray.toList_eq]
  intro e
  have h2 := congrArg List.length e
  rw [size_list] at h2
  have h3 : s.size = 0 := h2
  omega
set_option maxRecDepth 100000 in
set_option maxHeartbeats 2000000 in
theorem isName_any (s : ByteArray) (hs : s.size ≤ 9223372036854775807) (w : World) :
    Calls Try.prog 33 #[.string s] w (Gives (.bool (nameB s.data.toList)) w) := by
  by_cases h0 : 0 < s.size
  · have n1 : s.toList.isEmpty = false := by cases h : s.toList with | nil => exact absurd h (ne_empty h0) | cons _ _ => rfl
    have n2 : (s.toList == []) = false := beq_eq_false_iff_ne.2 (ne_empty h0)
    by_cases h12 : 12 < s.size
    · have E := Lib.hid (nameB_long h12)
      go_enter Try.func33, Try.ntmps33
      go_wp2
      go_ret
      exact ⟨by rw [E.out]; rfl, Below.refl _ _⟩
    · have E := Lib.hid (nameB_eq h0 h12)
      have hr := (s[0]).toNat_lt
      have L := Lib.hid (fun w' => isLetter_any (s[0]).toNat w')
      have PW := Lib.hid (fun w' => prefix_part s hs w')
      cases hl : letterN (s[0]).toNat with
      | false =>
        rw [hl] at L E
        clear hl
        go_enter Try.func33, Try.ntmps33
        go_wp2_with (go_at_call 37; (with_reducible refine (L.out _).mono ?_); rintro e w' ⟨rfl, rfl⟩)
        go_ret
        exact ⟨by rw [E.out]; rfl, Below.refl _ _⟩
      | true =>
        rw [hl] at L E
        clear hl
        by_cases hf : fits partN s.data.toList = s.data.toList
        · have T : ((str (fits partN s.data.toList)).toList == s.toList) = true := test_yes (by rw [str_data]; exact hf)
          have E2 : Hid (nameB s.data.toList = true) := Lib.hid (by rw [E.out, decide_eq_true hf]; rfl)
          clear E hf
          generalize str (fits partN s.data.toList) = x at *
          go_enter Try.func33, Try.ntmps33
          go_wp2_with (first | (go_at_call 37; (with_reducible refine (L.out _).mono ?_); rintro e w' ⟨rfl, rfl⟩) | (go_at_call 38; (with_reducible refine (PW.out _).mono ?_); rintro e w1 ⟨rfl, hb⟩; have B1 := Lib.hid hb; clear hb))
          go_ret
          exact ⟨by rw [E2.out]; rfl, B1.out⟩
        · have T : ((str (fits partN s.data.toList)).toList == s.toList) = false := test_no (by rw [str_data]; exact hf)
          have E2 : Hid (nameB s.data.toList = false) := Lib.hid (by rw [E.out, decide_eq_false hf]; rfl)
          clear E hf
          generalize str (fits partN s.data.toList) = x at *
          go_enter Try.func33, Try.ntmps33
          go_wp2_with (first | (go_at_call 37; (with_reducible refine (L.out _).mono ?_); rintro e w' ⟨rfl, rfl⟩) | (go_at_call 38; (with_reducible refine (PW.out _).mono ?_); rintro e w1 ⟨rfl, hb⟩; have B1 := Lib.hid hb; clear hb))
          go_ret
          exact ⟨by rw [E2.out]; rfl, B1.out⟩
  · obtain rfl := empty_of (by omega : s.size = 0)
    go_enter Try.func33, Try.ntmps33
    go_wp2
    go_ret
    exact ⟨rfl, Below.refl _ _⟩
set_option maxRecDepth 100000 in
set_option maxHeartbeats 2000000 in
theorem risName_any (s : ByteArray) (hs : s.size ≤ 9223372036854775807) (w : World) :
    Calls Try.prog 28 #[.string s] w (Gives (.bool (nameB s.data.toList)) w) := by
  by_cases h0 : 0 < s.size
  · have n1 : s.toList.isEmpty = false := by cases h : s.toList with | nil => exact absurd h (ne_empty h0) | cons _ _ => rfl
    have n2 : (s.toList == []) = false := beq_eq_false_iff_ne.2 (ne_empty h0)
    by_cases h12 : 12 < s.size
    · have E := Lib.hid (nameB_long h12)
      go_enter Try.func28, Try.ntmps28
      go_wp2
      go_ret
      exact ⟨by rw [E.out]; rfl, Below.refl _ _⟩
    · have E := Lib.hid (nameB_eq h0 h12)
      have hr := (s[0]).toNat_lt
      have L : Hid (∀ w', Calls Try.prog 34 #[.int .u8 (s[0]).toNat] w' (Says (letterN (s[0]).toNat) w')) := Lib.hid (fun w' => letter_any (s[0]).toNat w')
      cases hl : letterN (s[0]).toNat with
      | false =>
        rw [hl] at L E
        clear hl
        go_enter Try.func28, Try.ntmps28
        go_wp2_with (go_at_call 34; (with_reducible refine (L.out _).mono ?_); rintro e w' ⟨rfl, rfl⟩)
        go_ret
        exact ⟨by rw [E.out]; rfl, Below.refl _ _⟩
      | true =>
        have O : Hid (∀ w', Calls Try.prog 35 #[.string s] w' (GivesTk (⟨1, fits partN s.data.toList, 0, 0⟩, 0) w')) := Lib.hid fun w' => by
          have := one_any s h0 hs w'
          rw [one_letter s h0 hl, if_neg (by have := fits_le partN s.data.toList; rw [size_list] at this; omega)] at this
          exact this
        rw [hl] at L E
        clear hl
        by_cases hf : fits partN s.data.toList = s.data.toList
        · have T : ((str (fits partN s.data.toList)).toList == s.toList) = true := test_yes (by rw [str_data]; exact hf)
          have E2 : Hid (nameB s.data.toList = true) := Lib.hid (by rw [E.out, decide_eq_true hf]; rfl)
          clear E hf
          generalize fits partN s.data.toList = x at *
          go_enter Try.func28, Try.ntmps28
          go_wp2_with (first | (go_at_call 34; (with_reducible refine (L.out _).mono ?_); rintro e w' ⟨rfl, rfl⟩) | (go_at_call 35; (with_reducible refine (O.out _).mono ?_); rintro e w1 ⟨rfl, hb⟩; have B1 := Lib.hid hb; clear hb; unfold aggT))
          go_ret
          exact ⟨by rw [E2.out]; rfl, B1.out.trans ((below_new _ _).mono B1.out.size)⟩
        · have T : ((str (fits partN s.data.toList)).toList == s.toList) = false := test_no (by rw [str_data]; exact hf)
          have E2 : Hid (nameB s.data.toList = false) := Lib.hid (by rw [E.out, decide_eq_false hf]; rfl)
          clear E hf
          generalize fits partN s.data.toList = x at *
          go_enter Try.func28, Try.ntmps28
          go_wp2_with (first | (go_at_call 34; (with_reducible refine (L.out _).mono ?_); rintro e w' ⟨rfl, rfl⟩) | (go_at_call 35; (with_reducible refine (O.out _).mono ?_); rintro e w1 ⟨rfl, hb⟩; have B1 := Lib.hid hb; clear hb; unfold aggT))
          go_ret
          exact ⟨by rw [E2.out]; rfl, B1.out.trans ((below_new _ _).mono B1.out.size)⟩
  · obtain rfl := empty_of (by omega : s.size = 0)
    go_enter Try.func28, Try.ntmps28
    go_wp2
    go_ret
    exact ⟨rfl, Below.refl _ _⟩
end Go.Proofs.Ytooeafpcbejpdaa
