/- The walk of NaturalParses: no claim of its own. -/
import Derived.Test.YtbjkkiehpfnogaaDoorIsRow
import Derived.Test.YtbjkkiehpfnogaaDoorRParse
namespace Go.Proofs.YtbjkkiehpfnogaaDoor
open Go.RowKit
theorem format_any (A : Option Addr) (n c a : Nat) (xs : List Nat) (w : World) (h : Num w A n c xs a) (hn : n ≤ 1000000) :
    Calls Tryd.prog 28 #[.slice A n c] w (GivesText a w) := by
  rcases Nat.eq_zero_or_pos n with h0 | h0
  · subst h0
    have h1 := h.len
    have h2 := h.val
    have : xs = [] := List.eq_nil_of_length_eq_zero h1
    subst this
    obtain rfl : a = 0 := by simpa [dval] using h2.symm
    exact format_zero A c [] w h
  · exact format_pos A n c a xs w h h0 hn
theorem bytes_eq (s t : ByteArray) (h : s.data.toList = t.data.toList) : s = t := by
  cases s with
  | mk d =>
    cases t with
    | mk e =>
      have : d = e := Array.toList_inj.1 h
      rw [this]
theorem parsed (s : ByteArray) (a k : Nat) (hs : s.size ≤ 140737488351232) (ha : (if parseErr s.data.toList = 0 then decVal s.data.toList else 0) = a) (hk : parseErr s.data.toList = k) (w : World) :
    Calls Tryd.prog 31 #[.string s] w (GivesParse a k w) := by subst ha; subst hk; exact parse_any s w hs
theorem rparsed (s : ByteArray) (a k : Nat) (hs : s.size ≤ 140737488351232) (ha : (if parseErr s.data.toList = 0 then decVal s.data.toList else 0) = a) (hk : parseErr s.data.toList = k) (w : World) :
    Calls Tryd.prog 35 #[.string s] w (GivesParse a k w) := by subst ha; subst hk; exact rparse_any s w hs
set_option maxRecDepth 100000 in
set_option maxHeartbeats 1000000 in
theorem parses_ok (s : ByteArray) (w : World) (hz : s.size ≤ 700) (hp : parseErr s.data.toList = 0) :
    Calls Tryd.prog 8 #[.string s] w (Gives (.bool true) w) := by
  have F1 := Lib.hid (show ∀ w', Calls Tryd.prog 31 #[.string s] w' (GivesParse (decVal s.data.toList) 0 w') from parsed s _ _ (by omega) (if_pos hp) hp)
  have F2 := Lib.hid (show ∀ w', Calls Tryd.prog 35 #[.string s] w' (GivesParse (decVal s.data.toList) 0 w') from rparsed s _ _ (by omega) (if_pos hp) hp)
  have hok := parseErr_zero _ hp
  have HS : Hid (decVal s.data.toList < 4294967296 ^ 122) := Lib.hid (by
    have := decVal_small s.data.toList s.data.toList.length (by rw [List.take_of_length_le (Nat.le_refl _)]; exact hok.2.2.2) hok.2.1
    rw [List.take_of_length_le (Nat.le_refl _)] at this
    omega)
  have HT := Lib.hid (fun t h => bytes_eq t s (isText_inj _ _ _ h (isText_of_ok _ hp)))
  clear hok hp
  go_enter Tryd.func8, Tryd.ntmps8
  go_wp2_with fail
  refine (F1.out _).mono ?_
  rintro e w1 ⟨A1, l1, c1, x1, rfl, h1, hb1⟩
  have P1 := Lib.hid h1
  have B1 := Lib.hid hb1
  clear h1 hb1
  go_wp2_with fail
  refine (F2.out _).mono ?_
  rintro e w2 ⟨A2, l2, c2, x2, rfl, h2, hb2⟩
  have Q2 := Lib.hid h2
  have P2 := Lib.hid (P1.out.keep hb2)
  have B2 := Lib.hid (B1.out.trans (hb2.mono B1.out.size))
  clear h2 hb2 P1 B1
  go_wp2_with fail
  refine (same_num _ _ _ _ _ _ _ _ _ _ P2.out Q2.out).mono ?_
  rintro e w3 ⟨rfl, hb3⟩
  have P3 := Lib.hid (P2.out.keep hb3)
  have B3 := Lib.hid (B2.out.trans (hb3.mono B2.out.size))
  clear hb3 P2 Q2 B2
  go_wp2_with fail
  refine (format_any _ _ _ _ _ _ P3.out (num_small P3.out HS.out)).mono ?_
  rintro e w4 ⟨t, rfl, ht, hb4⟩
  obtain rfl := HT.out t ht
  have B4 := Lib.hid (B3.out.trans (hb4.mono B3.out.size))
  clear hb4 ht
  go_wp2_with fail
  refine (lives_any _).mono ?_
  rintro e w9 ⟨rfl, hb9⟩
  have B9 := Lib.hid (B4.out.trans (hb9.mono B4.out.size))
  clear hb9
  go_wp2
  go_ret
  exact ⟨rfl, B9.out⟩
set_option maxRecDepth 100000 in
set_option maxHeartbeats 1000000 in
theorem parses_bad (s : ByteArray) (w : World) (hz : s.size ≤ 700) (hp : parseErr s.data.toList ≠ 0) :
    Calls Tryd.prog 8 #[.string s] w (Gives (.bool true) w) := by
  obtain ⟨q, hq⟩ : ∃ q, parseErr s.data.toList = q := ⟨_, rfl⟩
  have F1 := Lib.hid (show ∀ w', Calls Tryd.prog 31 #[.string s] w' (GivesParse 0 q w') from parsed s _ _ (by omega) (if_neg hp) hq)
  have F2 := Lib.hid (show ∀ w', Calls Tryd.prog 35 #[.string s] w' (GivesParse 0 q w') from rparsed s _ _ (by omega) (if_neg hp) hq)
  rw [hq] at hp
  have hb : ((q : Int) != 0) = true := bne_iff_ne.2 (by omega)
  have hb2 : ((q : Int) == (q : Int)) = true := beq_self_eq_true _
  clear hp hq
  go_enter Tryd.func8, Tryd.ntmps8
  go_wp2_with fail
  refine (F1.out _).mono ?_
  rintro e w1 ⟨A1, l1, c1, x1, rfl, h1, hb1⟩
  have P1 := Lib.hid h1
  have B1 := Lib.hid hb1
  clear h1 hb1
  go_wp2_with fail
  refine (F2.out _).mono ?_
  rintro e w2 ⟨A2, l2, c2, x2, rfl, h2, hb2⟩
  have Q2 := Lib.hid h2
  have P2 := Lib.hid (P1.out.keep hb2)
  have B2 := Lib.hid (B1.out.trans (hb2.mono B1.out.size))
  clear h2 hb2 P1 B1
  go_wp2_with fail
  refine (same_num _ _ _ _ _ _ _ _ _ _ P2.out Q2.out).mono ?_
  rintro e w3 ⟨rfl, hb3⟩
  have P3 := Lib.hid (P2.out.keep hb3)
  have B3 := Lib.hid (B2.out.trans (hb3.mono B2.out.size))
  clear hb3 P2 Q2 B2
  go_wp2_with fail
  refine (lives_any _).mono ?_
  rintro e w9 ⟨rfl, hb9⟩
  have B9 := Lib.hid (B3.out.trans (hb9.mono B3.out.size))
  clear hb9
  go_wp2
  go_ret
  exact ⟨rfl, B9.out⟩
set_option maxRecDepth 100000 in
set_option maxHeartbeats 1000000 in
theorem parses_long (s : ByteArray) (w : World) (hz : 700 < s.size) (hm : s.size ≤ 9223372036854775807) :
    Calls Tryd.prog 8 #[.string s] w (Gives (.bool true) w) := by
  have hx : (s.extract 0 700).size = 700 := by rw [ByteArray.size_extract]; omega
  have hp : parseErr (s.extract 0 700).data.toList = 3 := parseErr_long _ (by rw [size_list]; omega)
  have F1 := Lib.hid (show ∀ w', Calls Tryd.prog 31 #[.string (s.extract 0 700)] w' (GivesParse 0 3 w') from parsed _ _ _ (by omega) (by rw [hp]; rfl) hp)
  have F2 := Lib.hid (show ∀ w', Calls Tryd.prog 35 #[.string (s.extract 0 700)] w' (GivesParse 0 3 w') from rparsed _ _ _ (by omega) (by rw [hp]; rfl) hp)
  clear hx hp
  go_enter Tryd.func8, Tryd.ntmps8
  go_wp2_with fail
  refine (F1.out _).mono ?_
  rintro e w1 ⟨A1, l1, c1, x1, rfl, h1, hb1⟩
  have P1 := Lib.hid h1
  have B1 := Lib.hid hb1
  clear h1 hb1
  go_wp2_with fail
  refine (F2.out _).mono ?_
  rintro e w2 ⟨A2, l2, c2, x2, rfl, h2, hb2⟩
  have Q2 := Lib.hid h2
  have P2 := Lib.hid (P1.out.keep hb2)
  have B2 := Lib.hid (B1.out.trans (hb2.mono B1.out.size))
  clear h2 hb2 P1 B1
  go_wp2_with fail
  refine (same_num _ _ _ _ _ _ _ _ _ _ P2.out Q2.out).mono ?_
  rintro e w3 ⟨rfl, hb3⟩
  have P3 := Lib.hid (P2.out.keep hb3)
  have B3 := Lib.hid (B2.out.trans (hb3.mono B2.out.size))
  clear hb3 P2 Q2 B2
  go_wp2_with fail
  refine (lives_any _).mono ?_
  rintro e w9 ⟨rfl, hb9⟩
  have B9 := Lib.hid (B3.out.trans (hb9.mono B3.out.size))
  clear hb9
  go_wp2
  go_ret
  exact ⟨rfl, B9.out⟩
theorem parses_walk (s : ByteArray) (w : World) (hs : s.size ≤ maxLen) :
    Calls Tryd.prog 8 #[.string s] w (Gives (.bool true) w) := by
  rcases Nat.lt_or_ge 700 s.size with h | h
  · exact parses_long s w h (by unfold maxLen at hs; omega)
  · by_cases hp : parseErr s.data.toList = 0
    · exact parses_ok s w h hp
    · exact parses_bad s w h hp
end Go.Proofs.YtbjkkiehpfnogaaDoor
