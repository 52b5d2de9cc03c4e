/- Contracts of Format and Parse in short words: no claim of its own. -/
import Derived.Test.YtbllnkhbahenkaaGreatDoorShort
import Derived.Test.YtbllnkhbahenkaaGreatDoorParse
import Derived.Test.YtbllnkhbahenkaaGreatDoorFormat
import Derived.Test.YtbllnkhbahenkaaGreatDoorBitsN
namespace Go.Proofs.YtbllnkhbahenkaaGreatDoor
open Go.RowKit
theorem format_any (A : Option Addr) (n c a : Nat) (xs : List Nat) (w : World) (h : Num w A n c xs a) (hn : n ≤ 1000000) :
    Calls Tryz.prog 54 #[.slice A n c] w (GivesText a w) := by
  rcases Nat.eq_zero_or_pos n with h0 | h0
  · subst h0
    have h1 := h.len
    have h2 := h.val
    have : xs = [] := List.eq_nil_of_length_eq_zero h1
    subst this
    obtain rfl : a = 0 := by simpa [dval] using h2.symm
    exact format_zero A c [] w h
  · exact format_pos A n c a xs w h h0 hn
theorem bytes_eq (s t : ByteArray) (h : s.data.toList = t.data.toList) : s = t := by
  cases s with
  | mk d =>
    cases t with
    | mk e =>
      have : d = e := Array.toList_inj.1 h
      rw [this]
theorem text_eq {s t : ByteArray} {a : Nat} (h : isText s.data.toList a) (k : isText t.data.toList a) : s = t := bytes_eq s t (isText_inj _ _ _ h k)
theorem parsed (s : ByteArray) (a k : Nat) (hs : s.size ≤ 140737488351232) (ha : (if parseErr s.data.toList = 0 then decVal s.data.toList else 0) = a) (hk : parseErr s.data.toList = k) (w : World) :
    Calls Tryz.prog 58 #[.string s] w (GivesParse a k w) := by subst ha; subst hk; exact parse_any s w hs
/-- Parse of the text of a number that is not too long. -/
theorem parse_text {s : ByteArray} {a k : Nat} (h : isText s.data.toList a) (ha : a < 10 ^ k) (hk : k ≤ 599) (w : World) : Calls Tryz.prog 58 #[.string s] w (GivesParse a 0 w) := by
  have hl := isText_len _ _ _ h ha
  have h0 := isText_ok _ _ h (by omega)
  rw [size_list] at hl
  exact parsed s a 0 (by omega) (by rw [if_pos h0]; exact isText_dec _ _ h) h0 w
theorem pow_ten {a n : Nat} (h : a < 4294967296 ^ n) : a < 10 ^ (10 * n) := by
  have h4 : (4294967296 : Nat) ^ n ≤ (10 ^ 10) ^ n := Nat.pow_le_pow_left (by decide) _
  rw [← Nat.pow_mul] at h4
  exact Nat.lt_of_lt_of_le h h4
end Go.Proofs.YtbllnkhbahenkaaGreatDoor
