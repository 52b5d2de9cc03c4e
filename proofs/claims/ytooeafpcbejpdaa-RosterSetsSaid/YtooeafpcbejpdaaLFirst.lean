/- The first token of a text, of the package: no claim of its own. -/
import Derived.Test.YtooeafpcbejpdaaLNum
import Derived.Test.YtooeafpcbejpdaaLMark
namespace Go.Proofs.Ytooeafpcbejpdaa
open Go.RowKit
theorem list_head (s : ByteArray) (h : 0 < s.size) : s.data.toList = s[0] :: s.data.toList.drop 1 := by
  have := List.drop_eq_getElem_cons (l := s.data.toList) (i := 0) (by rw [size_list]; exact h)
  rw [List.drop_zero] at this
  exact this
theorem one_letter (s : ByteArray) (h : 0 < s.size) (hl : letterN (s[0]).toNat = true) : oneT s.data.toList = if 12 < (fits partN s.data.toList).length then (.zero, 3) else (⟨1, fits partN s.data.toList, 0, 0⟩, 0) := by
  rw [list_head s h, oneT_cons, if_pos hl]
theorem one_digit (s : ByteArray) (h : 0 < s.size) (hl : letterN (s[0]).toNat = false) (hd : digitN (s[0]).toNat = true) : oneT s.data.toList = numT (fits digitN s.data.toList) := by
  rw [list_head s h, oneT_cons, if_neg (by rw [hl]; decide), if_pos hd, fits_cons hd]
  unfold numT
  simp only [List.head?_cons, Option.map_some, Option.some.injEq]
theorem one_mark (s : ByteArray) (h : 0 < s.size) (hl : letterN (s[0]).toNat = false) (hd : digitN (s[0]).toNat = false) (hm : markN (s[0]).toNat = true) : oneT s.data.toList = (⟨3, s.data.toList.take 1, 0, 0⟩, 0) := by
  rw [list_head s h, oneT_cons, if_neg (by rw [hl]; decide), if_neg (by rw [hd]; decide), if_pos hm]
  rfl
theorem one_none (s : ByteArray) (h : 0 < s.size) (hl : letterN (s[0]).toNat = false) (hd : digitN (s[0]).toNat = false) (hm : markN (s[0]).toNat = false) : oneT s.data.toList = (.zero, 2) := by
  rw [list_head s h, oneT_cons, if_neg (by rw [hl]; decide), if_neg (by rw [hd]; decide), if_neg (by rw [hm]; decide)]
theorem digits_all (l : List UInt8) (j : Nat) (hj : j < (str (fits digitN l)).size) : digitN ((str (fits digitN l))[j]).toNat = true := by
  obtain ⟨c, h1, h2⟩ := fits_in digitN l j (by rw [str_size] at hj; exact hj)
  have e := at_list (str (fits digitN l)) j hj
  have e' : (fits digitN l)[j]? = l[j]? := by
    conv => lhs; rw [← fits_take digitN l]
    exact List.getElem?_take_of_lt (by rw [str_size] at hj; exact hj)
  rw [str_data, e', h1] at e
  injection e with e
  rw [← e]; exact h2
end Go.Proofs.Ytooeafpcbejpdaa
