/- Where the parts of a text lie: no claim of its own. -/
import Derived.Test.YtbllnkhbahenkaaGreatDoorFParse3
import Derived.Test.YtbllnkhbahenkaaGreatDoorRFFormat
import Derived.Test.YtbllnkhbahenkaaGreatDoorRMake
namespace Go.Proofs.YtbllnkhbahenkaaGreatDoor
open Go.RowKit
theorem idx_list (s : ByteArray) (j : Nat) (hj : j < s.size) : s.data.toList[j]? = some s[j] := by
  have h : j < s.data.toList.length := by rw [size_list]; exact hj
  rw [List.getElem?_eq_getElem h]
  rfl
theorem pre_len (u : Bool) : (if u then [(45 : UInt8)] else []).length = u.toNat := by cases u <;> rfl
theorem Split.size {s N D : ByteArray} {u z : Bool} (h : Split s u N z D) : s.size = u.toNat + N.size + (if z then 1 + D.size else 0) := by
  have e := congrArg List.length h.parts.eq
  rw [size_list, List.length_append, List.length_append, pre_len, size_list] at e
  rw [e]
  cases z with
  | true => simp only [if_true, List.length_cons, size_list]; omega
  | false => simp
theorem Split.at_num {s N D : ByteArray} {u z : Bool} (h : Split s u N z D) (j : Nat) (hj : j < s.size) (h1 : u.toNat ≤ j) (h2 : j < u.toNat + N.size) : s[j] ≠ 47 := by
  intro e
  have e1 := idx_list s j hj
  rw [h.parts.eq, List.getElem?_append_right (by rw [pre_len]; exact h1), pre_len, List.getElem?_append_left (by rw [size_list]; omega), e] at e1
  exact h.parts.ns (List.mem_of_getElem? e1)
theorem Split.at_slash {s N D : ByteArray} {u : Bool} (h : Split s u N true D) (hj : u.toNat + N.size < s.size) : s[u.toNat + N.size] = 47 := by
  have e1 := idx_list s _ hj
  rw [h.parts.eq, List.getElem?_append_right (by rw [pre_len]; omega), pre_len, List.getElem?_append_right (by rw [size_list]; omega), size_list, if_pos rfl, show u.toNat + N.size - u.toNat - N.size = 0 by omega] at e1
  simpa using e1.symm
theorem Split.cut_num {s N D : ByteArray} {u z : Bool} (h : Split s u N z D) : s.extract u.toNat (u.toNat + N.size) = N := by
  rw [Lib.extract_eq, h.parts.eq, List.drop_append_of_le_length (by rw [pre_len]; omega), show u.toNat + N.size - u.toNat = N.data.toList.length by rw [size_list]; omega]
  have e : List.drop u.toNat (if u then [(45 : UInt8)] else []) = [] := List.drop_eq_nil_of_le (by rw [pre_len]; omega)
  rw [e, List.nil_append, List.take_left']
  rfl
theorem Split.cut_den {s N D : ByteArray} {u : Bool} (h : Split s u N true D) : s.extract (u.toNat + N.size + 1) s.size = D := by
  have hs := h.size
  rw [if_pos rfl] at hs
  have e : s.data.toList.drop (u.toNat + N.size + 1) = D.data.toList := by
    rw [h.parts.eq, if_pos rfl, show (if u then [(45 : UInt8)] else []) ++ (N.data.toList ++ 47 :: D.data.toList) = ((if u then [(45 : UInt8)] else []) ++ N.data.toList ++ [47]) ++ D.data.toList by simp]
    exact List.drop_left' (by rw [List.length_append, List.length_append, pre_len, size_list]; rfl)
  rw [Lib.extract_eq, e, List.take_of_length_le (by rw [size_list]; omega)]
theorem Split.sign {s N D : ByteArray} {u z : Bool} (h : Split s u N z D) (h0 : 0 < s.size) : (s[0].toNat = 45 ↔ u = true) := by
  have e1 := idx_list s 0 h0
  constructor
  · intro e
    have e2 : s[0] = 45 := UInt8.toNat_inj.1 e
    rw [e2] at e1
    cases u with
    | true => rfl
    | false =>
      cases hl : s.data.toList with
      | nil => rw [hl] at e1; cases e1
      | cons c t =>
        rw [hl] at e1
        have : c = 45 := by simpa using e1
        exact absurd hl (by rw [this]; exact h.parts.nm rfl t)
  · intro e
    subst e
    rw [h.parts.eq] at e1
    have : s[0] = 45 := by simpa using e1.symm
    rw [this]; rfl
end Go.Proofs.YtbllnkhbahenkaaGreatDoor
