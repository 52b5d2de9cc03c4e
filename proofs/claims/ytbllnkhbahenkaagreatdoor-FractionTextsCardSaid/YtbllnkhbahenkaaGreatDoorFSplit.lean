/- fraction.split of any text: no claim of its own. -/
import Derived.Test.YtbllnkhbahenkaaGreatDoorMathT
import Derived.Lib.CutLaws
namespace Go.Proofs.YtbllnkhbahenkaaGreatDoor
open Go.RowKit
theorem cut_left (s N D : ByteArray) (h : s.data.toList = N.data.toList ++ 47 :: D.data.toList) : s.extract 0 N.size = N := by
  rw [Lib.extract_eq, h]
  have e : N.size = N.data.toList.length := (size_list N).symm
  rw [e]
  simp
theorem cut_right (s N D : ByteArray) (h : s.data.toList = N.data.toList ++ 47 :: D.data.toList) : s.extract (N.size + 1) s.size = D := by
  have e : N.size = N.data.toList.length := (size_list N).symm
  have e2 : s.size = N.size + 1 + D.size := by
    rw [← size_list s, h, ← size_list N, ← size_list D]; simp; omega
  rw [Lib.extract_eq, h, e2, Nat.add_sub_cancel_left, e]
  have e3 : (N.data.toList ++ 47 :: D.data.toList).drop (N.data.toList.length + 1) = D.data.toList := by
    rw [show N.data.toList ++ 47 :: D.data.toList = (N.data.toList ++ [47]) ++ D.data.toList by simp]
    exact List.drop_left' (by simp)
  rw [e3]
  have e4 : D.size = D.data.toList.length := (size_list D).symm
  rw [e4, List.take_length]
theorem slCut_no (s : ByteArray) (hs : (47 : UInt8) ∉ s.data.toList) (w : World) : Calls Tryz.prog 92 #[.string s, .string ⟨#[47]⟩] w fun e w' => e = .returned (.tuple #[.string s, .string ⟨#[]⟩, .bool false]) ∧ ∃ q, w' = w.drewN q := by
  have e1 := idx_no _ hs
  have C := fun w' => stringslite_Index_one s 47 w'
  rw [e1] at C
  have CC := Lib.hid C
  clear C e1 hs
  go_enter Tryz.func92, Tryz.ntmps92
  go_wp2_with fail
  refine (CC.out _).mono ?_
  rintro e w' ⟨rfl, rfl⟩
  go_wp2
  go_ret3
  exact ⟨rfl, 0, rfl⟩
theorem slCut_yes (s N D : ByteArray) (h : s.data.toList = N.data.toList ++ 47 :: D.data.toList) (hs : (47 : UInt8) ∉ N.data.toList) (hz : s.size ≤ 2000) (w : World) : Calls Tryz.prog 92 #[.string s, .string ⟨#[47]⟩] w fun e w' => e = .returned (.tuple #[.string N, .string D, .bool true]) ∧ ∃ q, w' = w.drewN q := by
  have e1 := idx_yes _ D.data.toList hs
  rw [← h, size_list] at e1
  have C := fun w' => stringslite_Index_one s 47 w'
  rw [e1] at C
  have CC := Lib.hid C
  have cl := Lib.hid (cut_left s N D h)
  have cr := Lib.hid (cut_right s N D h)
  have e2 : s.size = N.size + 1 + D.size := by
    rw [← size_list s, h, ← size_list N, ← size_list D]; simp; omega
  have c1 : (0 : Int) ≤ ↑N.size := by omega
  have c2 : (↑N.size : Int) ≤ ↑s.size := by omega
  have c3 : (0 : Int) ≤ ↑N.size + 1 := by omega
  have c4 : (↑N.size + 1 : Int) ≤ ↑s.size := by omega
  have c5 : N.size + 1 ≤ 2000 := by omega
  clear C e1 hs h e2
  go_enter Tryz.func92, Tryz.ntmps92
  go_wp2_with fail
  refine (CC.out _).mono ?_
  rintro e w' ⟨rfl, rfl⟩
  go_wp2
  go_quiet (fail)
  go_wp2
  go_ret3
  exact ⟨by rw [cl.out, cr.out]; rfl, _, rfl⟩
theorem cut_any (s N D : ByteArray) (z : Bool) (h : s.data.toList = N.data.toList ++ (if z then 47 :: D.data.toList else [])) (hn : (47 : UInt8) ∉ N.data.toList) (hd : z = false → D = ⟨#[]⟩) (hz : s.size ≤ 2000) (w : World) : Calls Tryz.prog 57 #[.string s, .string ⟨#[47]⟩] w fun e w' => e = .returned (.tuple #[.string N, .string D, .bool z]) ∧ ∃ q, w' = w.drewN q := by
  have C : Hid (∀ w, Calls Tryz.prog 92 #[.string s, .string ⟨#[47]⟩] w fun e w' => e = .returned (.tuple #[.string N, .string D, .bool z]) ∧ ∃ q, w' = w.drewN q) := Lib.hid fun w => by
    cases z with
    | false =>
      obtain rfl := hd rfl
      obtain rfl : s = N := bytes_eq _ _ (by simpa using h)
      exact slCut_no s hn w
    | true => exact slCut_yes s N D h hn hz w
  clear h hn hd hz
  go_enter Tryz.func57, Tryz.ntmps57
  go_wp2_with fail
  refine (C.out _).mono ?_
  rintro e w' ⟨rfl, q, rfl⟩
  go_wp2
  go_ret3
  exact ⟨rfl, _, rfl⟩
/-- The parts of a text, as texts. -/
structure Split (s : ByteArray) (u : Bool) (N : ByteArray) (z : Bool) (D : ByteArray) : Prop where
  parts : Parts s.data.toList u N.data.toList z D.data.toList
theorem mk_list (l : List UInt8) : (⟨l.toArray⟩ : ByteArray).data.toList = l := by simp
theorem Split.exist (s : ByteArray) : ∃ u N z D, Split s u N z D := by
  obtain ⟨u, N, z, D, h⟩ := Parts.exist s.data.toList
  exact ⟨u, ⟨N.toArray⟩, z, ⟨D.toArray⟩, ⟨by rw [mk_list, mk_list]; exact h⟩⟩
theorem Split.empty {s N D : ByteArray} {u z : Bool} (h : Split s u N z D) (hz : z = false) : D = ⟨#[]⟩ := bytes_eq _ _ (h.parts.nd hz)
theorem Split.sizes {s N D : ByteArray} {u z : Bool} (h : Split s u N z D) : N.size ≤ s.size ∧ D.size ≤ s.size := by
  have e := congrArg List.length h.parts.eq
  rw [size_list] at e
  have e1 := size_list N
  have e2 := size_list D
  cases z with
  | true => cases u <;> simp at e <;> omega
  | false =>
    rw [h.empty rfl]
    have e3 : (⟨#[]⟩ : ByteArray).size = 0 := rfl
    cases u <;> simp at e <;> omega
theorem prefix_any (s N D : ByteArray) (u z : Bool) (h : Split s u N z D) (w : World) : ∃ b : ByteArray, b.data.toList = N.data.toList ++ (if z then 47 :: D.data.toList else []) ∧ b.size ≤ s.size ∧ Calls Tryz.prog 56 #[.string s, .string ⟨#[45]⟩] w fun e w' => e = .returned (.tuple #[.string b, .bool u]) ∧ w' = w := by
  have C := strings_CutPrefix s ⟨#[45]⟩ w
  rw [show (⟨#[45]⟩ : ByteArray).data.toList = [45] from rfl, h.parts.pre] at C
  refine ⟨_, ?_, ?_, C⟩
  · rw [mk_list]; exact h.parts.trim
  · have := Lib.trimPrefix_le s.data.toList [45]
    rw [size_list] at this
    rw [← size_list, mk_list]
    exact this
end Go.Proofs.YtbllnkhbahenkaaGreatDoor
