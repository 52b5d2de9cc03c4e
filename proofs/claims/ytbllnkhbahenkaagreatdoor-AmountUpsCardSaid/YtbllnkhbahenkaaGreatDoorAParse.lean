/- The contracts of Parse, of the package and of the reference: no claim of its own. -/
import Derived.Test.YtbllnkhbahenkaaGreatDoorATxt
import Derived.Test.YtbllnkhbahenkaaGreatDoorAF
namespace Go.Proofs.YtbllnkhbahenkaaGreatDoor
open Go.RowKit
theorem foldl_ge : ∀ (l : List UInt8) (a : Nat), a ≤ l.foldl (fun a c => 10 * a + (c.toNat - 48)) a
  | [], a => Nat.le_refl _
  | c :: l, a => Nat.le_trans (by omega) (foldl_ge l (10 * a + (c.toNat - 48)))
theorem decVal_take_le (l : List UInt8) (k : Nat) : decVal (l.take k) ≤ decVal l := by
  have : decVal l = (l.drop k).foldl (fun a c => 10 * a + (c.toNat - 48)) (decVal (l.take k)) := by
    unfold decVal
    rw [← List.foldl_append, List.take_append_drop]
  rw [this]; exact foldl_ge _ _
/-- A pair handed back. -/
def GP (p : Int × Int) (w : World) (e : Ending) (w' : World) : Prop := e = .returned (.tuple #[.int .i64 p.1, .int .i64 p.2]) ∧ w = w'
theorem GP.mk (a b : Int) (p : Int × Int) (w : World) (h : p = (a, b)) : GP p w (.returned (.tuple #[.int .i64 a, .int .i64 b])) w := by subst h; exact ⟨rfl, rfl⟩
theorem parseA_err {l : List UInt8} {k : Nat} (h : parseErr l = k) (hk : k ≠ 0) : parseA l = (0, (k : Int)) := by
  unfold parseA; rw [h, if_neg hk]
theorem parseA_ok {l : List UInt8} (h : parseErr l = 0) : parseA l = if decVal l ≤ 1000000 then ((decVal l : Int), 0) else (0, 4) := by
  unfold parseA; rw [if_pos h]
/-- The number read so far, no greater than the limit. -/
structure Cap (l : List UInt8) (k : Nat) (z : Int) : Prop where
  eq : z = ((min (decVal (l.take k)) 1000001 : Nat) : Int)
theorem Cap.zero (l : List UInt8) : Cap l 0 0 := ⟨by simp [decVal]⟩
theorem Cap.lo {l : List UInt8} {k : Nat} {z : Int} (h : Cap l k z) : 0 ≤ z ∧ z ≤ 1000001 := by have := h.eq; omega
theorem step_val (s : ByteArray) (k : Nat) (hk : k < s.size) : decVal (s.data.toList.take (k + 1)) = 10 * decVal (s.data.toList.take k) + (s[k].toNat - 48) := by
  rw [take_snoc' s k hk, decVal_snoc]
theorem Cap.low {s : ByteArray} {k : Nat} {z : Int} (h : Cap s.data.toList k z) (hk : k < s.size) (hc : 48 ≤ s[k].toNat) (hl : 10 * z + ((s[k].toNat : Int) - 48) ≤ 1000001) : Cap s.data.toList (k + 1) (10 * z + ((s[k].toNat : Int) - 48)) := by
  have e := h.eq
  refine ⟨?_⟩
  rw [step_val s k hk]
  omega
theorem Cap.high {s : ByteArray} {k : Nat} {z : Int} (h : Cap s.data.toList k z) (hk : k < s.size) (hc : 48 ≤ s[k].toNat) (hl : 1000001 ≤ 10 * z + ((s[k].toNat : Int) - 48)) : Cap s.data.toList (k + 1) 1000001 := by
  have e := h.eq
  refine ⟨?_⟩
  rw [step_val s k hk]
  omega
theorem Cap.fin {l : List UInt8} {k : Nat} {z : Int} (h : Cap l k z) (hk : l.length ≤ k) (h0 : parseErr l = 0) : parseA l = (chkd z, chk z) := by
  have e := h.eq
  rw [List.take_of_length_le hk] at e
  rw [parseA_ok h0]
  by_cases h1 : decVal l ≤ 1000000
  · rw [if_pos h1]
    have : z = (decVal l : Int) := by omega
    subst this
    unfold chkd
    rw [chk_ok (by omega) (by omega), if_pos rfl]
  · rw [if_neg h1]
    have : z = 1000001 := by omega
    subst this; rfl
theorem empty_no {s : ByteArray} (h : s.size ≠ 0) : s.toList.isEmpty = false := by
  rw [ByteArray.toList_eq]
  cases e : s.data.toList with
  | nil => exact absurd (by rw [← size_list, e]; rfl) h
  | cons a b => rfl
theorem empty_yes {s : ByteArray} (h : s.size = 0) : s.toList.isEmpty = true := by
  rw [ByteArray.toList_eq]
  have : s.data.toList = [] := List.eq_nil_of_length_eq_zero (by rw [size_list]; exact h)
  rw [this]; rfl
set_option maxRecDepth 100000 in
set_option maxHeartbeats 2000000 in
theorem parse5_any (s : ByteArray) (w : World) (hs : s.size ≤ 600) : Calls Tryz.prog 32 #[.string s] w (GP (parseA s.data.toList) w) := by
  by_cases h0 : s.size = 0
  · have he := empty_yes h0
    have F : Hid (GP (parseA s.data.toList) w (.returned (.tuple #[.int .i64 0, .int .i64 1])) w) := Lib.hid (GP.mk _ _ _ _ (parseA_err (parseErr_short _ (by rw [size_list]; exact h0)) (by decide)))
    clear h0
    go_enter Tryz.func32, Tryz.ntmps32
    go_wp2
    go_ret2
    exact F.out
  · have he := empty_no h0
    have hp : 0 < s.size := by omega
    have PB := Lib.hid (parseErr_bad s.data.toList (by rw [size_list]; omega) (by rw [size_list]; omega))
    have PO := Lib.hid (parseErr_ok s.data.toList (by rw [size_list]; omega) (by rw [size_list]; omega))
    have H0 := Lib.hid (getD_zero s hp)
    have HL := Lib.hid (size_list s)
    clear h0
    have FB : Hid (parseErr s.data.toList = 2 → GP (parseA s.data.toList) w (.returned (.tuple #[.int .i64 0, .int .i64 2])) w) := Lib.hid fun h => GP.mk _ _ _ _ (parseA_err h (by decide))
    by_cases h48 : s[0].toNat = 48 ∧ 1 < s.size
    · obtain ⟨h48, h1⟩ := h48
      have e0 : s[0] = 48 := UInt8.toNat_inj.1 h48
      have F := Lib.hid (FB.out (PB.out (.inl ⟨by rw [H0.out, e0], by rw [HL.out]; exact h1⟩)))
      have hb : ((s[0].toNat : Int) == 48) = true := beq_iff_eq.2 (by omega)
      clear PB PO FB e0 h48
      go_enter Tryz.func32, Tryz.ntmps32
      go_wp2
      go_ret2
      exact F.out
    · have N0 : Hid (¬ (s.data.toList.getD 0 0 = 48 ∧ 1 < s.data.toList.length)) := Lib.hid fun h => h48 ⟨by
          have := h.1
          rw [H0.out] at this
          rw [this]; rfl, by have := h.2; rw [HL.out] at this; exact this⟩
      have I0 := Lib.hid (Cap.zero s.data.toList)
      by_cases hb0 : s[0].toNat = 48
      all_goals
        first
        | have hb : ((s[0].toNat : Int) == 48) = true := beq_iff_eq.2 (by omega)
          have hsz : ¬ (1 : Int) < (s.size : Int) := by have := fun h => h48 ⟨hb0, h⟩; omega
          have hsz2 : s.size ≤ 1 := by omega
        | have hb : ((s[0].toNat : Int) == 48) = false := beq_eq_false_iff_ne.2 (by omega)
        clear h48 hb0
        go_enter Tryz.func32, Tryz.ntmps32
        go_wp2
        go_loop [4, 20] (fun v i => ∃ (k : Nat) (z : Int), k ≤ s.size ∧ i = .int .i64 k ∧ v = .int .i64 z ∧ 0 ≤ z ∧ z ≤ 1000001 ∧ Hid (Cap s.data.toList k z) ∧ Hid (∀ (j : Nat) (hj : j < s.size), j < k → isDig s[j])) (fun _ i => s.size - (intOf i).toNat)
        case atStart => exact ⟨0, 0, by omega, by go_num, by go_num, by omega, by omega, I0, Lib.hid fun j hj h => by omega⟩
        case round =>
          obtain ⟨k, z, hk, rfl, rfl, hz0, hz1, hi, hd⟩ := hrel
          clear I0
          by_cases hlt : k < s.size
          · by_cases hc1 : s[k].toNat < 48
            · have F := Lib.hid (FB.out (PB.out (.inr fun h => by have := (h _ (mem_index s k hlt)).1; omega)))
              clear PB PO FB hd hi
              have hc : (s[k].toNat : Int) < 48 := by omega
              go_wp2
              go_ret2
              exact F.out
            · have hc : (48 : Int) ≤ (s[k].toNat : Int) := by omega
              by_cases hc2 : 57 < s[k].toNat
              · have F := Lib.hid (FB.out (PB.out (.inr fun h => by have := (h _ (mem_index s k hlt)).2; omega)))
                clear PB PO FB hd hi
                have hc' : (57 : Int) < (s[k].toNat : Int) := by omega
                go_wp2
                go_ret2
                exact F.out
              · have R : Hid (∀ (j : Nat) (hj : j < s.size), j < k + 1 → isDig s[j]) := Lib.hid fun j hj h => by
                  rcases Nat.lt_or_ge j k with h1 | h1
                  · exact hd.out j hj h1
                  · obtain rfl : j = k := by omega
                    exact ⟨by omega, by omega⟩
                have hc' : (s[k].toNat : Int) ≤ 57 := by omega
                have C1 : Hid (10 * z + ((s[k].toNat : Int) - 48) ≤ 1000001 → Cap s.data.toList (k + 1) (10 * z + ((s[k].toNat : Int) - 48))) := Lib.hid (hi.out.low hlt (by omega))
                have C2 : Hid (1000001 ≤ 10 * z + ((s[k].toNat : Int) - 48) → Cap s.data.toList (k + 1) 1000001) := Lib.hid (hi.out.high hlt (by omega))
                clear hd hi
                by_cases hm : 1000001 < 10 * z + ((s[k].toNat : Int) - 48)
                · have I1 := Lib.hid (C2.out (by omega))
                  clear C1 C2
                  go_wp2
                  go_round
                  case rel => exact ⟨k + 1, 1000001, by omega, by go_num, by go_num, by omega, by omega, I1, R⟩
                  case measure => simp [intOf]; omega
                · have I1 := Lib.hid (C1.out (by omega))
                  clear C1 C2
                  go_wp2
                  go_round
                  case rel => exact ⟨k + 1, 10 * z + ((s[k].toNat : Int) - 48), by omega, by go_num, by go_num, by omega, by omega, I1, R⟩
                  case measure => simp [intOf]; omega
          · have P : parseErr s.data.toList = 0 := PO.out N0.out (all_of_index s isDig fun j hj => hd.out j hj (by omega))
            have CK := Lib.hid (fun W => checked_any z W)
            have F : Hid (GP (parseA s.data.toList) w (.returned (.tuple #[.int .i64 (chkd z), .int .i64 (chk z)])) w) := Lib.hid (GP.mk _ _ _ _ (hi.out.fin (by rw [HL.out]; omega) P))
            clear PB PO FB hd hi P
            go_wp2_with (go_at_call 39; refine (CK.out _).mono ?_; rintro e w' ⟨rfl, rfl⟩)
            go_ret2
            exact F.out
end Go.Proofs.YtbllnkhbahenkaaGreatDoor
