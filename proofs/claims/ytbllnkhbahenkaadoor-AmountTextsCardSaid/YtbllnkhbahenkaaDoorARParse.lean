/- The contract of the reference's Parse: no claim of its own. -/
import Derived.Test.YtbllnkhbahenkaaDoorAParse
namespace Go.Proofs.YtbllnkhbahenkaaDoor
open Go.RowKit
/-- The number read so far. -/
structure Upto (l : List UInt8) (k : Nat) (z : Int) : Prop where
  eq : z = (decVal (l.take k) : Int)
theorem Upto.zero (l : List UInt8) : Upto l 0 0 := ⟨by simp [decVal]⟩
theorem Upto.next {s : ByteArray} {k : Nat} {z : Int} (h : Upto s.data.toList k z) (hk : k < s.size) (hc : 48 ≤ s[k].toNat) : Upto s.data.toList (k + 1) (10 * z + ((s[k].toNat : Int) - 48)) := by
  have e := h.eq
  refine ⟨?_⟩
  rw [step_val s k hk]
  omega
theorem Upto.over {s : ByteArray} {k : Nat} {z : Int} (h : Upto s.data.toList k z) (hz : 1000000 < z) (h0 : parseErr s.data.toList = 0) : parseA s.data.toList = (0, 4) := by
  have e := h.eq
  have := decVal_take_le s.data.toList k
  rw [parseA_ok h0, if_neg (by omega)]
theorem Upto.fin {s : ByteArray} {k : Nat} {z : Int} (h : Upto s.data.toList k z) (hk : s.size ≤ k) (hz : z ≤ 1000000) (h0 : parseErr s.data.toList = 0) : parseA s.data.toList = (z, 0) := by
  have e := h.eq
  rw [List.take_of_length_le (by rw [size_list]; exact hk)] at e
  rw [parseA_ok h0, if_pos (by omega), e]
set_option maxRecDepth 100000 in
set_option maxHeartbeats 2000000 in
theorem rparse5_any (s : ByteArray) (w : World) (hs : s.size ≤ 600) : Calls Tryd.prog 12 #[.string s] w (GP (parseA s.data.toList) w) := by
  by_cases h0 : s.size = 0
  · have he := empty_yes h0
    have F : Hid (GP (parseA s.data.toList) w (.returned (.tuple #[.int .i64 0, .int .i64 1])) w) := Lib.hid (GP.mk _ _ _ _ (parseA_err (parseErr_short _ (by rw [size_list]; exact h0)) (by decide)))
    clear h0
    go_enter Tryd.func12, Tryd.ntmps12
    go_wp2
    go_ret2
    exact F.out
  · have he := empty_no h0
    have hp : 0 < s.size := by omega
    have PB := Lib.hid (parseErr_bad s.data.toList (by rw [size_list]; omega) (by rw [size_list]; omega))
    have PO := Lib.hid (parseErr_ok s.data.toList (by rw [size_list]; omega) (by rw [size_list]; omega))
    have H0 := Lib.hid (getD_zero s hp)
    have HL := Lib.hid (size_list s)
    clear h0
    have FB : Hid (parseErr s.data.toList = 2 → GP (parseA s.data.toList) w (.returned (.tuple #[.int .i64 0, .int .i64 2])) w) := Lib.hid fun h => GP.mk _ _ _ _ (parseA_err h (by decide))
    go_enter Tryd.func12, Tryd.ntmps12
    go_wp2
    go_loop [4] (fun i => ∃ k : Nat, k ≤ s.size ∧ i = .int .i64 k ∧ Hid (∀ (j : Nat) (hj : j < s.size), j < k → isDig s[j])) (fun i => s.size - (intOf i).toNat)
    case atStart => exact ⟨0, by omega, by go_num, Lib.hid fun j hj h => by omega⟩
    case round =>
      obtain ⟨k, hk, rfl, hd⟩ := hrel
      by_cases hlt : k < s.size
      · by_cases hc1 : s[k].toNat < 48
        · have F := Lib.hid (FB.out (PB.out (.inr fun h => by have := (h _ (mem_index s k hlt)).1; omega)))
          clear PB PO FB hd
          have hc : (s[k].toNat : Int) < 48 := by omega
          go_wp2
          go_ret2
          exact F.out
        · have hc : (48 : Int) ≤ (s[k].toNat : Int) := by omega
          by_cases hc2 : 57 < s[k].toNat
          · have F := Lib.hid (FB.out (PB.out (.inr fun h => by have := (h _ (mem_index s k hlt)).2; omega)))
            clear PB PO FB hd
            have hc' : (57 : Int) < (s[k].toNat : Int) := by omega
            go_wp2
            go_ret2
            exact F.out
          · have R : Hid (∀ (j : Nat) (hj : j < s.size), j < k + 1 → isDig s[j]) := Lib.hid fun j hj h => by
              rcases Nat.lt_or_ge j k with h1 | h1
              · exact hd.out j hj h1
              · obtain rfl : j = k := by omega
                exact ⟨by omega, by omega⟩
            have hc' : (s[k].toNat : Int) ≤ 57 := by omega
            clear hd
            go_wp2
            go_round
            case rel => exact ⟨k + 1, by omega, by go_num, R⟩
            case measure => simp [intOf]; omega
      · have DG : Hid (∀ (j : Nat) (hj : j < s.size), isDig s[j]) := Lib.hid fun j hj => hd.out j hj (by omega)
        obtain rfl : k = s.size := by omega
        clear hd
        by_cases h48 : s[0].toNat = 48 ∧ 1 < s.size
        · obtain ⟨h48, h1⟩ := h48
          have e0 : s[0] = 48 := UInt8.toNat_inj.1 h48
          have F := Lib.hid (FB.out (PB.out (.inl ⟨by rw [H0.out, e0], by rw [HL.out]; exact h1⟩)))
          have hb : ((s[0].toNat : Int) == 48) = true := beq_iff_eq.2 (by omega)
          clear PB PO FB e0 h48
          go_wp2
          go_ret2
          exact F.out
        · have N0 : ¬ (s.data.toList.getD 0 0 = 48 ∧ 1 < s.data.toList.length) := fun h => h48 ⟨by
              have := h.1
              rw [H0.out] at this
              rw [this]; rfl, by have := h.2; rw [HL.out] at this; exact this⟩
          have P := Lib.hid (PO.out N0 (all_of_index s isDig DG.out))
          have I0 := Lib.hid (Upto.zero s.data.toList)
          clear PB PO FB N0
          by_cases hb0 : s[0].toNat = 48
          all_goals
            first
            | have hb : ((s[0].toNat : Int) == 48) = true := beq_iff_eq.2 (by omega)
              have hsz : ¬ (1 : Int) < (s.size : Int) := by have := fun h => h48 ⟨hb0, h⟩; omega
              have hsz2 : s.size ≤ 1 := by omega
            | have hb : ((s[0].toNat : Int) == 48) = false := beq_eq_false_iff_ne.2 (by omega)
            clear h48 hb0
            go_wp2
            go_loop [5, 6] (fun v i => ∃ (k : Nat) (z : Int), k ≤ s.size ∧ i = .int .i64 k ∧ v = .int .i64 z ∧ 0 ≤ z ∧ z ≤ 1000000 ∧ Hid (Upto s.data.toList k z)) (fun _ i => s.size - (intOf i).toNat)
            case atStart => exact ⟨0, 0, by omega, by go_num, by go_num, by omega, by omega, I0⟩
            case round =>
              obtain ⟨k, z, hk, rfl, rfl, hz0, hz1, hi⟩ := hrel
              clear I0
              by_cases hlt : k < s.size
              · have hc : (48 : Int) ≤ (s[k].toNat : Int) := by have := (DG.out k hlt).1; omega
                have hc' : (s[k].toNat : Int) ≤ 57 := by have := (DG.out k hlt).2; omega
                have I1 := Lib.hid (hi.out.next hlt (by omega))
                clear hi
                by_cases hm : 1000000 < 10 * z + ((s[k].toNat : Int) - 48)
                · have F : Hid (GP (parseA s.data.toList) w (.returned (.tuple #[.int .i64 0, .int .i64 4])) w) := Lib.hid (GP.mk _ _ _ _ (I1.out.over hm P.out))
                  clear I1
                  go_wp2
                  go_ret2
                  exact F.out
                · go_wp2
                  go_round
                  case rel => exact ⟨k + 1, 10 * z + ((s[k].toNat : Int) - 48), by omega, by go_num, by go_num, by omega, by omega, I1⟩
                  case measure => simp [intOf]; omega
              · have F : Hid (GP (parseA s.data.toList) w (.returned (.tuple #[.int .i64 z, .int .i64 0])) w) := Lib.hid (GP.mk _ _ _ _ (hi.out.fin (by omega) hz1 P.out))
                clear hi
                go_wp2
                go_ret2
                exact F.out
end Go.Proofs.YtbllnkhbahenkaaDoor
