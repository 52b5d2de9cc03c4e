/- The contract of checkDecimal: no claim of its own. -/
import Derived.Test.YtbjkkiehpfnogaaDoorWords
import Derived.Test.YtbjkkiehpfnogaaDoorText
namespace Go.Proofs.YtbjkkiehpfnogaaDoor
open Go.RowKit
set_option maxHeartbeats 1000000 in
theorem checkDecimal_any (s : ByteArray) (w : World) (hs : s.size ≤ 140737488351232) :
    Calls Tryd.prog 57 #[.string s] w fun e w' => e = .returned (.int .i64 (parseErr s.data.toList : Nat)) ∧ w = w' := by
  have hl := size_list s
  by_cases h0 : s.size = 0
  · have P := Lib.hid (parseErr_short s.data.toList (by omega))
    have hz : ((s.size : Int) == 0) = true := beq_iff_eq.2 (by omega)
    clear hl h0
    go_enter Tryd.func57, Tryd.ntmps57
    go_wp2
    go_ret
    exact ⟨by rw [P.out]; rfl, rfl⟩
  · have hz : ((s.size : Int) == 0) = false := beq_eq_false_iff_ne.2 (by omega)
    have hp : 0 < s.size := by omega
    by_cases h6 : 600 < s.size
    · have P := Lib.hid (parseErr_long s.data.toList (by omega))
      clear hl h0
      go_enter Tryd.func57, Tryd.ntmps57
      go_wp2
      go_ret
      exact ⟨by rw [P.out]; rfl, rfl⟩
    · have PB := Lib.hid (parseErr_bad s.data.toList (by omega) (by omega))
      have PO := Lib.hid (parseErr_ok s.data.toList (by omega) (by omega))
      have H0 := Lib.hid (getD_zero s hp)
      have HL := Lib.hid hl
      clear hl h0
      by_cases h48 : s[0].toNat = 48
      · have e0 : s[0] = 48 := UInt8.toNat_inj.1 h48
        have E0 := Lib.hid e0
        have hb : ((s[0].toNat : Int) == 48) = true := beq_iff_eq.2 (by omega)
        clear e0 h48
        by_cases h1 : 1 < s.size
        · have P : Hid (parseErr s.data.toList = 2) := Lib.hid (PB.out (.inl ⟨by rw [H0.out, E0.out], by rw [HL.out]; exact h1⟩))
          clear PB PO
          go_enter Tryd.func57, Tryd.ntmps57
          go_wp2
          go_ret
          exact ⟨by rw [P.out]; rfl, rfl⟩
        · have P : Hid (parseErr s.data.toList = 0) := Lib.hid (PO.out (fun h => h1 (by have := h.2; rw [HL.out] at this; exact this)) (all_of_index s isDig fun j hj => by
            obtain rfl : j = 0 := by omega
            rw [E0.out]; exact ⟨by decide, by decide⟩))
          have hsz : s.size ≤ 1 := by omega
          clear PB PO
          go_enter Tryd.func57, Tryd.ntmps57
          go_wp2
          go_loop [23] (fun i => ∃ k : Nat, k ≤ s.size ∧ i = .int .i64 k) (fun i => s.size - (intOf i).toNat)
          case atStart => exact ⟨0, by omega, rfl⟩
          case round =>
            obtain ⟨k, hk, rfl⟩ := hrel
            by_cases hlt : k < s.size
            · obtain rfl : k = 0 := by omega
              have b1 : (48 : Int) ≤ (s[0].toNat : Int) := by rw [E0.out]; decide
              have b2 : (s[0].toNat : Int) ≤ 57 := by rw [E0.out]; decide
              go_wp2
              go_round
              case rel => exact ⟨1, by omega, rfl⟩
              case measure => simp [intOf]; omega
            · go_wp2
              go_ret
              exact ⟨by rw [P.out]; rfl, rfl⟩
      · have hb : ((s[0].toNat : Int) == 48) = false := beq_eq_false_iff_ne.2 (by omega)
        have N0 : Hid (¬ (s.data.toList.getD 0 0 = 48 ∧ 1 < s.data.toList.length)) := Lib.hid fun h => h48 (by
          have := h.1
          rw [H0.out] at this
          rw [this]; rfl)
        clear h48
        go_enter Tryd.func57, Tryd.ntmps57
        go_wp2
        go_loop [23] (fun i => ∃ k : Nat, k ≤ s.size ∧ i = .int .i64 k ∧ Hid (∀ (j : Nat) (hj : j < s.size), j < k → isDig s[j])) (fun i => s.size - (intOf i).toNat)
        case atStart => exact ⟨0, by omega, rfl, Lib.hid fun j hj h => by omega⟩
        case round =>
          obtain ⟨k, hk, rfl, hd⟩ := hrel
          by_cases hlt : k < s.size
          · by_cases hc1 : s[k].toNat < 48
            · have P : Hid (parseErr s.data.toList = 2) := Lib.hid (PB.out (.inr fun h => by have := (h _ (mem_index s k hlt)).1; omega))
              clear PB PO hd
              have hc : (s[k].toNat : Int) < 48 := by omega
              go_wp2
              go_ret
              exact ⟨by rw [P.out]; rfl, rfl⟩
            · have hc : (48 : Int) ≤ (s[k].toNat : Int) := by omega
              by_cases hc2 : 57 < s[k].toNat
              · have P : Hid (parseErr s.data.toList = 2) := Lib.hid (PB.out (.inr fun h => by have := (h _ (mem_index s k hlt)).2; omega))
                clear PB PO hd
                have hc' : (57 : Int) < (s[k].toNat : Int) := by omega
                go_wp2
                go_ret
                exact ⟨by rw [P.out]; rfl, rfl⟩
              · have R : Hid (∀ (j : Nat) (hj : j < s.size), j < k + 1 → isDig s[j]) := Lib.hid fun j hj h => by
                  rcases Nat.lt_or_ge j k with h1 | h1
                  · exact hd.out j hj h1
                  · obtain rfl : j = k := by omega
                    exact ⟨by omega, by omega⟩
                have hc' : (s[k].toNat : Int) ≤ 57 := by omega
                clear hd
                go_wp2
                go_round
                case rel => exact ⟨k + 1, by omega, by go_num, R⟩
                case measure => simp [intOf]; omega
          · have P : Hid (parseErr s.data.toList = 0) := Lib.hid (PO.out N0.out (all_of_index s isDig fun j hj => hd.out j hj (by omega)))
            clear PB PO hd
            go_wp2
            go_ret
            exact ⟨by rw [P.out]; rfl, rfl⟩
end Go.Proofs.YtbjkkiehpfnogaaDoor
