/- The contract of natural.trim: no claim of its own. -/
import Derived.Test.YtbjkkiehpfnogaaDoorWords
namespace Go.Proofs.YtbjkkiehpfnogaaDoor
open Go.RowKit
/-- What trim hands back of a list: its first k digits, the last of them not 0. -/
def Trims (A : Option Addr) (xs : List Nat) (w : World) (e : Ending) (w' : World) : Prop :=
  ∃ k, k ≤ xs.length ∧ e = .returned (.slice A k k) ∧ Tight (xs.take k) ∧ dval (xs.take k) = dval xs ∧ w = w'
theorem tight_take (xs : List Nat) (k : Nat) (hk : k ≤ xs.length) (h : 0 < k → xs.getD (k - 1) 0 ≠ 0) : Tight (xs.take k) := by
  rcases Nat.eq_zero_or_pos k with h0 | h0
  · left; simp [h0]
  · right
    rw [List.length_take, Nat.min_eq_left hk]
    have := h h0
    rw [List.getD_eq_getElem?_getD] at this ⊢
    rwa [List.getElem?_take_of_lt (by omega)]
set_option maxHeartbeats 400000 in
theorem trim_any (A : Option Addr) (n c : Nat) (xs : List Nat) (w : World) (h : Lst w A n c xs) :
    Calls Tryd.prog 38 #[.slice A n c] w (Trims A xs w) := by
  have hc := h.cap
  have hm := h.room
  have H := Lib.hid h
  clear h
  go_enter Tryd.func38, Tryd.ntmps38
  go_wp2
  go_loop [3] (fun i => ∃ k : Nat, k ≤ n ∧ i = .int .i64 k ∧ Hid (∀ j, k ≤ j → xs.getD j 0 = 0)) (fun i => (intOf i).toNat)
  case atStart => exact ⟨n, Nat.le_refl _, rfl, Lib.hid fun j hj => by rw [List.getD_eq_getElem?_getD, List.getElem?_eq_none (by have := H.out.len; omega)]; rfl⟩
  case round =>
    obtain ⟨k, hk, rfl, hz⟩ := hrel
    have fin : (0 < k → xs.getD (k - 1) 0 ≠ 0) → Trims A xs w (.returned (.slice A k k)) w := fun h =>
      ⟨k, by rw [H.out.len]; exact hk, rfl, tight_take xs k (by rw [H.out.len]; exact hk) h, dval_take xs k hz.out, rfl⟩
    by_cases h0 : 0 < k
    · obtain ⟨ad, rfl, hb, hcell⟩ := H.out.at_ (k := k - 1) (by omega)
      by_cases hd : xs.getD (k - 1) 0 = 0
      · rw [hd] at hcell
        have HD := Lib.hid hd
        have FIN := Lib.hid fin
        clear hd fin
        go_wp2
        go_round
        case rel => exact ⟨k - 1, by omega, by go_num, Lib.hid fun j hj => by
          rcases Nat.lt_or_ge j k with h1 | h1
          · rw [show j = k - 1 by omega]; exact HD.out
          · exact hz.out j h1⟩
        case measure => simp [intOf]; omega
      · have f1 := fin fun _ => hd
        have F1 := Lib.hid f1
        clear f1 fin
        generalize xs.getD (k - 1) 0 = d at hcell hd
        have hne : ((d : Int) == 0) = false := by simpa using hd
        clear hd
        go_wp2
        go_ret
        exact F1.out
    · have f1 := fin fun h => absurd h h0
      have F1 := Lib.hid f1
      clear f1 fin
      have hk0 : ¬ (0 : Int) < (k : Int) := by omega
      go_wp2
      go_ret
      exact F1.out
end Go.Proofs.YtbjkkiehpfnogaaDoor
