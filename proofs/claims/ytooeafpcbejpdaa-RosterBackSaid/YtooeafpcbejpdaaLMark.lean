/- Marks: no claim of its own. -/
import Derived.Test.YtooeafpcbejpdaaLChar
namespace Go.Proofs.Ytooeafpcbejpdaa
open Go.RowKit
def marksB : ByteArray := ⟨#[123, 125, 40, 41, 58, 44, 64, 43, 45, 61]⟩
theorem marksB_size : marksB.size = 10 := rfl
theorem marks_at (k : Nat) (h : k < marksB.size) : markN (marksB[k]).toNat = true := by
  have : k < 10 := h
  match k, this with
  | 0, _ => rfl
  | 1, _ => rfl
  | 2, _ => rfl
  | 3, _ => rfl
  | 4, _ => rfl
  | 5, _ => rfl
  | 6, _ => rfl
  | 7, _ => rfl
  | 8, _ => rfl
  | 9, _ => rfl
theorem marks_all (n : Nat) (h : ∀ k (hk : k < marksB.size), (marksB[k]).toNat ≠ n) : markN n = false := by
  cases e : markN n with
  | false => rfl
  | true =>
    exfalso
    rcases markN_yes.1 e with rfl | rfl | rfl | rfl | rfl | rfl | rfl | rfl | rfl | rfl
    · exact h 0 (by decide) rfl
    · exact h 1 (by decide) rfl
    · exact h 2 (by decide) rfl
    · exact h 3 (by decide) rfl
    · exact h 4 (by decide) rfl
    · exact h 5 (by decide) rfl
    · exact h 6 (by decide) rfl
    · exact h 7 (by decide) rfl
    · exact h 8 (by decide) rfl
    · exact h 9 (by decide) rfl
set_option maxRecDepth 100000 in
set_option maxHeartbeats 1000000 in
theorem mark_any (n : Nat) (w : World) : Calls Try.prog 41 #[.int .u8 n] w (Says (markN n) w) := by
  obtain ⟨m, hm⟩ : ∃ m, m = marksB := ⟨_, rfl⟩
  have ALL : Hid ((∀ k (hk : k < m.size), (m[k]).toNat ≠ n) → markN n = false) := Lib.hid (by rw [hm]; exact marks_all n)
  have AT : Hid (∀ k (h : k < m.size), markN (m[k]).toNat = true) := Lib.hid (by rw [hm]; exact marks_at)
  have hsz : m.size ≤ 10 := by rw [hm]; exact Nat.le_of_eq marksB_size
  have HM := Lib.hid hm
  clear hm
  go_enter Try.func41, Try.ntmps41
  go_wp2
  rw [show (⟨#[123, 125, 40, 41, 58, 44, 64, 43, 45, 61]⟩ : ByteArray) = m from HM.out.symm]
  clear HM
  go_loop [4] (fun i => ∃ k : Nat, k ≤ m.size ∧ i = .int .i64 k ∧ Hid (∀ j (hj : j < m.size), j < k → (m[j]).toNat ≠ n)) (fun i => m.size - (intOf i).toNat)
  case atStart => exact ⟨0, by omega, rfl, Lib.hid fun j hj h => by omega⟩
  case round =>
    obtain ⟨k, hk, rfl, hi⟩ := hrel
    by_cases hlt : k < m.size
    · by_cases he : (m[k]).toNat = n
      · have E : Hid (markN n = true) := Lib.hid (by rw [← he]; exact AT.out k hlt)
        have hb : (((m[k]).toNat : Int) == (n : Int)) = true := by rw [he]; simp
        clear ALL AT hi he
        go_wp2
        go_ret
        exact ⟨by rw [E.out]; rfl, rfl⟩
      · have hb : (((m[k]).toNat : Int) == (n : Int)) = false := beq_eq_false_iff_ne.2 (by omega)
        have I : Hid (∀ j (hj : j < m.size), j < k + 1 → (m[j]).toNat ≠ n) := Lib.hid fun j hj hlt' => by
          rcases Nat.lt_or_ge j k with h | h
          · exact hi.out j hj h
          · have : j = k := by omega
            subst this; exact he
        clear hi he
        go_wp2
        go_round
        case rel => exact ⟨k + 1, by omega, by go_num, I⟩
        case measure => simp [intOf]; omega
    · have E : Hid (markN n = false) := Lib.hid (ALL.out fun j hj => hi.out j hj (by omega))
      clear ALL AT hi
      go_wp2
      go_ret
      exact ⟨by rw [E.out]; rfl, rfl⟩
end Go.Proofs.Ytooeafpcbejpdaa
