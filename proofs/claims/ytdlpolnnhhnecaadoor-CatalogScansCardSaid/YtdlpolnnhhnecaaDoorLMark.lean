/- Marks: no claim of its own. -/
import Derived.Test.YtdlpolnnhhnecaaDoorLChar
namespace Go.Proofs.YtdlpolnnhhnecaaDoor
open Go.RowKit
set_option maxRecDepth 100000 in
set_option maxHeartbeats 1000000 in
theorem isMark_yes (n : Nat) (h : markN n = true) (w : World) : Calls Tryd.prog 70 #[.int .i32 n] w (Says true w) := by
  rcases markN_yes.1 h with rfl | rfl | rfl | rfl | rfl | rfl | rfl | rfl | rfl | rfl
  all_goals
    clear h
    go_enter Tryd.func70, Tryd.ntmps70
    go_wp2
    go_ret
    exact ⟨rfl, rfl⟩
set_option maxRecDepth 100000 in
set_option maxHeartbeats 1000000 in
theorem isMark_no (n : Nat) (h : markN n = false) (w : World) : Calls Tryd.prog 70 #[.int .i32 n] w (Says false w) := by
  have hn : ¬ (n = 123 ∨ n = 125 ∨ n = 40 ∨ n = 41 ∨ n = 58 ∨ n = 44 ∨ n = 64 ∨ n = 43 ∨ n = 45 ∨ n = 61) := fun h' => by rw [markN_yes.2 h'] at h; cases h
  have f1 : ((n : Int) == 123) = false := beq_eq_false_iff_ne.2 (by omega)
  have f2 : ((n : Int) == 125) = false := beq_eq_false_iff_ne.2 (by omega)
  have f3 : ((n : Int) == 40) = false := beq_eq_false_iff_ne.2 (by omega)
  have f4 : ((n : Int) == 41) = false := beq_eq_false_iff_ne.2 (by omega)
  have f5 : ((n : Int) == 58) = false := beq_eq_false_iff_ne.2 (by omega)
  have f6 : ((n : Int) == 44) = false := beq_eq_false_iff_ne.2 (by omega)
  have f7 : ((n : Int) == 64) = false := beq_eq_false_iff_ne.2 (by omega)
  have f8 : ((n : Int) == 43) = false := beq_eq_false_iff_ne.2 (by omega)
  have f9 : ((n : Int) == 45) = false := beq_eq_false_iff_ne.2 (by omega)
  have f10 : ((n : Int) == 61) = false := beq_eq_false_iff_ne.2 (by omega)
  clear hn h
  go_enter Tryd.func70, Tryd.ntmps70
  go_wp2
  go_ret
  exact ⟨rfl, rfl⟩
theorem isMark_any (n : Nat) (w : World) : Calls Tryd.prog 70 #[.int .i32 n] w (Says (markN n) w) := by
  cases h : markN n with
  | true => exact isMark_yes n h w
  | false => exact isMark_no n h w
def marksB : ByteArray := ⟨#[123, 125, 40, 41, 58, 44, 64, 43, 45, 61]⟩
theorem marksB_size : marksB.size = 10 := rfl
theorem marks_at (k : Nat) (h : k < marksB.size) : markN (marksB[k]).toNat = true := by
  have : k < 10 := h
  match k, this with
  | 0, _ => rfl
  | 1, _ => rfl
  | 2, _ => rfl
  | 3, _ => rfl
  | 4, _ => rfl
  | 5, _ => rfl
  | 6, _ => rfl
  | 7, _ => rfl
  | 8, _ => rfl
  | 9, _ => rfl
theorem marks_all (n : Nat) (h : ∀ k (hk : k < marksB.size), (marksB[k]).toNat ≠ n) : markN n = false := by
  cases e : markN n with
  | false => rfl
  | true =>
    exfalso
    rcases markN_yes.1 e with rfl | rfl | rfl | rfl | rfl | rfl | rfl | rfl | rfl | rfl
    · exact h 0 (by decide) rfl
    · exact h 1 (by decide) rfl
    · exact h 2 (by decide) rfl
    · exact h 3 (by decide) rfl
    · exact h 4 (by decide) rfl
    · exact h 5 (by decide) rfl
    · exact h 6 (by decide) rfl
    · exact h 7 (by decide) rfl
    · exact h 8 (by decide) rfl
    · exact h 9 (by decide) rfl
set_option maxRecDepth 100000 in
set_option maxHeartbeats 1000000 in
theorem mark_any (n : Nat) (w : World) : Calls Tryd.prog 73 #[.int .u8 n] w (Says (markN n) w) := by
  obtain ⟨m, hm⟩ : ∃ m, m = marksB := ⟨_, rfl⟩
  have ALL : Hid ((∀ k (hk : k < m.size), (m[k]).toNat ≠ n) → markN n = false) := Lib.hid (by rw [hm]; exact marks_all n)
  have AT : Hid (∀ k (h : k < m.size), markN (m[k]).toNat = true) := Lib.hid (by rw [hm]; exact marks_at)
  have hsz : m.size ≤ 10 := by rw [hm]; exact Nat.le_of_eq marksB_size
  have HM := Lib.hid hm
  clear hm
  go_enter Tryd.func73, Tryd.ntmps73
  go_wp2
  rw [show (⟨#[123, 125, 40, 41, 58, 44, 64, 43, 45, 61]⟩ : ByteArray) = m from HM.out.symm]
  clear HM
  go_loop [4] (fun i => ∃ k : Nat, k ≤ m.size ∧ i = .int .i64 k ∧ Hid (∀ j (hj : j < m.size), j < k → (m[j]).toNat ≠ n)) (fun i => m.size - (intOf i).toNat)
  case atStart => exact ⟨0, by omega, rfl, Lib.hid fun j hj h => by omega⟩
  case round =>
    obtain ⟨k, hk, rfl, hi⟩ := hrel
    by_cases hlt : k < m.size
    · by_cases he : (m[k]).toNat = n
      · have E : Hid (markN n = true) := Lib.hid (by rw [← he]; exact AT.out k hlt)
        have hb : (((m[k]).toNat : Int) == (n : Int)) = true := by rw [he]; simp
        clear ALL AT hi he
        go_wp2
        go_ret
        exact ⟨by rw [E.out]; rfl, rfl⟩
      · have hb : (((m[k]).toNat : Int) == (n : Int)) = false := beq_eq_false_iff_ne.2 (by omega)
        have I : Hid (∀ j (hj : j < m.size), j < k + 1 → (m[j]).toNat ≠ n) := Lib.hid fun j hj hlt' => by
          rcases Nat.lt_or_ge j k with h | h
          · exact hi.out j hj h
          · have : j = k := by omega
            subst this; exact he
        clear hi he
        go_wp2
        go_round
        case rel => exact ⟨k + 1, by omega, by go_num, I⟩
        case measure => simp [intOf]; omega
    · have E : Hid (markN n = false) := Lib.hid (ALL.out fun j hj => hi.out j hj (by omega))
      clear ALL AT hi
      go_wp2
      go_ret
      exact ⟨by rw [E.out]; rfl, rfl⟩
end Go.Proofs.YtdlpolnnhhnecaaDoor
