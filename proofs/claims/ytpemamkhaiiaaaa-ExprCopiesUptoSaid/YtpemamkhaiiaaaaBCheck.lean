/- Check: no claim of its own. -/
import Derived.Test.YtpemamkhaiiaaaaBBase
namespace Go.Proofs.Ytpemamkhaiiaaaa
open Go.RowKit
/-- What Check answers. -/
def chk (b : List Int) : Int := if MB.okB b then 0 else 4
/-- A quantity out of range. -/
def badQ (q : Int) : Bool := !(decide (0 ≤ q) && decide (q ≤ 4))
theorem bad_at (b : List Int) (k : Nat) (hk : k < b.length) (h : MB.at_ b k < 0 ∨ 4 < MB.at_ b k) : chk b = 4 := by
  unfold chk
  rw [if_neg]
  intro hb
  unfold MB.okB at hb
  rw [List.all_eq_true] at hb
  have := hb (MB.at_ b k) (by unfold MB.at_; rw [List.getD_eq_getElem?_getD, List.getElem?_eq_getElem hk]; exact List.getElem_mem hk)
  simp at this
  omega
theorem ok_all (b : List Int) (h : ∀ k, k < b.length → 0 ≤ MB.at_ b k ∧ MB.at_ b k ≤ 4) : chk b = 0 := by
  unfold chk
  rw [if_pos]
  unfold MB.okB
  rw [List.all_eq_true]
  intro q hq
  obtain ⟨k, hk, rfl⟩ := List.getElem_of_mem hq
  have := h k hk
  unfold MB.at_ at this
  rw [List.getD_eq_getElem?_getD, List.getElem?_eq_getElem hk] at this
  simp at this
  simp [this]
theorem ret_int {k : IntKind} {a b : Int} (h : a = b) : Ending.returned (.int k a) = .returned (.int k b) := by rw [h]
set_option maxRecDepth 100000 in
set_option maxHeartbeats 1000000 in
theorem bcheck_any (a b c d e f : Int) (w : World) : Calls Try.prog 37 #[.agg #[.int .i64 a, .int .i64 b, .int .i64 c, .int .i64 d, .int .i64 e, .int .i64 f]] w (Gives (.int .i64 (chk [a, b, c, d, e, f])) w) := by
  obtain ⟨xs, hxs⟩ : ∃ xs, [a, b, c, d, e, f] = xs := ⟨_, rfl⟩
  have hl : xs.length = 6 := by rw [← hxs]; rfl
  have hi : ∀ (k : Nat), k < 6 → ∀ w : World, (Instr.index 23 (.agg #[.int .i64 a, .int .i64 b, .int .i64 c, .int .i64 d, .int .i64 e, .int .i64 f]) (.int .i64 k)).run Try.prog w = .ok (.int .i64 (MB.at_ xs k)) w :=
    fun k hk w => by rw [← hxs]; exact index_lit a b c d e f k hk w
  have HX := Lib.hid hxs
  have HI := Lib.hid hi
  have HL := Lib.hid hl
  clear hi hxs hl
  go_enter Try.func37, Try.ntmps37
  go_wp2
  go_loop [4, 6] (fun _ i => ∃ k : Nat, k ≤ 6 ∧ i = .int .i64 k ∧ ∀ j, j < k → 0 ≤ MB.at_ xs j ∧ MB.at_ xs j ≤ 4) (fun _ i => 6 - (intOf i).toNat)
  case atStart => exact ⟨0, Nat.zero_le _, rfl, fun j hj => absurd hj (Nat.not_lt_zero _)⟩
  case round =>
    obtain ⟨k, hk, rfl, hall⟩ := hrel
    have HA := Lib.hid hall
    clear hall
    by_cases hlt : k < 6
    · have i0 := HI.out k hlt
      by_cases hb : 0 ≤ MB.at_ xs k ∧ MB.at_ xs k ≤ 4
      · obtain ⟨h1, h2⟩ := hb
        go_wp2
        go_round
        case rel => exact ⟨k + 1, by omega, by go_num, fun j hj => by
          rcases Nat.lt_or_ge j k with g | g
          · exact HA.out j g
          · have : j = k := by omega
            subst this; exact ⟨h1, h2⟩⟩
        case measure => simp [intOf]; omega
      · have hb' := Lib.hid hb
        by_cases h1 : MB.at_ xs k < 0
        · clear hb
          go_wp2
          go_ret
          exact ⟨ret_int (by rw [HX.out]; exact (bad_at xs k (by rw [HL.out]; exact hlt) (.inl h1)).symm), below_new _ _⟩
        · have h2 : 4 < MB.at_ xs k := by omega
          clear hb
          go_wp2
          go_ret
          exact ⟨ret_int (by rw [HX.out]; exact (bad_at xs k (by rw [HL.out]; exact hlt) (.inr h2)).symm), below_new _ _⟩
    · go_wp2
      go_ret
      exact ⟨ret_int (by rw [HX.out]; exact (ok_all xs fun j hj => HA.out j (by have := HL.out; omega)).symm), below_new _ _⟩
end Go.Proofs.Ytpemamkhaiiaaaa
