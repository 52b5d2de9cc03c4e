/- Totals, costs, counts: no claim of its own. -/
import Derived.Test.YtpemamkhaiiaaaaBRead
import Derived.IntWalk
namespace Go.Proofs.Ytpemamkhaiiaaaa
open Go.RowKit
def totB (b : List Int) : Nat → Int
  | 0 => 0
  | i + 1 => wrap64 (totB b i + MB.at_ b i)
def cstB (p b : List Int) : Nat → Int
  | 0 => 0
  | i + 1 => wrap64 (cstB p b i + wrap64 (MB.at_ p i * MB.at_ b i))
/-- What Count answers. -/
def cntB (s : List Int) : Int := if MB.okB s then (if MB.P s 6 ≤ 1024 then (MB.P s 6 : Int) else 0) else 0
theorem okB_at {b : List Int} (h : MB.okB b = true) {k : Nat} (hk : k < b.length) : 0 ≤ MB.at_ b k ∧ MB.at_ b k ≤ 4 := by
  unfold MB.okB at h
  rw [List.all_eq_true] at h
  have := h (MB.at_ b k) (by unfold MB.at_; rw [List.getD_eq_getElem?_getD, List.getElem?_eq_getElem hk]; exact List.getElem_mem hk)
  simp at this
  exact this
theorem P_next {s : List Int} (h : MB.okB s = true) (hl : s.length = 6) {k : Nat} (hk : k < 6) : ((MB.P s (k + 1) : Nat) : Int) = (MB.P s k : Int) * (MB.at_ s k + 1) := by
  have := okB_at h (by rw [hl]; exact hk)
  rw [MB.P]
  push_cast
  rw [Int.toNat_of_nonneg this.1]
theorem P_le {s : List Int} (h : MB.okB s = true) (hl : s.length = 6) : ∀ k, k ≤ 6 → MB.P s k ≤ 5 ^ k
  | 0, _ => Nat.le_refl _
  | k + 1, hk => by
    have h1 := P_le h hl k (by omega)
    have h2 := okB_at h (k := k) (by rw [hl]; omega)
    rw [MB.P, Nat.pow_succ]
    exact Nat.mul_le_mul h1 (by omega)
theorem P_small {s : List Int} (h : MB.okB s = true) (hl : s.length = 6) {k : Nat} (hk : k ≤ 6) : MB.P s k ≤ 15625 :=
  Nat.le_trans (P_le h hl k hk) (Nat.le_trans (Nat.pow_le_pow_right (by decide) hk) (by decide))
theorem mul_in {p p' : Nat} {y : Int} (h : (p' : Int) = p * (y + 1)) (hp : p' ≤ 15625) : Value.int .i64 (wrap64 (p * (y + 1))) = .int .i64 (p' : Int) := by
  rw [← h]
  have : wrap64 (p' : Int) = p' := by unfold wrap64; omega
  rw [this]
theorem chk_ok {b : List Int} (h : MB.okB b = true) : chk b = 0 := if_pos h
theorem chk_no {b : List Int} (h : MB.okB b = false) : chk b = 4 := if_neg (by rw [h]; exact fun k => by cases k)
set_option maxRecDepth 100000 in
set_option maxHeartbeats 1000000 in
theorem total_any (a b c d e f : Int) (w : World) : Calls Try.prog 38 #[.agg #[.int .i64 a, .int .i64 b, .int .i64 c, .int .i64 d, .int .i64 e, .int .i64 f]] w (Gives (.int .i64 (totB [a, b, c, d, e, f] 6)) w) := by
  obtain ⟨xs, hxs⟩ : ∃ xs, [a, b, c, d, e, f] = xs := ⟨_, rfl⟩
  have H1 := Lib.hid (BB.new w 23 a b c d e f)
  have hi : ∀ (k : Nat), k < 6 → ∀ w : World, (Instr.index 23 (.agg #[.int .i64 a, .int .i64 b, .int .i64 c, .int .i64 d, .int .i64 e, .int .i64 f]) (.int .i64 k)).run Try.prog w = .ok (.int .i64 (MB.at_ xs k)) w :=
    fun k hk w => by rw [← hxs]; exact index_lit a b c d e f k hk w
  have HI := Lib.hid hi
  have HX := Lib.hid hxs
  rw [hxs] at H1
  clear hxs hi
  go_enter Try.func38, Try.ntmps38
  go_wp2
  go_loop [3, 5, 7] (fun t _ i => ∃ k : Nat, k ≤ 6 ∧ i = .int .i64 k ∧ t = .int .i64 (totB xs k)) (fun _ _ i => 6 - (intOf i).toNat)
  case atStart => exact ⟨0, Nat.zero_le _, rfl, rfl⟩
  case round =>
    obtain ⟨k, hk, rfl, rfl⟩ := hrel
    by_cases hlt : k < 6
    · have i0 := HI.out k hlt
      go_wp2
      go_round
      case rel => exact ⟨k + 1, by omega, by go_num, rfl⟩
      case measure => simp [intOf]; omega
    · obtain rfl : k = 6 := by omega
      go_wp2
      go_ret
      exact ⟨ret_int (by rw [HX.out]), below_new _ _⟩
end Go.Proofs.Ytpemamkhaiiaaaa
