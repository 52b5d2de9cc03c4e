/- The reference's Rank and Unrank: no claim of its own. -/
import Derived.Test.YtbnillkihmooeaaBList
import Derived.Test.YtbnillkihmooeaaBUnr
import Derived.Test.YtbnillkihmooeaaBEq
namespace Go.Proofs.Ytbnillkihmooeaa
open Go.RowKit
theorem okB_of {b : List Int} (h : ∀ k, k < b.length → 0 ≤ MB.at_ b k ∧ MB.at_ b k ≤ 4) : MB.okB b = true := by
  cases g : MB.okB b
  · have := ok_all b h
    rw [chk_no g] at this
    omega
  · rfl
theorem row_six {s : List Int} {n k : Nat} {r : List Int} (h : (MB.row s 6 n)[k]? = some r) : k < n ∧ MB.D s 6 k = r := by
  have hk : k < n := by
    rcases Nat.lt_or_ge k n with g | g
    · exact g
    · rw [List.getElem?_eq_none (by rw [MB.row_length]; exact g)] at h; cases h
  rw [MB.row_at hk] at h
  injection h with h
  rw [MB.pad_full (MB.D_length _ _ _)] at h
  exact ⟨hk, h⟩
theorem row_six' {s : List Int} {n k : Nat} (h : k < n) : (MB.row s 6 n)[k]? = some (MB.D s 6 k) := by
  rw [MB.row_at h, MB.pad_full (MB.D_length _ _ _)]
theorem list_yes' {s : List Int} (h : MB.okB s = true ∧ MB.P s 6 ≤ 1024) : listB s = MB.row s 6 (MB.P s 6) := by unfold listB; rw [if_pos h.1, if_pos h.2]
theorem list_no' {s : List Int} (h : ¬ (MB.okB s = true ∧ MB.P s 6 ≤ 1024)) : listB s = [] := by
  unfold listB
  split
  · next h1 => rw [if_neg (fun h2 => h ⟨h1, h2⟩)]
  · rfl
theorem digits_ok {s : List Int} (hs : MB.okB s = true) (hl : s.length = 6) (k : Nat) : MB.okB (MB.D s 6 k) = true ∧ MB.withinB (MB.D s 6 k) s 6 = true := by
  have h : ∀ j, j < 6 → 0 ≤ MB.at_ (MB.D s 6 k) j ∧ MB.at_ (MB.D s 6 k) j ≤ MB.at_ s j ∧ MB.at_ s j ≤ 4 := fun j hj => by
    have h1 := MB.D_within s 6 k j hj
    have h2 := okB_at hs (k := j) (by omega)
    omega
  refine ⟨okB_of fun j hj => ?_, (MB.withinB_iff _ _ 6).2 fun j hj => (h j hj).2.1⟩
  rw [MB.D_length] at hj
  have := h j hj
  omega
theorem list_hit {s b : List Int} {k : Nat} (hl : s.length = 6) (h : (listB s)[k]? = some b) : rankOk s b = true ∧ MB.R s b 6 = k := by
  by_cases hs : MB.okB s = true ∧ MB.P s 6 ≤ 1024
  · rw [list_yes' hs] at h
    obtain ⟨hk, rfl⟩ := row_six h
    exact ⟨(rankOk_iff _ _).2 ⟨hs, digits_ok hs.1 hl k⟩, MB.R_D s 6 k hk⟩
  · rw [list_no' hs] at h
    simp at h
theorem rank_digits {s b : List Int} (_hl : s.length = 6) (hb : b.length = 6) (h : rankOk s b = true) : MB.R s b 6 < MB.P s 6 ∧ MB.D s 6 (MB.R s b 6) = b := by
  obtain ⟨hs, ho, hw⟩ := (rankOk_iff _ _).1 h
  have h1 : ∀ j, j < 6 → 0 ≤ MB.at_ b j ∧ (MB.at_ b j).toNat ≤ (MB.at_ s j).toNat := fun j hj => by
    have x1 := (MB.withinB_iff b s 6).1 hw j hj
    have x2 := okB_at ho (k := j) (by omega)
    omega
  exact ⟨MB.R_lt s b 6 fun j hj => (h1 j hj).2, MB.ext6 (MB.D_length _ _ _) hb (MB.D_R s b 6 h1)⟩
theorem list_miss {s b : List Int} (hl : s.length = 6) (hb : b.length = 6) (h : ∀ j, j < (listB s).length → (listB s)[j]? ≠ some b) : rankOk s b = false := by
  rw [Bool.eq_false_iff]
  intro g
  obtain ⟨h1, h2⟩ := rank_digits hl hb g
  have hs := ((rankOk_iff _ _).1 g).1
  rw [list_yes' hs] at h
  exact h _ (by rw [MB.row_length]; exact h1) (by rw [row_six' h1, h2])
theorem list_few (s : List Int) : (listB s).length ≤ 1024 := by
  by_cases hs : MB.okB s = true ∧ MB.P s 6 ≤ 1024
  · rw [list_yes' hs, MB.row_length]; exact hs.2
  · rw [list_no' hs]; exact Nat.zero_le _
theorem run_eq_lit (a b c d e f a' b' c' d' e' f' : Int) (w : World) : (Op.equalIn 10000 23 (.agg #[.int .i64 a, .int .i64 b, .int .i64 c, .int .i64 d, .int .i64 e, .int .i64 f]) (.agg #[.int .i64 a', .int .i64 b', .int .i64 c', .int .i64 d', .int .i64 e', .int .i64 f'])).run Try.prog w = .ok (decide ([a, b, c, d, e, f] = [a', b', c', d', e', f'])) w := run_same [a, b, c, d, e, f] [a', b', c', d', e', f'] rfl rfl w
theorem unr_len {s : List Int} {n : Int} (h : n < 0 ∨ (listB s).length ≤ n.toNat) : unrOk s n = false := by
  rw [Bool.eq_false_iff]
  intro g
  obtain ⟨hs, h0, h1⟩ := (unrOk_iff _ _).1 g
  rw [list_yes' hs, MB.row_length] at h
  omega
theorem unr_hit {s r : List Int} {n : Nat} (h : (listB s)[n]? = some r) : unrOk s n = true ∧ r = MB.D s 6 n := by
  by_cases hs : MB.okB s = true ∧ MB.P s 6 ≤ 1024
  · rw [list_yes' hs] at h
    obtain ⟨hk, rfl⟩ := row_six h
    exact ⟨(unrOk_iff _ _).2 ⟨hs, by omega, by omega⟩, rfl⟩
  · rw [list_no' hs] at h
    simp at h
end Go.Proofs.Ytbnillkihmooeaa
