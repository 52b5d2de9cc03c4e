/- The sets in order, and a set's members in order. No claim of its own. -/
import Derived.Test.YtooeafpcbejpdaaMathR3
namespace Go.Proofs.Ytooeafpcbejpdaa.MR
def setsP (k : Nat) : List Int := (List.range k).map Int.ofNat
theorem setsP_succ (k : Nat) : setsP k ++ [(k : Int)] = setsP (k + 1) := by
  unfold setsP; rw [List.range_succ, List.map_append]; rfl
theorem setsP_len (k : Nat) : (setsP k).length = k := by unfold setsP; simp
theorem setsP_pre {k n : Nat} (h : k ≤ n) : setsP k <+: setsP n := by
  induction n with
  | zero => obtain rfl : k = 0 := by omega
            exact List.prefix_refl _
  | succ n ih =>
    rcases Nat.lt_or_ge k (n + 1) with g | g
    · exact (ih (by omega)).trans ⟨[(n : Int)], setsP_succ n⟩
    · obtain rfl : k = n + 1 := by omega
      exact List.prefix_refl _
theorem setsP_take {k n : Nat} (h : k ≤ n) : (setsP n).take k = setsP k := by
  obtain ⟨t, ht⟩ := setsP_pre h
  rw [← ht, List.take_left' (setsP_len k)]
theorem pre_setsP {pre : List Int} {n : Nat} (h : pre <+: setsP n) : pre = setsP pre.length ∧ pre.length ≤ n := by
  have h2 := h.length_le
  rw [setsP_len] at h2
  have h3 := List.prefix_iff_eq_take.1 h
  exact ⟨h3.trans (setsP_take h2), h2⟩
theorem setsP_next {pre : List Int} {x : Int} {n : Nat} (h : (pre ++ [x]) <+: setsP n) : x = (pre.length : Int) ∧ pre.length < n := by
  obtain ⟨h1, h2⟩ := pre_setsP h
  rw [List.length_append, List.length_singleton] at h1 h2
  rw [← setsP_succ] at h1
  have h3 := pre_setsP ((List.prefix_append pre [x]).trans h)
  rw [← h3.1] at h1
  have := List.append_cancel_left h1
  exact ⟨by injection this, by omega⟩
theorem setsP_fine (k : Nat) (hk : k ≤ 9223372036854775807) : ∀ x ∈ setsP k, -9223372036854775808 ≤ x ∧ x ≤ 9223372036854775807 := by
  intro x hx
  obtain ⟨j, hj, rfl⟩ := List.mem_map.1 hx
  have := List.mem_range.1 hj
  constructor
  · exact Int.le_trans (by decide) (Int.natCast_nonneg j)
  · show (j : Int) ≤ _
    omega
theorem setsL_in {n : Nat} (h : n ≤ 8) : setsL (n : Int) = setsP (2 ^ n) := by
  unfold setsL setsP
  rw [if_pos ⟨by omega, by omega⟩, Int.toNat_natCast]
theorem setsL_out {n : Int} (h : ¬ (0 ≤ n ∧ n ≤ 8)) : setsL n = [] := if_neg h
/-- All of Sets' lists are beginnings of the greatest. -/
theorem setsL_P (n : Int) : ∃ k, k ≤ 256 ∧ setsL n = setsP k := by
  by_cases h : 0 ≤ n ∧ n ≤ 8
  · obtain ⟨N, rfl⟩ := Int.eq_ofNat_of_zero_le h.1
    have hN : N ≤ 8 := by omega
    refine ⟨2 ^ N, ?_, setsL_in hN⟩
    calc 2 ^ N ≤ 2 ^ 8 := Nat.pow_le_pow_right (by decide) hN
      _ = 256 := by decide
  · exact ⟨0, by decide, setsL_out h⟩
/-- The members among the first k. -/
def elemsK (m : Int) : Nat → List Int
  | 0 => []
  | k + 1 => if has m k then elemsK m k ++ [(k : Int)] else elemsK m k
theorem elemsK_yes {m : Int} {k : Nat} (h : has m k = true) : elemsK m k ++ [(k : Int)] = elemsK m (k + 1) := by rw [elemsK, if_pos h]
theorem elemsK_no {m : Int} {k : Nat} (h : has m k = false) : elemsK m (k + 1) = elemsK m k := by rw [elemsK, if_neg (by rw [h]; decide)]
theorem elemsK_pre (m : Int) {k n : Nat} (h : k ≤ n) : elemsK m k <+: elemsK m n := by
  induction n with
  | zero => obtain rfl : k = 0 := by omega
            exact List.prefix_refl _
  | succ n ih =>
    rcases Nat.lt_or_ge k (n + 1) with g | g
    · refine (ih (by omega)).trans ?_
      rw [elemsK]
      split
      · exact List.prefix_append _ _
      · exact List.prefix_refl _
    · obtain rfl : k = n + 1 := by omega
      exact List.prefix_refl _
end Go.Proofs.Ytooeafpcbejpdaa.MR
