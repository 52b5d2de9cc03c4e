/- The names of a set's members, as they are met. No claim of its own. -/
import Derived.Test.YtooeafpcbejpdaaMathR4
namespace Go.Proofs.Ytooeafpcbejpdaa.MR
def nmF (l : List Bd) (pre : List Int) : List (List UInt8) := pre.flatMap fun i => (l[i.toNat]?.map (·.name)).toList
theorem nmF_append (l : List Bd) (a b : List Int) : nmF l (a ++ b) = nmF l a ++ nmF l b := by unfold nmF; rw [List.flatMap_append]
theorem nmF_one (l : List Bd) (x : Int) : nmF l [x] = (l[x.toNat]?.map (·.name)).toList := by simp [nmF]
theorem nmF_len (l : List Bd) : ∀ pre : List Int, (nmF l pre).length ≤ pre.length
  | [] => Nat.le_refl _
  | x :: r => by
    have h := nmF_len l r
    have e : nmF l (x :: r) = (l[x.toNat]?.map (·.name)).toList ++ nmF l r := rfl
    rw [e, List.length_append, List.length_cons]
    cases l[x.toNat]? <;> simp <;> omega
theorem nmF_none {l : List Bd} : ∀ {pre : List Int}, (∀ x ∈ pre, (l.length : Int) ≤ x) → nmF l pre = []
  | [], _ => rfl
  | x :: r, h => by
    have e : nmF l (x :: r) = (l[x.toNat]?.map (·.name)).toList ++ nmF l r := rfl
    have hx := h x (by simp)
    rw [e, nmF_none fun y hy => h y (by simp [hy]), List.getElem?_eq_none (by omega)]
    rfl
theorem elemsK_mem {m : Int} : ∀ {k : Nat} {x : Int}, x ∈ elemsK m k → ∃ j : Nat, j < k ∧ x = (j : Int)
  | 0, _, h => by cases h
  | k + 1, x, h => by
    rw [elemsK] at h
    split at h
    · rcases List.mem_append.1 h with g | g
      · obtain ⟨j, h1, h2⟩ := elemsK_mem g; exact ⟨j, by omega, h2⟩
      · exact ⟨k, by omega, List.mem_singleton.1 g⟩
    · obtain ⟨j, h1, h2⟩ := elemsK_mem h; exact ⟨j, by omega, h2⟩
theorem elemsK_len (m : Int) : ∀ k, (elemsK m k).length ≤ k
  | 0 => Nat.le_refl _
  | k + 1 => by
    have := elemsK_len m k
    rw [elemsK]
    split
    · rw [List.length_append]; simp; exact this
    · omega
theorem elemsK_sorted (m : Int) : ∀ k, (elemsK m k).Pairwise (· < ·)
  | 0 => List.Pairwise.nil
  | k + 1 => by
    rw [elemsK]
    split
    · refine List.pairwise_append.2 ⟨elemsK_sorted m k, by simp, fun a ha b hb => ?_⟩
      obtain ⟨j, h1, rfl⟩ := elemsK_mem ha
      rw [List.mem_singleton.1 hb]
      omega
    · exact elemsK_sorted m k
theorem nmF_stop {l : List Bd} {m x : Int} {k : Nat} {pre : List Int} (h : (pre ++ [x]) <+: elemsK m k) (hx : (l.length : Int) ≤ x) : nmF l (elemsK m k) = nmF l pre := by
  obtain ⟨t, ht⟩ := h
  have hs := elemsK_sorted m k
  rw [← ht, List.append_assoc] at hs ⊢
  rw [nmF_append]
  have h2 := (List.pairwise_append.1 hs).2.1
  have : nmF l ([x] ++ t) = [] := nmF_none fun y hy => by
    rcases List.mem_cons.1 hy with rfl | hy
    · exact hx
    · have := (List.pairwise_cons.1 h2).1 y hy
      omega
  rw [this, List.append_nil]
theorem nmF_all (l : List Bd) (m : Int) : ∀ k, nmF l (elemsK m k) = namesK l m (min l.length k)
  | 0 => by rw [Nat.min_zero]; rfl
  | k + 1 => by
    have ih := nmF_all l m k
    by_cases hk : k < l.length
    · rw [Nat.min_eq_right (by omega)] at ih ⊢
      rw [elemsK, namesK]
      split
      · rw [nmF_append, ih, nmF_one, Int.toNat_natCast]
      · exact ih
    · rw [Nat.min_eq_left (by omega)] at ih ⊢
      rw [elemsK]
      split
      · rw [nmF_append, ih, nmF_one, Int.toNat_natCast, List.getElem?_eq_none (by omega)]
        simp
      · exact ih
theorem nmF_8 (l : List Bd) (m : Int) : nmF l (elemsK m 8) = namesL l m := nmF_all l m 8
end Go.Proofs.Ytooeafpcbejpdaa.MR
