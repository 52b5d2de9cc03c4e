/- Plain mathematics of digits in base 2^32, more: no program, no claim of its own. -/
import Derived.Test.YtbjkkiehpfnogaaDoorMath
namespace Go.Proofs.YtbjkkiehpfnogaaDoor
theorem dval_set (xs : List Nat) (k d : Nat) (h : k < xs.length) : dval (xs.set k d) + 4294967296 ^ k * xs.getD k 0 = dval xs + 4294967296 ^ k * d := by
  induction xs generalizing k with
  | nil => simp at h
  | cons x xs ih =>
    rcases k with _ | k
    · simp [dval]; omega
    · have := ih k (by simpa using h)
      simp only [List.set_cons_succ, dval, List.getD_cons_succ, Nat.pow_succ]
      grind
theorem dval_take_succ (xs : List Nat) (k : Nat) (h : k < xs.length) : dval (xs.take (k + 1)) = dval (xs.take k) + 4294967296 ^ k * xs.getD k 0 := by
  rw [List.take_succ_eq_append_getElem h, dval_append, List.length_take, Nat.min_eq_left (by omega), List.getD_eq_getElem?_getD, List.getElem?_eq_getElem h]
  simp [dval]
theorem dval_take_succ' (xs : List Nat) (k : Nat) : dval (xs.take (k + 1)) = dval (xs.take k) + 4294967296 ^ k * xs.getD k 0 := by
  rcases Nat.lt_or_ge k xs.length with h | h
  · exact dval_take_succ xs k h
  · rw [List.take_of_length_le (by omega), List.take_of_length_le h, List.getD_eq_getElem?_getD, List.getElem?_eq_none h]; simp
theorem carry_none' (P M a b c v : Nat) (hM : 2 ≤ M) (ha : a < P) (hb : b < P) (h : v + P * M * c = a + b) : v = a + b := by
  rcases c with _ | c
  · rw [Nat.mul_zero] at h; exact h
  · have h1 : P * 2 ≤ P * M := Nat.mul_le_mul_left _ hM
    have h2 : P * M * 1 ≤ P * M * (c + 1) := Nat.mul_le_mul_left _ (by omega)
    rw [Nat.mul_one] at h2
    generalize P * M * (c + 1) = X at *
    generalize P * M = Y at *
    omega
theorem carry_none (P a b c v : Nat) (ha : a < P) (hb : b < P) (h : v + P * 4294967296 * c = a + b) : v = a + b :=
  carry_none' P 4294967296 a b c v (by omega) ha hb h
theorem no_carry (Q T c v : Nat) (hT : T < Q) (h : v + Q * c = T) : v = T := by
  rcases c with _ | c
  · rw [Nat.mul_zero] at h; exact h
  · have h2 : Q * 1 ≤ Q * (c + 1) := Nat.mul_le_mul_left _ (by omega)
    rw [Nat.mul_one] at h2
    generalize Q * (c + 1) = X at *
    omega
theorem len_le {xs : List Nat} {k : Nat} (ht : Tight xs) (h : dval xs < 4294967296 ^ k) : xs.length ≤ k := by
  rcases Nat.lt_or_ge k xs.length with hk | hk
  · have h1 := dval_pos xs (by omega) ht
    have h2 : 4294967296 ^ k ≤ 4294967296 ^ (xs.length - 1) := Nat.pow_le_pow_right (by decide) (by omega)
    omega
  · exact hk
theorem getD_lt_of {xs : List Nat} (h : ∀ d ∈ xs, d < 4294967296) (k : Nat) : xs.getD k 0 < 4294967296 := by
  rcases Nat.lt_or_ge k xs.length with hk | hk
  · rw [List.getD_eq_getElem?_getD, List.getElem?_eq_getElem hk]; exact h _ (List.getElem_mem hk)
  · rw [List.getD_eq_getElem?_getD, List.getElem?_eq_none hk]; decide
theorem lt_set {xs : List Nat} (h : ∀ d ∈ xs, d < 4294967296) (k d : Nat) (hd : d < 4294967296) : ∀ x ∈ xs.set k d, x < 4294967296 := fun x hx => by
  rcases List.mem_or_eq_of_mem_set hx with h1 | h1
  · exact h x h1
  · exact h1 ▸ hd
theorem dval_replicate (n : Nat) : dval (List.replicate n 0) = 0 := dval_zeros _ fun d hd => (List.mem_replicate.1 hd).2
theorem getD_set (xs : List Nat) (k j d : Nat) (h : k < xs.length) : (xs.set k d).getD j 0 = if k = j then d else xs.getD j 0 := by
  simp only [List.getD_eq_getElem?_getD, List.getElem?_set]
  split <;> simp_all
theorem getD_replicate (n j : Nat) : (List.replicate n 0).getD j 0 = 0 := by
  rw [List.getD_eq_getElem?_getD, List.getElem?_replicate]
  split <;> rfl
end Go.Proofs.YtbjkkiehpfnogaaDoor
