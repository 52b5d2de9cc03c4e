/- Plain mathematics of digits: order. No program, no claim of its own. -/
import Derived.Test.YtbjkkiehpfnogaaDoorMathB
namespace Go.Proofs.YtbjkkiehpfnogaaDoor
theorem dval_uncons (xs : List Nat) : dval xs = xs.getD 0 0 + 4294967296 * dval xs.tail := by
  cases xs <;> simp [dval]
theorem getD_tail (xs : List Nat) (j : Nat) : xs.tail.getD j 0 = xs.getD (j + 1) 0 := by
  cases xs <;> simp
theorem dval_ext (xs ys : List Nat) (h : ∀ j, xs.getD j 0 = ys.getD j 0) : dval xs = dval ys := by
  induction xs generalizing ys with
  | nil =>
    rw [dval_zeros ys fun d hd => by
      obtain ⟨i, hi, rfl⟩ := List.mem_iff_getElem.1 hd
      have := h i
      simpa [hi] using this.symm]
    rfl
  | cons x xs ih =>
    have h0 := h 0
    have := ih ys.tail fun j => by rw [getD_tail]; have := h (j + 1); simpa using this
    rw [dval_uncons ys, ← this, ← h0]
    simp [dval]
theorem cmp_lt (xs ys : List Nat) (k : Nat) (hx : ∀ j, xs.getD j 0 < 4294967296) (h : ∀ j, k + 1 ≤ j → xs.getD j 0 = ys.getD j 0) (hk : xs.getD k 0 < ys.getD k 0) : dval xs < dval ys := by
  induction k generalizing xs ys with
  | zero =>
    rw [dval_uncons xs, dval_uncons ys, dval_ext xs.tail ys.tail fun j => by rw [getD_tail, getD_tail]; exact h (j + 1) (by omega)]
    omega
  | succ k ih =>
    have := ih xs.tail ys.tail (fun j => by rw [getD_tail]; exact hx _) (fun j hj => by rw [getD_tail, getD_tail]; exact h _ (by omega)) (by rw [getD_tail, getD_tail]; exact hk)
    have := hx 0
    rw [dval_uncons xs, dval_uncons ys]
    omega
theorem len_lt (xs ys : List Nat) (hx : ∀ d ∈ xs, d < 4294967296) (ht : Tight ys) (h : xs.length < ys.length) : dval xs < dval ys := by
  have h1 := dval_lt xs hx
  have h2 := dval_pos ys (by omega) ht
  have h3 : 4294967296 ^ xs.length ≤ 4294967296 ^ (ys.length - 1) := Nat.pow_le_pow_right (by decide) (by omega)
  omega
def cmpI (a b : Nat) : Int := if a < b then -1 else if b < a then 1 else 0
theorem cmpI_lt {a b : Nat} (h : a < b) : cmpI a b = -1 := by simp [cmpI, h]
theorem cmpI_gt {a b : Nat} (h : b < a) : cmpI a b = 1 := by unfold cmpI; rw [if_neg (by omega), if_pos h]
theorem cmpI_eq {a b : Nat} (h : a = b) : cmpI a b = 0 := by subst h; simp [cmpI]
theorem small_iff (xs : List Nat) (hx : ∀ d ∈ xs, d < 4294967296) (ht : Tight xs) : xs.length ≤ 2 ↔ dval xs < 18446744073709551616 := by
  constructor
  · intro h
    have h1 := dval_lt xs hx
    have h3 : 4294967296 ^ xs.length ≤ 4294967296 ^ 2 := Nat.pow_le_pow_right (by decide) h
    omega
  · intro h
    rcases Nat.lt_or_ge 2 xs.length with h2 | h2
    · have h2 := dval_pos xs (by omega) ht
      have h3 : 4294967296 ^ 2 ≤ 4294967296 ^ (xs.length - 1) := Nat.pow_le_pow_right (by decide) (by omega)
      omega
    · exact h2
end Go.Proofs.YtbjkkiehpfnogaaDoor
