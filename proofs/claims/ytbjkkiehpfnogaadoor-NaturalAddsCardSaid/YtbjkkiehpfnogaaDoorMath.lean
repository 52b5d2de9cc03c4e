/- Plain mathematics of digits in base 2^32: no program, no claim of its own. -/
namespace Go.Proofs.YtbjkkiehpfnogaaDoor
/-- The value of a list of digits. -/
def dval : List Nat → Nat
  | [] => 0
  | d :: ds => d + 4294967296 * dval ds
/-- No leading (last) zero. -/
def Tight (xs : List Nat) : Prop := xs.length = 0 ∨ xs.getD (xs.length - 1) 0 ≠ 0
theorem dval_append (xs ys : List Nat) : dval (xs ++ ys) = dval xs + 4294967296 ^ xs.length * dval ys := by
  induction xs with
  | nil => simp [dval]
  | cons x xs ih => simp only [List.cons_append, dval, ih, List.length_cons, Nat.pow_succ]; rw [Nat.mul_add, ← Nat.mul_assoc, Nat.mul_comm 4294967296 (4294967296 ^ xs.length)]; omega
theorem dval_zeros (xs : List Nat) (h : ∀ d ∈ xs, d = 0) : dval xs = 0 := by
  induction xs with
  | nil => rfl
  | cons x xs ih =>
    have h1 := h x (by simp)
    have h2 := ih fun d hd => h d (by simp [hd])
    simp [dval, h1, h2]
theorem dval_take (xs : List Nat) (k : Nat) (h : ∀ j, k ≤ j → xs.getD j 0 = 0) : dval (xs.take k) = dval xs := by
  rw [← List.take_append_drop k xs, dval_append]
  have : dval (xs.drop k) = 0 := dval_zeros _ fun d hd => by
    obtain ⟨i, hi, rfl⟩ := List.mem_iff_getElem.1 hd
    have := h (k + i) (by omega)
    rw [List.length_drop] at hi
    rw [List.getD_eq_getElem?_getD, List.getElem?_eq_getElem (by omega)] at this
    simpa using this
  simp [this]
theorem dval_lt (xs : List Nat) (h : ∀ d ∈ xs, d < 4294967296) : dval xs < 4294967296 ^ xs.length := by
  induction xs with
  | nil => simp [dval]
  | cons x xs ih =>
    have h1 := h x (by simp)
    have h2 := ih fun d hd => h d (by simp [hd])
    simp only [dval, List.length_cons, Nat.pow_succ]
    omega
theorem dval_pos (xs : List Nat) (h0 : xs.length ≠ 0) (h : Tight xs) : 4294967296 ^ (xs.length - 1) ≤ dval xs := by
  induction xs with
  | nil => simp at h0
  | cons x xs ih =>
    rcases Nat.eq_zero_or_pos xs.length with hz | hp
    · have : xs = [] := List.eq_nil_of_length_eq_zero hz
      subst this
      have : x ≠ 0 := by simpa [Tight] using h
      simp [dval]; omega
    · have ht : Tight xs := by
        right
        have h' : (x :: xs).getD (xs.length + 1 - 1) 0 ≠ 0 := by simpa [Tight] using h
        rw [show xs.length + 1 - 1 = (xs.length - 1) + 1 by omega, List.getD_cons_succ] at h'
        exact h'
      have := ih (by omega) ht
      simp only [dval, List.length_cons]
      rw [show xs.length + 1 - 1 = (xs.length - 1) + 1 by omega, Nat.pow_succ]
      omega
/-- Tight lists of digits with one value are one list. -/
theorem dval_inj : ∀ (xs ys : List Nat), (∀ d ∈ xs, d < 4294967296) → (∀ d ∈ ys, d < 4294967296) → Tight xs → Tight ys → dval xs = dval ys → xs = ys := by
  have tl : ∀ (x : Nat) (xs : List Nat), Tight (x :: xs) → Tight xs := by
    intro x xs h
    rcases Nat.eq_zero_or_pos xs.length with hz | hp
    · exact .inl hz
    · right
      have h' : (x :: xs).getD (xs.length + 1 - 1) 0 ≠ 0 := by simpa [Tight] using h
      rw [show xs.length + 1 - 1 = (xs.length - 1) + 1 by omega, List.getD_cons_succ] at h'
      exact h'
  intro xs
  induction xs with
  | nil =>
    intro ys _ _ _ ht he
    rcases ys with _ | ⟨y, ys⟩
    · rfl
    · have := dval_pos (y :: ys) (by simp) ht
      have h1 : 0 < 4294967296 ^ ((y :: ys).length - 1) := Nat.pow_pos (by decide)
      rw [← he] at this
      simp only [dval] at this
      omega
  | cons x xs ih =>
    intro ys hx hy hxt hyt he
    rcases ys with _ | ⟨y, ys⟩
    · have := dval_pos (x :: xs) (by simp) hxt
      have h1 : 0 < 4294967296 ^ ((x :: xs).length - 1) := Nat.pow_pos (by decide)
      rw [he] at this
      simp only [dval] at this
      omega
    · simp only [dval] at he
      have h1 := hx x (by simp)
      have h2 := hy y (by simp)
      have e1 : x = y := by omega
      have e2 : dval xs = dval ys := by omega
      rw [e1, ih ys (fun d hd => hx d (by simp [hd])) (fun d hd => hy d (by simp [hd])) (tl _ _ hxt) (tl _ _ hyt) e2]
end Go.Proofs.YtbjkkiehpfnogaaDoor
