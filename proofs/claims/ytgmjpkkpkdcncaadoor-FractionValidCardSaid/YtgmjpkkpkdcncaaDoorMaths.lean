/- Plain mathematics of digits in base 2^32: no program, no claim of its own. -/
namespace Go.Proofs.YtgmjpkkpkdcncaaDoor
/-- The value of a list of digits. -/
def dval : List Nat → Nat
  | [] => 0
  | d :: ds => d + 4294967296 * dval ds
/-- No leading (last) zero. -/
def Tight (xs : List Nat) : Prop := xs.length = 0 ∨ xs.getD (xs.length - 1) 0 ≠ 0
theorem dval_append (xs ys : List Nat) : dval (xs ++ ys) = dval xs + 4294967296 ^ xs.length * dval ys := by
  induction xs with
  | nil => simp [dval]
  | cons x xs ih => simp only [List.cons_append, dval, ih, List.length_cons, Nat.pow_succ]; rw [Nat.mul_add, ← Nat.mul_assoc, Nat.mul_comm 4294967296 (4294967296 ^ xs.length)]; omega
theorem dval_zeros (xs : List Nat) (h : ∀ d ∈ xs, d = 0) : dval xs = 0 := by
  induction xs with
  | nil => rfl
  | cons x xs ih =>
    have h1 := h x (by simp)
    have h2 := ih fun d hd => h d (by simp [hd])
    simp [dval, h1, h2]
theorem dval_take (xs : List Nat) (k : Nat) (h : ∀ j, k ≤ j → xs.getD j 0 = 0) : dval (xs.take k) = dval xs := by
  rw [← List.take_append_drop k xs, dval_append]
  have : dval (xs.drop k) = 0 := dval_zeros _ fun d hd => by
    obtain ⟨i, hi, rfl⟩ := List.mem_iff_getElem.1 hd
    have := h (k + i) (by omega)
    rw [List.length_drop] at hi
    rw [List.getD_eq_getElem?_getD, List.getElem?_eq_getElem (by omega)] at this
    simpa using this
  simp [this]
theorem dval_lt (xs : List Nat) (h : ∀ d ∈ xs, d < 4294967296) : dval xs < 4294967296 ^ xs.length := by
  induction xs with
  | nil => simp [dval]
  | cons x xs ih =>
    have h1 := h x (by simp)
    have h2 := ih fun d hd => h d (by simp [hd])
    simp only [dval, List.length_cons, Nat.pow_succ]
    omega
theorem dval_pos (xs : List Nat) (h0 : xs.length ≠ 0) (h : Tight xs) : 4294967296 ^ (xs.length - 1) ≤ dval xs := by
  induction xs with
  | nil => simp at h0
  | cons x xs ih =>
    rcases Nat.eq_zero_or_pos xs.length with hz | hp
    · have : xs = [] := List.eq_nil_of_length_eq_zero hz
      subst this
      have : x ≠ 0 := by simpa [Tight] using h
      simp [dval]; omega
    · have ht : Tight xs := by
        right
        have h' : (x :: xs).getD (xs.length + 1 - 1) 0 ≠ 0 := by simpa [Tight] using h
        rw [show xs.length + 1 - 1 = (xs.length - 1) + 1 by omega, List.getD_cons_succ] at h'
        exact h'
      have := ih (by omega) ht
      simp only [dval, List.length_cons]
      rw [show xs.length + 1 - 1 = (xs.length - 1) + 1 by omega, Nat.pow_succ]
      omega
/-- Tight lists of digits with one value are one list. -/
theorem dval_inj : ∀ (xs ys : List Nat), (∀ d ∈ xs, d < 4294967296) → (∀ d ∈ ys, d < 4294967296) → Tight xs → Tight ys → dval xs = dval ys → xs = ys := by
  have tl : ∀ (x : Nat) (xs : List Nat), Tight (x :: xs) → Tight xs := by
    intro x xs h
    rcases Nat.eq_zero_or_pos xs.length with hz | hp
    · exact .inl hz
    · right
      have h' : (x :: xs).getD (xs.length + 1 - 1) 0 ≠ 0 := by simpa [Tight] using h
      rw [show xs.length + 1 - 1 = (xs.length - 1) + 1 by omega, List.getD_cons_succ] at h'
      exact h'
  intro xs
  induction xs with
  | nil =>
    intro ys _ _ _ ht he
    rcases ys with _ | ⟨y, ys⟩
    · rfl
    · have := dval_pos (y :: ys) (by simp) ht
      have h1 : 0 < 4294967296 ^ ((y :: ys).length - 1) := Nat.pow_pos (by decide)
      rw [← he] at this
      simp only [dval] at this
      omega
  | cons x xs ih =>
    intro ys hx hy hxt hyt he
    rcases ys with _ | ⟨y, ys⟩
    · have := dval_pos (x :: xs) (by simp) hxt
      have h1 : 0 < 4294967296 ^ ((x :: xs).length - 1) := Nat.pow_pos (by decide)
      rw [he] at this
      simp only [dval] at this
      omega
    · simp only [dval] at he
      have h1 := hx x (by simp)
      have h2 := hy y (by simp)
      have e1 : x = y := by omega
      have e2 : dval xs = dval ys := by omega
      rw [e1, ih ys (fun d hd => hx d (by simp [hd])) (fun d hd => hy d (by simp [hd])) (tl _ _ hxt) (tl _ _ hyt) e2]
end Go.Proofs.YtgmjpkkpkdcncaaDoor
/- Plain mathematics of digits in base 2^32, more: no program, no claim of its own. -/
namespace Go.Proofs.YtgmjpkkpkdcncaaDoor
theorem dval_set (xs : List Nat) (k d : Nat) (h : k < xs.length) : dval (xs.set k d) + 4294967296 ^ k * xs.getD k 0 = dval xs + 4294967296 ^ k * d := by
  induction xs generalizing k with
  | nil => simp at h
  | cons x xs ih =>
    rcases k with _ | k
    · simp [dval]; omega
    · have := ih k (by simpa using h)
      simp only [List.set_cons_succ, dval, List.getD_cons_succ, Nat.pow_succ]
      grind
theorem dval_take_succ (xs : List Nat) (k : Nat) (h : k < xs.length) : dval (xs.take (k + 1)) = dval (xs.take k) + 4294967296 ^ k * xs.getD k 0 := by
  rw [List.take_succ_eq_append_getElem h, dval_append, List.length_take, Nat.min_eq_left (by omega), List.getD_eq_getElem?_getD, List.getElem?_eq_getElem h]
  simp [dval]
theorem dval_take_succ' (xs : List Nat) (k : Nat) : dval (xs.take (k + 1)) = dval (xs.take k) + 4294967296 ^ k * xs.getD k 0 := by
  rcases Nat.lt_or_ge k xs.length with h | h
  · exact dval_take_succ xs k h
  · rw [List.take_of_length_le (by omega), List.take_of_length_le h, List.getD_eq_getElem?_getD, List.getElem?_eq_none h]; simp
theorem carry_none' (P M a b c v : Nat) (hM : 2 ≤ M) (ha : a < P) (hb : b < P) (h : v + P * M * c = a + b) : v = a + b := by
  rcases c with _ | c
  · rw [Nat.mul_zero] at h; exact h
  · have h1 : P * 2 ≤ P * M := Nat.mul_le_mul_left _ hM
    have h2 : P * M * 1 ≤ P * M * (c + 1) := Nat.mul_le_mul_left _ (by omega)
    rw [Nat.mul_one] at h2
    generalize P * M * (c + 1) = X at *
    generalize P * M = Y at *
    omega
theorem carry_none (P a b c v : Nat) (ha : a < P) (hb : b < P) (h : v + P * 4294967296 * c = a + b) : v = a + b :=
  carry_none' P 4294967296 a b c v (by omega) ha hb h
theorem no_carry (Q T c v : Nat) (hT : T < Q) (h : v + Q * c = T) : v = T := by
  rcases c with _ | c
  · rw [Nat.mul_zero] at h; exact h
  · have h2 : Q * 1 ≤ Q * (c + 1) := Nat.mul_le_mul_left _ (by omega)
    rw [Nat.mul_one] at h2
    generalize Q * (c + 1) = X at *
    omega
theorem len_le {xs : List Nat} {k : Nat} (ht : Tight xs) (h : dval xs < 4294967296 ^ k) : xs.length ≤ k := by
  rcases Nat.lt_or_ge k xs.length with hk | hk
  · have h1 := dval_pos xs (by omega) ht
    have h2 : 4294967296 ^ k ≤ 4294967296 ^ (xs.length - 1) := Nat.pow_le_pow_right (by decide) (by omega)
    omega
  · exact hk
theorem getD_lt_of {xs : List Nat} (h : ∀ d ∈ xs, d < 4294967296) (k : Nat) : xs.getD k 0 < 4294967296 := by
  rcases Nat.lt_or_ge k xs.length with hk | hk
  · rw [List.getD_eq_getElem?_getD, List.getElem?_eq_getElem hk]; exact h _ (List.getElem_mem hk)
  · rw [List.getD_eq_getElem?_getD, List.getElem?_eq_none hk]; decide
theorem lt_set {xs : List Nat} (h : ∀ d ∈ xs, d < 4294967296) (k d : Nat) (hd : d < 4294967296) : ∀ x ∈ xs.set k d, x < 4294967296 := fun x hx => by
  rcases List.mem_or_eq_of_mem_set hx with h1 | h1
  · exact h x h1
  · exact h1 ▸ hd
theorem dval_replicate (n : Nat) : dval (List.replicate n 0) = 0 := dval_zeros _ fun d hd => (List.mem_replicate.1 hd).2
theorem getD_set (xs : List Nat) (k j d : Nat) (h : k < xs.length) : (xs.set k d).getD j 0 = if k = j then d else xs.getD j 0 := by
  simp only [List.getD_eq_getElem?_getD, List.getElem?_set]
  split <;> simp_all
theorem getD_replicate (n j : Nat) : (List.replicate n 0).getD j 0 = 0 := by
  rw [List.getD_eq_getElem?_getD, List.getElem?_replicate]
  split <;> rfl
end Go.Proofs.YtgmjpkkpkdcncaaDoor
/- Plain mathematics of digits: order. No program, no claim of its own. -/
namespace Go.Proofs.YtgmjpkkpkdcncaaDoor
theorem dval_uncons (xs : List Nat) : dval xs = xs.getD 0 0 + 4294967296 * dval xs.tail := by
  cases xs <;> simp [dval]
theorem getD_tail (xs : List Nat) (j : Nat) : xs.tail.getD j 0 = xs.getD (j + 1) 0 := by
  cases xs <;> simp
theorem dval_ext (xs ys : List Nat) (h : ∀ j, xs.getD j 0 = ys.getD j 0) : dval xs = dval ys := by
  induction xs generalizing ys with
  | nil =>
    rw [dval_zeros ys fun d hd => by
      obtain ⟨i, hi, rfl⟩ := List.mem_iff_getElem.1 hd
      have := h i
      simpa [hi] using this.symm]
    rfl
  | cons x xs ih =>
    have h0 := h 0
    have := ih ys.tail fun j => by rw [getD_tail]; have := h (j + 1); simpa using this
    rw [dval_uncons ys, ← this, ← h0]
    simp [dval]
theorem cmp_lt (xs ys : List Nat) (k : Nat) (hx : ∀ j, xs.getD j 0 < 4294967296) (h : ∀ j, k + 1 ≤ j → xs.getD j 0 = ys.getD j 0) (hk : xs.getD k 0 < ys.getD k 0) : dval xs < dval ys := by
  induction k generalizing xs ys with
  | zero =>
    rw [dval_uncons xs, dval_uncons ys, dval_ext xs.tail ys.tail fun j => by rw [getD_tail, getD_tail]; exact h (j + 1) (by omega)]
    omega
  | succ k ih =>
    have := ih xs.tail ys.tail (fun j => by rw [getD_tail]; exact hx _) (fun j hj => by rw [getD_tail, getD_tail]; exact h _ (by omega)) (by rw [getD_tail, getD_tail]; exact hk)
    have := hx 0
    rw [dval_uncons xs, dval_uncons ys]
    omega
theorem len_lt (xs ys : List Nat) (hx : ∀ d ∈ xs, d < 4294967296) (ht : Tight ys) (h : xs.length < ys.length) : dval xs < dval ys := by
  have h1 := dval_lt xs hx
  have h2 := dval_pos ys (by omega) ht
  have h3 : 4294967296 ^ xs.length ≤ 4294967296 ^ (ys.length - 1) := Nat.pow_le_pow_right (by decide) (by omega)
  omega
def cmpI (a b : Nat) : Int := if a < b then -1 else if b < a then 1 else 0
theorem cmpI_lt {a b : Nat} (h : a < b) : cmpI a b = -1 := by simp [cmpI, h]
theorem cmpI_gt {a b : Nat} (h : b < a) : cmpI a b = 1 := by unfold cmpI; rw [if_neg (by omega), if_pos h]
theorem cmpI_eq {a b : Nat} (h : a = b) : cmpI a b = 0 := by subst h; simp [cmpI]
theorem small_iff (xs : List Nat) (hx : ∀ d ∈ xs, d < 4294967296) (ht : Tight xs) : xs.length ≤ 2 ↔ dval xs < 18446744073709551616 := by
  constructor
  · intro h
    have h1 := dval_lt xs hx
    have h3 : 4294967296 ^ xs.length ≤ 4294967296 ^ 2 := Nat.pow_le_pow_right (by decide) h
    omega
  · intro h
    rcases Nat.lt_or_ge 2 xs.length with h2 | h2
    · have h2 := dval_pos xs (by omega) ht
      have h3 : 4294967296 ^ 2 ≤ 4294967296 ^ (xs.length - 1) := Nat.pow_le_pow_right (by decide) (by omega)
      omega
    · exact h2
end Go.Proofs.YtgmjpkkpkdcncaaDoor
/- Plain mathematics of long division: no program, no claim of its own. -/
namespace Go.Proofs.YtgmjpkkpkdcncaaDoor
theorem est_top {M W D q : Nat} (h : W < M * D) (hq : q = W / D) (hD : 0 < D) : q < M := by
  subst hq; exact (Nat.div_lt_iff_lt_mul hD).2 h
/-- The first estimate is not too small. -/
theorem est_start {W D H t P : Nat} (h1 : W < (H + 1) * P) (h2 : t * P ≤ D) (ht : 0 < t) : W / D ≤ H / t := by
  rw [Nat.le_div_iff_mul_le ht]
  have h3 : W / D * D ≤ W := Nat.div_mul_le_self _ _
  have h4 : W / D * (t * P) ≤ W / D * D := Nat.mul_le_mul_left _ h2
  rw [← Nat.mul_assoc] at h4
  have h5 : W / D * t * P < (H + 1) * P := by omega
  have := Nat.lt_of_mul_lt_mul_right h5
  omega
theorem est_exit {W D T H P f : Nat} (h1 : f * T ≤ H) (h2 : D < (T + 1) * P) (h3 : H * P ≤ W) (h4 : f ≤ T + 1) (hD : 0 < D) : f ≤ W / D + 1 := by
  rcases f with _ | e
  · exact Nat.zero_le _
  · have : e ≤ W / D := by
      rw [Nat.le_div_iff_mul_le hD]
      have a1 : e * D ≤ e * ((T + 1) * P) := Nat.mul_le_mul_left _ (Nat.le_of_lt h2)
      rw [← Nat.mul_assoc] at a1
      have a2 : e * (T + 1) ≤ H := by
        rw [Nat.add_mul, Nat.one_mul] at h1
        rw [Nat.mul_add, Nat.mul_one]
        omega
      have a3 : e * (T + 1) * P ≤ H * P := Nat.mul_le_mul_right _ a2
      omega
    omega
theorem est_step {W D T H P f : Nat} (h1 : H < f * T) (h2 : T * P ≤ D) (h3 : W < (H + 1) * P) (hD : 0 < D) : W / D < f := by
  rw [Nat.div_lt_iff_lt_mul hD]
  have a1 : (H + 1) * P ≤ f * T * P := Nat.mul_le_mul_right _ h1
  have a2 : f * (T * P) ≤ f * D := Nat.mul_le_mul_left _ h2
  rw [← Nat.mul_assoc] at a2
  omega
theorem est_lin1 {f t u r H M c : Nat} (e : f * t + r = H) (h1 : r * M + c < f * u) : H * M + c < f * (t * M + u) := by
  subst e
  rw [Nat.mul_add, ← Nat.mul_assoc, Nat.add_mul]
  generalize f * t * M = x
  omega
theorem est_lin2 {f t u r H M c : Nat} (e : f * t + r = H) (h1 : f * u ≤ r * M + c) : f * (t * M + u) ≤ H * M + c := by
  subst e
  rw [Nat.mul_add, ← Nat.mul_assoc, Nat.add_mul]
  generalize f * t * M = x
  omega
theorem dval_top2 (ys : List Nat) (m : Nat) (h : ys.length = m + 2) : dval ys = dval (ys.take m) + 4294967296 ^ m * (ys.getD (m + 1) 0 * 4294967296 + ys.getD m 0) := by
  have e1 := dval_take_succ' ys m
  have e2 := dval_take_succ' ys (m + 1)
  rw [List.take_of_length_le (by omega)] at e2
  rw [e2, e1, Nat.pow_succ]
  generalize (4294967296 : Nat) ^ m = P
  generalize ys.getD (m + 1) 0 = a
  generalize ys.getD m 0 = b
  grind
theorem dval_top3 (xs : List Nat) (m : Nat) (h : xs.length = m + 3) : dval xs = dval (xs.take m) + 4294967296 ^ m * ((xs.getD (m + 2) 0 * 4294967296 + xs.getD (m + 1) 0) * 4294967296 + xs.getD m 0) := by
  have e1 := dval_take_succ' xs m
  have e2 := dval_take_succ' xs (m + 1)
  have e3 := dval_take_succ' xs (m + 2)
  rw [List.take_of_length_le (by omega)] at e3
  rw [e3, e2, e1, Nat.pow_succ, Nat.pow_succ, Nat.pow_succ]
  generalize (4294967296 : Nat) ^ m = P
  generalize xs.getD (m + 2) 0 = a
  generalize xs.getD (m + 1) 0 = b
  generalize xs.getD m 0 = c
  grind
theorem pow_bounds {low P X : Nat} (h : low < P) : X * P ≤ low + P * X ∧ low + P * X < (X + 1) * P := by
  rw [Nat.mul_comm X P, Nat.add_mul, Nat.one_mul, Nat.mul_comm X P]
  omega
/-- What the estimate needs to know of the window W and the divisor D: the three digits a, b, c on top of the one, the two digits t, u on top of the other. -/
structure Est (W D a b c t u : Nat) : Prop where
  la : a < 4294967296
  lb : b < 4294967296
  lc : c < 4294967296
  lt : t < 4294967296
  lu : u < 4294967296
  top : 2147483648 ≤ t
  hW : W < 4294967296 * D
  ex : ∃ P, 0 < P ∧ ((a * 4294967296 + b) * 4294967296 + c) * P ≤ W ∧ W < ((a * 4294967296 + b) * 4294967296 + c + 1) * P ∧ (t * 4294967296 + u) * P ≤ D ∧ D < (t * 4294967296 + u + 1) * P
theorem Est.of (xs ys : List Nat) (m : Nat) (hx : xs.length = m + 3) (hy : ys.length = m + 2) (lx : ∀ d ∈ xs, d < 4294967296) (ly : ∀ d ∈ ys, d < 4294967296) (ht : 2147483648 ≤ ys.getD (m + 1) 0) (h : dval xs < 4294967296 * dval ys) :
    Est (dval xs) (dval ys) (xs.getD (m + 2) 0) (xs.getD (m + 1) 0) (xs.getD m 0) (ys.getD (m + 1) 0) (ys.getD m 0) := by
  have e1 := dval_lt (xs.take m) fun d hd => lx d (List.mem_of_mem_take hd)
  have e2 := dval_lt (ys.take m) fun d hd => ly d (List.mem_of_mem_take hd)
  rw [List.length_take, Nat.min_eq_left (by omega)] at e1 e2
  refine ⟨getD_lt_of lx _, getD_lt_of lx _, getD_lt_of lx _, getD_lt_of ly _, getD_lt_of ly _, ht, h, 4294967296 ^ m, Nat.pow_pos (by decide), ?_⟩
  rw [dval_top3 xs m hx, dval_top2 ys m hy]
  exact ⟨(pow_bounds e1).1, (pow_bounds e1).2, (pow_bounds e2).1, (pow_bounds e2).2⟩
section
variable {W D a b c t u : Nat}
theorem Est.pos (h : Est W D a b c t u) : 0 < D := by
  have := h.hW
  rcases Nat.eq_zero_or_pos D with h0 | h0
  · subst h0; omega
  · exact h0
theorem Est.start (h : Est W D a b c t u) : W / D ≤ (a * 4294967296 + b) / t := by
  obtain ⟨P, hP, h1, h2, h3, h4⟩ := h.ex
  have ht := h.top
  have hc := h.lc
  refine est_start (P := 4294967296 * P) ?_ ?_ (by omega)
  · rw [← Nat.mul_assoc]
    refine Nat.lt_of_lt_of_le h2 (Nat.mul_le_mul_right _ ?_)
    omega
  · rw [← Nat.mul_assoc]
    refine Nat.le_trans (Nat.mul_le_mul_right _ ?_) h3
    omega
theorem Est.most (h : Est W D a b c t u) : W / D ≤ 4294967295 := by
  have := est_top h.hW rfl h.pos
  omega
/-- The first digits are less than (t + 1) times the base. -/
theorem Est.high (h : Est W D a b c t u) : a * 4294967296 + b < 4294967296 * (t + 1) := by
  obtain ⟨P, hP, h1, h2, h3, h4⟩ := h.ex
  have hu := h.lu
  have hW := h.hW
  have a1 : (t * 4294967296 + u + 1) * P ≤ ((t + 1) * 4294967296) * P := Nat.mul_le_mul_right _ (by omega)
  have a2 : 4294967296 * D ≤ 4294967296 * (((t + 1) * 4294967296) * P) := Nat.mul_le_mul_left _ (by omega)
  have a3 : (a * 4294967296 + b) * 4294967296 * P ≤ ((a * 4294967296 + b) * 4294967296 + c) * P := Nat.mul_le_mul_right P (Nat.le_add_right _ c)
  have a4 : (a * 4294967296 + b) * (4294967296 * P) < (4294967296 * (t + 1)) * (4294967296 * P) := by
    rw [← Nat.mul_assoc]
    have : 4294967296 * (((t + 1) * 4294967296) * P) = 4294967296 * (t + 1) * (4294967296 * P) := by
      rw [Nat.mul_assoc, Nat.mul_assoc]
    generalize 4294967296 * (((t + 1) * 4294967296) * P) = X at *
    generalize 4294967296 * (t + 1) * (4294967296 * P) = Y at *
    omega
  exact Nat.lt_of_mul_lt_mul_right a4
theorem Est.step (h : Est W D a b c t u) {f r : Nat} (hr : f * t + r = a * 4294967296 + b) (h1 : r * 4294967296 + c < f * u) : W / D < f := by
  obtain ⟨P, hP, g1, g2, g3, g4⟩ := h.ex
  exact est_step (est_lin1 hr h1) g3 g2 h.pos
theorem Est.exit (h : Est W D a b c t u) {f r : Nat} (hf : f ≤ 4294967295) (hr : f * t + r = a * 4294967296 + b) (h1 : f * u ≤ r * 4294967296 + c) : f ≤ W / D + 1 := by
  obtain ⟨P, hP, g1, g2, g3, g4⟩ := h.ex
  have ht := h.top
  exact est_exit (est_lin2 hr h1) g4 g1 (by omega) h.pos
theorem Est.exit' (h : Est W D a b c t u) {f r : Nat} (hf : f ≤ 4294967295) (hr : f * t + r = a * 4294967296 + b) (h1 : 4294967296 ≤ r) : f ≤ W / D + 1 := by
  refine h.exit hf hr ?_
  have hu := h.lu
  have : f * u ≤ 4294967295 * 4294967295 := Nat.mul_le_mul hf (by omega)
  omega
end
/-- What divideStep comes to. -/
theorem step_end {W D f win X : Nat} {neg : Bool} (hD : 0 < D) (h1 : W / D ≤ f) (h2 : f ≤ W / D + 1) (h : win + f * D = W + (if neg then X else 0)) (hw : win < X) :
    (neg = false → f = W / D ∧ win = W % D) ∧ (neg = true → f = W / D + 1 ∧ win + D = W % D + X) := by
  have e := Nat.div_add_mod W D
  have l := Nat.mod_lt W hD
  rw [Nat.mul_comm] at e
  constructor
  · intro hn
    subst hn
    have : f = W / D := by
      rcases Nat.lt_or_ge (W / D) f with h3 | h3
      · have : f = W / D + 1 := by omega
        rw [this, Nat.add_mul, Nat.one_mul] at h
        simp at h
        omega
      · omega
    refine ⟨this, ?_⟩
    rw [this] at h
    simp at h
    omega
  · intro hn
    subst hn
    have : f = W / D + 1 := by
      rcases Nat.lt_or_ge (W / D) f with h3 | h3
      · omega
      · have h4 : f = W / D := by omega
        rw [h4] at h
        simp at h
        omega
    refine ⟨this, ?_⟩
    rw [this, Nat.add_mul, Nat.one_mul] at h
    simp at h
    omega
theorem subp_digit (x lo : Nat) (h1 : x < 4294967296) (h2 : lo < 4294967296) : (x + 4294967296 - lo) % 4294967296 + lo = x + 4294967296 * (if x < lo then 1 else 0) := by
  by_cases h : x < lo
  · rw [if_pos h]; omega
  · rw [if_neg h]; omega
theorem subp_carry (c y f : Nat) (hc : c ≤ 4294967295) (hy : y < 4294967296) (hf : f < 4294967296) : c + y * f ≤ 4294967295 * 4294967296 := by
  have : y * f ≤ 4294967295 * 4294967295 := Nat.mul_le_mul (by omega) (by omega)
  omega
end Go.Proofs.YtgmjpkkpkdcncaaDoor
/- Plain mathematics of binary digits: no program, no claim of its own. -/
namespace Go.Proofs.YtgmjpkkpkdcncaaDoor
theorem base2 : (4294967296 : Nat) = 2 ^ 32 := by decide
theorem pow_base (k : Nat) : (4294967296 : Nat) ^ k = 2 ^ (32 * k) := by rw [Nat.pow_mul, base2]
theorem digit_div (xs : List Nat) (h : ∀ j, xs.getD j 0 < 4294967296) (k : Nat) : dval xs / 4294967296 ^ k % 4294967296 = xs.getD k 0 := by
  induction k generalizing xs with
  | zero =>
    have := h 0
    rw [dval_uncons xs, Nat.pow_zero, Nat.div_one, Nat.add_mul_mod_self_left, Nat.mod_eq_of_lt this]
  | succ k ih =>
    have h0 := h 0
    rw [Nat.pow_succ, Nat.mul_comm, ← Nat.div_div_eq_div_mul, dval_uncons xs, Nat.add_mul_div_left _ _ (by decide), Nat.div_eq_of_lt h0, Nat.zero_add, ih xs.tail (fun j => by rw [getD_tail]; exact h _), getD_tail]
theorem mod_div_mod (X s t u : Nat) (h : s + u ≤ t) : (X % 2 ^ t) / 2 ^ s % 2 ^ u = X / 2 ^ s % 2 ^ u := by
  obtain ⟨v, rfl⟩ : ∃ v, t = s + v := ⟨t - s, by omega⟩
  rw [Nat.pow_add, Nat.mod_mul_right_div_self, Nat.mod_mod_of_dvd _ (Nat.pow_dvd_pow 2 (by omega))]
theorem bit_math (xs : List Nat) (h : ∀ j, xs.getD j 0 < 4294967296) (i : Nat) : xs.getD (i / 32) 0 / 2 ^ (i % 32) % 2 = dval xs / 2 ^ i % 2 := by
  have e := mod_div_mod (dval xs / 4294967296 ^ (i / 32)) (i % 32) 32 1 (by omega)
  rw [Nat.pow_one, ← base2, digit_div xs h] at e
  rw [e, pow_base, Nat.div_div_eq_div_mul, ← Nat.pow_add, Nat.div_add_mod]
theorem high_math (xs : List Nat) (h : ∀ j, xs.getD j 0 < 4294967296) (i s : Nat) (hs : s < 32) :
    (xs.getD i 0 + xs.getD (i + 1) 0 * 4294967296) / 2 ^ s % 4294967296 = dval xs / 2 ^ (32 * i + s) % 4294967296 := by
  have e := mod_div_mod (dval xs / 4294967296 ^ i) s 64 32 (by omega)
  have e2 : (dval xs / 4294967296 ^ i) % 2 ^ 64 = xs.getD i 0 + xs.getD (i + 1) 0 * 4294967296 := by
    have e3 : (2 : Nat) ^ 64 = 4294967296 * 4294967296 := by decide
    rw [e3, Nat.mod_mul, digit_div xs h, Nat.div_div_eq_div_mul, ← Nat.pow_succ, digit_div xs h, Nat.mul_comm]
  rw [e2, ← base2, pow_base, Nat.div_div_eq_div_mul, ← Nat.pow_add] at e
  exact e
/-- a has its value below its length. -/
theorem dval_lt_bits (xs : List Nat) (n : Nat) (h : ∀ d ∈ xs, d < 4294967296) (hn : xs.length = n) : dval xs < 2 ^ (32 * n) := by
  have := dval_lt xs h
  rwa [hn, pow_base] at this
theorem bit_low {a n : Nat} (h : a < 2 ^ (n + 1)) (h0 : a / 2 ^ n % 2 = 0) : a < 2 ^ n := by
  have h1 : a / 2 ^ n < 2 := by rw [Nat.div_lt_iff_lt_mul (Nat.pow_pos (by decide)), Nat.mul_comm, ← Nat.pow_succ]; exact h
  have h2 : a / 2 ^ n = 0 := by generalize a / 2 ^ n = q at *; omega
  have h3 := (Nat.div_eq_zero_iff).1 h2
  rcases h3 with h3 | h3
  · have : 0 < 2 ^ n := Nat.pow_pos (by decide); omega
  · exact h3
theorem bit_high {a n : Nat} (h0 : a / 2 ^ n % 2 ≠ 0) : 2 ^ n ≤ a := by
  rcases Nat.lt_or_ge a (2 ^ n) with h | h
  · rw [Nat.div_eq_of_lt h] at h0; simp at h0
  · exact h
theorem bit_split (a i : Nat) : a / 2 ^ i = 2 * (a / 2 ^ (i + 1)) + a / 2 ^ i % 2 := by
  rw [Nat.pow_succ, ← Nat.div_div_eq_div_mul]
  omega
/-- The highest digits, taken at once, are less than the divisor. -/
theorem start_lt {a b x y k : Nat} (ha : a < 2 ^ x) (hb : 2 ^ (y - 1) ≤ b) (hk : x ≤ k + (y - 1)) : a / 2 ^ k < b := by
  rw [Nat.div_lt_iff_lt_mul (Nat.pow_pos (by decide))]
  have h1 : (2 : Nat) ^ x ≤ 2 ^ (k + (y - 1)) := Nat.pow_le_pow_right (by decide) hk
  rw [Nat.pow_add] at h1
  have h2 : 2 ^ k * 2 ^ (y - 1) ≤ 2 ^ k * b := Nat.mul_le_mul_left _ hb
  rw [Nat.mul_comm b]
  omega
theorem div_step {a b q r i t : Nat} (h : q * b + r = a / 2 ^ (i + 1)) (ht : a / 2 ^ i % 2 = t) : (q + q) * b + (r + r + t) = a / 2 ^ i := by
  rw [bit_split a i, ht, ← h, Nat.add_mul]; omega
theorem div_step' {b q r X : Nat} (h : q * b + r = X) (hr : b ≤ r) : (q + 1) * b + (r - b) = X := by
  rw [Nat.add_mul, Nat.one_mul]; omega
theorem div_fin {a b q r : Nat} (h : q * b + r = a / 2 ^ 0) (hr : r < b) : q = a / b ∧ r = a % b := by
  rw [Nat.pow_zero, Nat.div_one] at h
  subst h
  have h1 : 0 < b := by omega
  rw [Nat.mul_comm q b, Nat.mul_add_div h1, Nat.mul_add_mod, Nat.div_eq_of_lt hr, Nat.mod_eq_of_lt hr]
  exact ⟨rfl, rfl⟩
end Go.Proofs.YtgmjpkkpkdcncaaDoor
/- Plain mathematics of long division, more: no program, no claim of its own. -/
namespace Go.Proofs.YtgmjpkkpkdcncaaDoor
theorem dval_split (xs : List Nat) (k : Nat) (h : k ≤ xs.length) : dval xs = dval (xs.take k) + 4294967296 ^ k * dval (xs.drop k) := by
  have e := dval_append (xs.take k) (xs.drop k)
  rw [List.take_append_drop, List.length_take, Nat.min_eq_left h] at e
  exact e
theorem dval_drop1 (xs : List Nat) (k : Nat) : dval (xs.drop k) = xs.getD k 0 + 4294967296 * dval (xs.drop (k + 1)) := by
  rw [dval_uncons (xs.drop k), List.tail_drop]
  congr 1
  rw [List.getD_eq_getElem?_getD, List.getElem?_drop, List.getD_eq_getElem?_getD, Nat.add_zero]
/-- The shifted divisor: as many digits as before, the highest bit set. -/
theorem norm_div (ys row : List Nat) (m s L b : Nat) (hm : 0 < m) (hl : ys.length = m) (hlt : ∀ d ∈ ys, d < 4294967296) (hb : dval ys = b) (h1 : 2 ^ (L - 1) ≤ ys.getD (m - 1) 0) (h2 : ys.getD (m - 1) 0 < 2 ^ L) (hL : 1 ≤ L) (hs : L + s = 32)
    (hr : dval row = 2 ^ s * b) (hrt : ∀ d ∈ row, d < 4294967296) (k : Nat) (hk : k ≤ row.length) (ht : Tight (row.take k)) (hv : dval (row.take k) = dval row) :
    k = m ∧ 2147483648 ≤ (row.take k).getD (m - 1) 0 := by
  obtain ⟨j, rfl⟩ : ∃ j, m = j + 1 := ⟨m - 1, by omega⟩
  rw [Nat.add_sub_cancel] at *
  have e := dval_take_succ' ys j
  rw [List.take_of_length_le (by omega), hb] at e
  have lo := dval_lt (ys.take j) fun d hd => hlt d (List.mem_of_mem_take hd)
  rw [List.length_take, Nat.min_eq_left (by omega)] at lo
  have p31 : 2 ^ s * 2 ^ (L - 1) = 2147483648 := by rw [← Nat.pow_add, show s + (L - 1) = 31 by omega]
  have p32 : 2 ^ s * 2 ^ L = 4294967296 := by rw [← Nat.pow_add, show s + L = 32 by omega]
  have lower : 4294967296 ^ j * 2147483648 ≤ 2 ^ s * b := by
    have : 2 ^ s * (4294967296 ^ j * 2 ^ (L - 1)) ≤ 2 ^ s * b := by
      refine Nat.mul_le_mul_left _ ?_
      rw [e]
      have := Nat.mul_le_mul_left (4294967296 ^ j) h1
      omega
    rw [← Nat.mul_assoc, Nat.mul_comm (2 ^ s), Nat.mul_assoc, p31] at this
    exact this
  have upper : 2 ^ s * b < 4294967296 ^ (j + 1) := by
    have : b + 1 ≤ 4294967296 ^ j * 2 ^ L := by
      have := Nat.mul_le_mul_left (4294967296 ^ j) h2
      rw [Nat.succ_eq_add_one, Nat.mul_add, Nat.mul_one] at this
      omega
    have h3 := Nat.mul_le_mul_left (2 ^ s) this
    rw [← Nat.mul_assoc, Nat.mul_comm (2 ^ s) (4294967296 ^ j), Nat.mul_assoc, p32, Nat.mul_add, Nat.mul_one] at h3
    have : 0 < 2 ^ s := Nat.pow_pos (by decide)
    rw [Nat.pow_succ]
    omega
  have hkl : (row.take k).length = k := by rw [List.length_take, Nat.min_eq_left hk]
  have lt' : ∀ d ∈ row.take k, d < 4294967296 := fun d hd => hrt d (List.mem_of_mem_take hd)
  rw [hr] at hv
  have k1 : k ≤ j + 1 := by
    have := len_le ht (show dval (row.take k) < 4294967296 ^ (j + 1) by rw [hv]; exact upper)
    omega
  have pj : 0 < (4294967296 : Nat) ^ j := Nat.pow_pos (by decide)
  have k2 : j + 1 ≤ k := by
    have h3 := dval_lt _ lt'
    rw [hkl, hv] at h3
    have h4 : (4294967296 : Nat) ^ j < 4294967296 ^ k := by omega
    exact (Nat.pow_lt_pow_iff_right (by decide : 1 < 4294967296)).1 h4
  have kk : k = j + 1 := by omega
  subst kk
  refine ⟨rfl, ?_⟩
  have e2 := dval_take_succ' (row.take (j + 1)) j
  rw [List.take_of_length_le (by omega), hv] at e2
  have lo2 := dval_lt ((row.take (j + 1)).take j) fun d hd => lt' d (List.mem_of_mem_take hd)
  rw [List.length_take, hkl, Nat.min_eq_left (by omega)] at lo2
  generalize (row.take (j + 1)).getD j 0 = t at *
  rcases Nat.lt_or_ge t 2147483648 with h | h
  · have h5 : 4294967296 ^ j * (t + 1) ≤ 4294967296 ^ j * 2147483648 := Nat.mul_le_mul_left _ h
    rw [Nat.mul_add, Nat.mul_one] at h5
    omega
  · exact h
/-- One step of the long division. -/
theorem long_step (R Q win' : List Nat) (i m n D A0 : Nat) (hR : R.length = n + 1) (hQ : Q.length = n - m + 1) (hm : m ≤ n) (hi : i < n - m + 1) (hD : D < 4294967296 ^ m) (lR : ∀ d ∈ R, d < 4294967296)
    (h1 : dval R + D * (4294967296 ^ (i + 1) * dval (Q.drop (i + 1))) = A0) (h2 : dval (R.drop (i + 1)) < D) :
    dval ((R.drop i).take (m + 1)) < 4294967296 * D ∧
    (win'.length = m + 1 → dval win' = dval ((R.drop i).take (m + 1)) % D →
      dval (R.take i ++ win' ++ R.drop (i + (m + 1))) + D * (4294967296 ^ i * dval ((Q.set i (dval ((R.drop i).take (m + 1)) / D)).drop i)) = A0 ∧ dval ((R.take i ++ win' ++ R.drop (i + (m + 1))).drop i) < D) := by
  have e1 := dval_drop1 R i
  have hx := getD_lt_of lR i
  have e2 := dval_split (R.drop i) (m + 1) (by simp; omega)
  rw [List.drop_drop] at e2
  have hV : dval (R.drop i) < 4294967296 * D := by
    rw [e1]
    have : 4294967296 * (dval (R.drop (i + 1)) + 1) ≤ 4294967296 * D := Nat.mul_le_mul_left _ h2
    omega
  have hz : dval (R.drop (i + (m + 1))) = 0 := by
    rcases Nat.eq_zero_or_pos (dval (R.drop (i + (m + 1)))) with h | h
    · exact h
    · have h3 : 4294967296 ^ (m + 1) * 1 ≤ 4294967296 ^ (m + 1) * dval (R.drop (i + (m + 1))) := Nat.mul_le_mul_left _ h
      have h4 : 4294967296 * D ≤ 4294967296 * 4294967296 ^ m := Nat.mul_le_mul_left _ (by omega)
      rw [Nat.pow_succ, Nat.mul_comm _ 4294967296] at h3
      rw [Nat.pow_succ, Nat.mul_comm _ 4294967296] at e2
      omega
  rw [hz, Nat.mul_zero, Nat.add_zero] at e2
  refine ⟨by omega, fun hl hv => ?_⟩
  have hp : (R.take i).length = i := by simp; omega
  have e3 := dval_split R i (by omega)
  have dz : dval (win' ++ R.drop (i + (m + 1))) = dval win' := by rw [dval_append, hz]; simp
  constructor
  · rw [List.append_assoc, dval_append, hp, dz, dval_drop1, getD_set _ _ _ _ (by omega), if_pos rfl, List.drop_set_of_lt (by omega), hv, ← h1, e3, e2]
    have h6 := Nat.div_add_mod (dval (List.take (m + 1) (List.drop i R))) D
    rw [Nat.pow_succ]
    generalize dval (List.take (m + 1) (List.drop i R)) = V at *
    generalize V / D = q at *
    generalize V % D = r at *
    generalize 4294967296 ^ i = P at *
    generalize dval (Q.drop (i + 1)) = X at *
    generalize dval (R.take i) = T at *
    subst h6
    clear h1 h2 hD hV hz e1 e2 e3 hv dz
    grind
  · have : ((R.take i ++ win' ++ R.drop (i + (m + 1))).drop i) = win' ++ R.drop (i + (m + 1)) := by
      rw [List.append_assoc, List.drop_append, hp, Nat.sub_self, List.drop_zero, List.drop_eq_nil_of_le (by omega), List.nil_append]
    rw [this, dz, hv]
    exact Nat.mod_lt _ (by omega)
theorem long_start (R Q : List Nat) (m n D s a Z : Nat) (hR : R.length = n + 1) (hQ : dval (Q.drop (n - m + 1)) = 0) (hm : 1 ≤ m) (hmn : m ≤ n) (ha : a < 4294967296 ^ n) (h0 : 2 ^ s ≤ Z) (hZ : 0 < Z) (hv : dval R = 2 ^ s * a) (hD : 4294967296 ^ (m - 1) * Z ≤ D) :
    dval R + D * (4294967296 ^ (n - m + 1) * dval (Q.drop (n - m + 1))) = 2 ^ s * a ∧ dval (R.drop (n - m + 1)) < D := by
  have e := dval_split R (n - m + 1) (by omega)
  refine ⟨by rw [hQ, hv, Nat.mul_zero, Nat.mul_zero, Nat.add_zero], ?_⟩
  rw [hv] at e
  have h3 : (4294967296 : Nat) ^ n = 4294967296 ^ (n - m + 1) * 4294967296 ^ (m - 1) := by rw [← Nat.pow_add]; congr 1; omega
  rw [h3] at ha
  generalize (4294967296 : Nat) ^ (n - m + 1) = X at *
  generalize (4294967296 : Nat) ^ (m - 1) = Y at *
  generalize dval (R.drop (n - m + 1)) = V at *
  generalize dval (R.take (n - m + 1)) = U at *
  have h1 : 2 ^ s * a < Z * (X * Y) := Nat.lt_of_le_of_lt (Nat.mul_le_mul_right _ h0) (Nat.mul_lt_mul_of_pos_left ha hZ)
  have h5 : Z * (X * Y) = X * (Y * Z) := by rw [Nat.mul_comm, Nat.mul_assoc]
  rw [h5, e] at h1
  have h4 : X * V < X * (Y * Z) := Nat.lt_of_le_of_lt (Nat.le_add_left _ _) h1
  exact Nat.lt_of_lt_of_le (Nat.lt_of_mul_lt_mul_left h4) hD
theorem long_fin (R Q : List Nat) (s a b D : Nat) (hb : 0 < b) (hD : D = 2 ^ s * b) (h : dval R + D * dval Q = 2 ^ s * a) (hlt : dval R < D) : dval Q = a / b ∧ dval R = 2 ^ s * (a % b) := by
  have hp : 0 < 2 ^ s := Nat.pow_pos (by decide)
  have hD0 : 0 < D := by omega
  have e1 : (2 ^ s * a) / D = dval Q := by rw [← h, Nat.add_comm, Nat.mul_add_div hD0, Nat.div_eq_of_lt hlt]; rfl
  have e2 : (2 ^ s * a) % D = dval R := by rw [← h, Nat.add_comm, Nat.mul_add_mod, Nat.mod_eq_of_lt hlt]
  rw [hD, Nat.mul_div_mul_left _ _ hp] at e1
  rw [hD, Nat.mul_mod_mul_left] at e2
  exact ⟨e1.symm, e2.symm⟩
end Go.Proofs.YtgmjpkkpkdcncaaDoor
