/- Maths, Or, TextM, MathF, joined: no claim of its own. -/
import Derived.WalkKit
namespace Go.Proofs.YtbllnkhbahenkaaGreatDoor
/-- The value of a list of digits. -/
def dval : List Nat → Nat
  | [] => 0
  | d :: ds => d + 4294967296 * dval ds
/-- No leading (last) zero. -/
def Tight (xs : List Nat) : Prop := xs.length = 0 ∨ xs.getD (xs.length - 1) 0 ≠ 0
theorem dval_append (xs ys : List Nat) : dval (xs ++ ys) = dval xs + 4294967296 ^ xs.length * dval ys := by
  induction xs with
  | nil => simp [dval]
  | cons x xs ih => simp only [List.cons_append, dval, ih, List.length_cons, Nat.pow_succ]; rw [Nat.mul_add, ← Nat.mul_assoc, Nat.mul_comm 4294967296 (4294967296 ^ xs.length)]; omega
theorem dval_zeros (xs : List Nat) (h : ∀ d ∈ xs, d = 0) : dval xs = 0 := by
  induction xs with
  | nil => rfl
  | cons x xs ih =>
    have h1 := h x (by simp)
    have h2 := ih fun d hd => h d (by simp [hd])
    simp [dval, h1, h2]
theorem dval_take (xs : List Nat) (k : Nat) (h : ∀ j, k ≤ j → xs.getD j 0 = 0) : dval (xs.take k) = dval xs := by
  rw [← List.take_append_drop k xs, dval_append]
  have : dval (xs.drop k) = 0 := dval_zeros _ fun d hd => by
    obtain ⟨i, hi, rfl⟩ := List.mem_iff_getElem.1 hd
    have := h (k + i) (by omega)
    rw [List.length_drop] at hi
    rw [List.getD_eq_getElem?_getD, List.getElem?_eq_getElem (by omega)] at this
    simpa using this
  simp [this]
theorem dval_lt (xs : List Nat) (h : ∀ d ∈ xs, d < 4294967296) : dval xs < 4294967296 ^ xs.length := by
  induction xs with
  | nil => simp [dval]
  | cons x xs ih =>
    have h1 := h x (by simp)
    have h2 := ih fun d hd => h d (by simp [hd])
    simp only [dval, List.length_cons, Nat.pow_succ]
    omega
theorem dval_pos (xs : List Nat) (h0 : xs.length ≠ 0) (h : Tight xs) : 4294967296 ^ (xs.length - 1) ≤ dval xs := by
  induction xs with
  | nil => simp at h0
  | cons x xs ih =>
    rcases Nat.eq_zero_or_pos xs.length with hz | hp
    · have : xs = [] := List.eq_nil_of_length_eq_zero hz
      subst this
      have : x ≠ 0 := by simpa [Tight] using h
      simp [dval]; omega
    · have ht : Tight xs := by
        right
        have h' : (x :: xs).getD (xs.length + 1 - 1) 0 ≠ 0 := by simpa [Tight] using h
        rw [show xs.length + 1 - 1 = (xs.length - 1) + 1 by omega, List.getD_cons_succ] at h'
        exact h'
      have := ih (by omega) ht
      simp only [dval, List.length_cons]
      rw [show xs.length + 1 - 1 = (xs.length - 1) + 1 by omega, Nat.pow_succ]
      omega
/-- Tight lists of digits with one value are one list. -/
theorem dval_inj : ∀ (xs ys : List Nat), (∀ d ∈ xs, d < 4294967296) → (∀ d ∈ ys, d < 4294967296) → Tight xs → Tight ys → dval xs = dval ys → xs = ys := by
  have tl : ∀ (x : Nat) (xs : List Nat), Tight (x :: xs) → Tight xs := by
    intro x xs h
    rcases Nat.eq_zero_or_pos xs.length with hz | hp
    · exact .inl hz
    · right
      have h' : (x :: xs).getD (xs.length + 1 - 1) 0 ≠ 0 := by simpa [Tight] using h
      rw [show xs.length + 1 - 1 = (xs.length - 1) + 1 by omega, List.getD_cons_succ] at h'
      exact h'
  intro xs
  induction xs with
  | nil =>
    intro ys _ _ _ ht he
    rcases ys with _ | ⟨y, ys⟩
    · rfl
    · have := dval_pos (y :: ys) (by simp) ht
      have h1 : 0 < 4294967296 ^ ((y :: ys).length - 1) := Nat.pow_pos (by decide)
      rw [← he] at this
      simp only [dval] at this
      omega
  | cons x xs ih =>
    intro ys hx hy hxt hyt he
    rcases ys with _ | ⟨y, ys⟩
    · have := dval_pos (x :: xs) (by simp) hxt
      have h1 : 0 < 4294967296 ^ ((x :: xs).length - 1) := Nat.pow_pos (by decide)
      rw [he] at this
      simp only [dval] at this
      omega
    · simp only [dval] at he
      have h1 := hx x (by simp)
      have h2 := hy y (by simp)
      have e1 : x = y := by omega
      have e2 : dval xs = dval ys := by omega
      rw [e1, ih ys (fun d hd => hx d (by simp [hd])) (fun d hd => hy d (by simp [hd])) (tl _ _ hxt) (tl _ _ hyt) e2]
end Go.Proofs.YtbllnkhbahenkaaGreatDoor
/- Plain mathematics of digits in base 2^32, more: no program, no claim of its own. -/
namespace Go.Proofs.YtbllnkhbahenkaaGreatDoor
theorem dval_set (xs : List Nat) (k d : Nat) (h : k < xs.length) : dval (xs.set k d) + 4294967296 ^ k * xs.getD k 0 = dval xs + 4294967296 ^ k * d := by
  induction xs generalizing k with
  | nil => simp at h
  | cons x xs ih =>
    rcases k with _ | k
    · simp [dval]; omega
    · have := ih k (by simpa using h)
      simp only [List.set_cons_succ, dval, List.getD_cons_succ, Nat.pow_succ]
      grind
theorem dval_take_succ (xs : List Nat) (k : Nat) (h : k < xs.length) : dval (xs.take (k + 1)) = dval (xs.take k) + 4294967296 ^ k * xs.getD k 0 := by
  rw [List.take_succ_eq_append_getElem h, dval_append, List.length_take, Nat.min_eq_left (by omega), List.getD_eq_getElem?_getD, List.getElem?_eq_getElem h]
  simp [dval]
theorem dval_take_succ' (xs : List Nat) (k : Nat) : dval (xs.take (k + 1)) = dval (xs.take k) + 4294967296 ^ k * xs.getD k 0 := by
  rcases Nat.lt_or_ge k xs.length with h | h
  · exact dval_take_succ xs k h
  · rw [List.take_of_length_le (by omega), List.take_of_length_le h, List.getD_eq_getElem?_getD, List.getElem?_eq_none h]; simp
theorem carry_none' (P M a b c v : Nat) (hM : 2 ≤ M) (ha : a < P) (hb : b < P) (h : v + P * M * c = a + b) : v = a + b := by
  rcases c with _ | c
  · rw [Nat.mul_zero] at h; exact h
  · have h1 : P * 2 ≤ P * M := Nat.mul_le_mul_left _ hM
    have h2 : P * M * 1 ≤ P * M * (c + 1) := Nat.mul_le_mul_left _ (by omega)
    rw [Nat.mul_one] at h2
    generalize P * M * (c + 1) = X at *
    generalize P * M = Y at *
    omega
theorem carry_none (P a b c v : Nat) (ha : a < P) (hb : b < P) (h : v + P * 4294967296 * c = a + b) : v = a + b :=
  carry_none' P 4294967296 a b c v (by omega) ha hb h
theorem no_carry (Q T c v : Nat) (hT : T < Q) (h : v + Q * c = T) : v = T := by
  rcases c with _ | c
  · rw [Nat.mul_zero] at h; exact h
  · have h2 : Q * 1 ≤ Q * (c + 1) := Nat.mul_le_mul_left _ (by omega)
    rw [Nat.mul_one] at h2
    generalize Q * (c + 1) = X at *
    omega
theorem len_le {xs : List Nat} {k : Nat} (ht : Tight xs) (h : dval xs < 4294967296 ^ k) : xs.length ≤ k := by
  rcases Nat.lt_or_ge k xs.length with hk | hk
  · have h1 := dval_pos xs (by omega) ht
    have h2 : 4294967296 ^ k ≤ 4294967296 ^ (xs.length - 1) := Nat.pow_le_pow_right (by decide) (by omega)
    omega
  · exact hk
theorem getD_lt_of {xs : List Nat} (h : ∀ d ∈ xs, d < 4294967296) (k : Nat) : xs.getD k 0 < 4294967296 := by
  rcases Nat.lt_or_ge k xs.length with hk | hk
  · rw [List.getD_eq_getElem?_getD, List.getElem?_eq_getElem hk]; exact h _ (List.getElem_mem hk)
  · rw [List.getD_eq_getElem?_getD, List.getElem?_eq_none hk]; decide
theorem lt_set {xs : List Nat} (h : ∀ d ∈ xs, d < 4294967296) (k d : Nat) (hd : d < 4294967296) : ∀ x ∈ xs.set k d, x < 4294967296 := fun x hx => by
  rcases List.mem_or_eq_of_mem_set hx with h1 | h1
  · exact h x h1
  · exact h1 ▸ hd
theorem dval_replicate (n : Nat) : dval (List.replicate n 0) = 0 := dval_zeros _ fun _d hd => (List.mem_replicate.1 hd).2
theorem getD_set (xs : List Nat) (k j d : Nat) (h : k < xs.length) : (xs.set k d).getD j 0 = if k = j then d else xs.getD j 0 := by
  simp only [List.getD_eq_getElem?_getD, List.getElem?_set]
  split <;> simp_all
theorem getD_replicate (n j : Nat) : (List.replicate n 0).getD j 0 = 0 := by
  rw [List.getD_eq_getElem?_getD, List.getElem?_replicate]
  split <;> rfl
end Go.Proofs.YtbllnkhbahenkaaGreatDoor
/- Plain mathematics of digits: order. No program, no claim of its own. -/
namespace Go.Proofs.YtbllnkhbahenkaaGreatDoor
theorem dval_uncons (xs : List Nat) : dval xs = xs.getD 0 0 + 4294967296 * dval xs.tail := by
  cases xs <;> simp [dval]
theorem getD_tail (xs : List Nat) (j : Nat) : xs.tail.getD j 0 = xs.getD (j + 1) 0 := by
  cases xs <;> simp
theorem dval_ext (xs ys : List Nat) (h : ∀ j, xs.getD j 0 = ys.getD j 0) : dval xs = dval ys := by
  induction xs generalizing ys with
  | nil =>
    rw [dval_zeros ys fun d hd => by
      obtain ⟨i, hi, rfl⟩ := List.mem_iff_getElem.1 hd
      have := h i
      simpa [hi] using this.symm]
    rfl
  | cons x xs ih =>
    have h0 := h 0
    have := ih ys.tail fun j => by rw [getD_tail]; have := h (j + 1); simpa using this
    rw [dval_uncons ys, ← this, ← h0]
    simp [dval]
theorem cmp_lt (xs ys : List Nat) (k : Nat) (hx : ∀ j, xs.getD j 0 < 4294967296) (h : ∀ j, k + 1 ≤ j → xs.getD j 0 = ys.getD j 0) (hk : xs.getD k 0 < ys.getD k 0) : dval xs < dval ys := by
  induction k generalizing xs ys with
  | zero =>
    rw [dval_uncons xs, dval_uncons ys, dval_ext xs.tail ys.tail fun j => by rw [getD_tail, getD_tail]; exact h (j + 1) (by omega)]
    omega
  | succ k ih =>
    have := ih xs.tail ys.tail (fun j => by rw [getD_tail]; exact hx _) (fun j hj => by rw [getD_tail, getD_tail]; exact h _ (by omega)) (by rw [getD_tail, getD_tail]; exact hk)
    have := hx 0
    rw [dval_uncons xs, dval_uncons ys]
    omega
theorem len_lt (xs ys : List Nat) (hx : ∀ d ∈ xs, d < 4294967296) (ht : Tight ys) (h : xs.length < ys.length) : dval xs < dval ys := by
  have h1 := dval_lt xs hx
  have h2 := dval_pos ys (by omega) ht
  have h3 : 4294967296 ^ xs.length ≤ 4294967296 ^ (ys.length - 1) := Nat.pow_le_pow_right (by decide) (by omega)
  omega
def cmpI (a b : Nat) : Int := if a < b then -1 else if b < a then 1 else 0
theorem cmpI_lt {a b : Nat} (h : a < b) : cmpI a b = -1 := by simp [cmpI, h]
theorem cmpI_gt {a b : Nat} (h : b < a) : cmpI a b = 1 := by unfold cmpI; rw [if_neg (by omega), if_pos h]
theorem cmpI_eq {a b : Nat} (h : a = b) : cmpI a b = 0 := by subst h; simp [cmpI]
theorem small_iff (xs : List Nat) (hx : ∀ d ∈ xs, d < 4294967296) (ht : Tight xs) : xs.length ≤ 2 ↔ dval xs < 18446744073709551616 := by
  constructor
  · intro h
    have h1 := dval_lt xs hx
    have h3 : 4294967296 ^ xs.length ≤ 4294967296 ^ 2 := Nat.pow_le_pow_right (by decide) h
    omega
  · intro h
    rcases Nat.lt_or_ge 2 xs.length with h2 | h2
    · have h2 := dval_pos xs (by omega) ht
      have h3 : 4294967296 ^ 2 ≤ 4294967296 ^ (xs.length - 1) := Nat.pow_le_pow_right (by decide) (by omega)
      omega
    · exact h2
end Go.Proofs.YtbllnkhbahenkaaGreatDoor
/- Plain mathematics of long division: no program, no claim of its own. -/
namespace Go.Proofs.YtbllnkhbahenkaaGreatDoor
theorem est_top {M W D q : Nat} (h : W < M * D) (hq : q = W / D) (hD : 0 < D) : q < M := by
  subst hq; exact (Nat.div_lt_iff_lt_mul hD).2 h
/-- The first estimate is not too small. -/
theorem est_start {W D H t P : Nat} (h1 : W < (H + 1) * P) (h2 : t * P ≤ D) (ht : 0 < t) : W / D ≤ H / t := by
  rw [Nat.le_div_iff_mul_le ht]
  have h3 : W / D * D ≤ W := Nat.div_mul_le_self _ _
  have h4 : W / D * (t * P) ≤ W / D * D := Nat.mul_le_mul_left _ h2
  rw [← Nat.mul_assoc] at h4
  have h5 : W / D * t * P < (H + 1) * P := by omega
  have := Nat.lt_of_mul_lt_mul_right h5
  omega
theorem est_exit {W D T H P f : Nat} (h1 : f * T ≤ H) (h2 : D < (T + 1) * P) (h3 : H * P ≤ W) (h4 : f ≤ T + 1) (hD : 0 < D) : f ≤ W / D + 1 := by
  rcases f with _ | e
  · exact Nat.zero_le _
  · have : e ≤ W / D := by
      rw [Nat.le_div_iff_mul_le hD]
      have a1 : e * D ≤ e * ((T + 1) * P) := Nat.mul_le_mul_left _ (Nat.le_of_lt h2)
      rw [← Nat.mul_assoc] at a1
      have a2 : e * (T + 1) ≤ H := by
        rw [Nat.add_mul, Nat.one_mul] at h1
        rw [Nat.mul_add, Nat.mul_one]
        omega
      have a3 : e * (T + 1) * P ≤ H * P := Nat.mul_le_mul_right _ a2
      omega
    omega
theorem est_step {W D T H P f : Nat} (h1 : H < f * T) (h2 : T * P ≤ D) (h3 : W < (H + 1) * P) (hD : 0 < D) : W / D < f := by
  rw [Nat.div_lt_iff_lt_mul hD]
  have a1 : (H + 1) * P ≤ f * T * P := Nat.mul_le_mul_right _ h1
  have a2 : f * (T * P) ≤ f * D := Nat.mul_le_mul_left _ h2
  rw [← Nat.mul_assoc] at a2
  omega
theorem est_lin1 {f t u r H M c : Nat} (e : f * t + r = H) (h1 : r * M + c < f * u) : H * M + c < f * (t * M + u) := by
  subst e
  rw [Nat.mul_add, ← Nat.mul_assoc, Nat.add_mul]
  generalize f * t * M = x
  omega
theorem est_lin2 {f t u r H M c : Nat} (e : f * t + r = H) (h1 : f * u ≤ r * M + c) : f * (t * M + u) ≤ H * M + c := by
  subst e
  rw [Nat.mul_add, ← Nat.mul_assoc, Nat.add_mul]
  generalize f * t * M = x
  omega
theorem dval_top2 (ys : List Nat) (m : Nat) (h : ys.length = m + 2) : dval ys = dval (ys.take m) + 4294967296 ^ m * (ys.getD (m + 1) 0 * 4294967296 + ys.getD m 0) := by
  have e1 := dval_take_succ' ys m
  have e2 := dval_take_succ' ys (m + 1)
  rw [List.take_of_length_le (by omega)] at e2
  rw [e2, e1, Nat.pow_succ]
  generalize (4294967296 : Nat) ^ m = P
  generalize ys.getD (m + 1) 0 = a
  generalize ys.getD m 0 = b
  grind
theorem dval_top3 (xs : List Nat) (m : Nat) (h : xs.length = m + 3) : dval xs = dval (xs.take m) + 4294967296 ^ m * ((xs.getD (m + 2) 0 * 4294967296 + xs.getD (m + 1) 0) * 4294967296 + xs.getD m 0) := by
  have e1 := dval_take_succ' xs m
  have e2 := dval_take_succ' xs (m + 1)
  have e3 := dval_take_succ' xs (m + 2)
  rw [List.take_of_length_le (by omega)] at e3
  rw [e3, e2, e1, Nat.pow_succ, Nat.pow_succ, Nat.pow_succ]
  generalize (4294967296 : Nat) ^ m = P
  generalize xs.getD (m + 2) 0 = a
  generalize xs.getD (m + 1) 0 = b
  generalize xs.getD m 0 = c
  grind
theorem pow_bounds {low P X : Nat} (h : low < P) : X * P ≤ low + P * X ∧ low + P * X < (X + 1) * P := by
  rw [Nat.mul_comm X P, Nat.add_mul, Nat.one_mul, Nat.mul_comm X P]
  omega
/-- What the estimate needs to know of the window W and the divisor D: the three digits a, b, c on top of the one, the two digits t, u on top of the other. -/
structure Est (W D a b c t u : Nat) : Prop where
  la : a < 4294967296
  lb : b < 4294967296
  lc : c < 4294967296
  lt : t < 4294967296
  lu : u < 4294967296
  top : 2147483648 ≤ t
  hW : W < 4294967296 * D
  ex : ∃ P, 0 < P ∧ ((a * 4294967296 + b) * 4294967296 + c) * P ≤ W ∧ W < ((a * 4294967296 + b) * 4294967296 + c + 1) * P ∧ (t * 4294967296 + u) * P ≤ D ∧ D < (t * 4294967296 + u + 1) * P
theorem Est.of (xs ys : List Nat) (m : Nat) (hx : xs.length = m + 3) (hy : ys.length = m + 2) (lx : ∀ d ∈ xs, d < 4294967296) (ly : ∀ d ∈ ys, d < 4294967296) (ht : 2147483648 ≤ ys.getD (m + 1) 0) (h : dval xs < 4294967296 * dval ys) :
    Est (dval xs) (dval ys) (xs.getD (m + 2) 0) (xs.getD (m + 1) 0) (xs.getD m 0) (ys.getD (m + 1) 0) (ys.getD m 0) := by
  have e1 := dval_lt (xs.take m) fun d hd => lx d (List.mem_of_mem_take hd)
  have e2 := dval_lt (ys.take m) fun d hd => ly d (List.mem_of_mem_take hd)
  rw [List.length_take, Nat.min_eq_left (by omega)] at e1 e2
  refine ⟨getD_lt_of lx _, getD_lt_of lx _, getD_lt_of lx _, getD_lt_of ly _, getD_lt_of ly _, ht, h, 4294967296 ^ m, Nat.pow_pos (by decide), ?_⟩
  rw [dval_top3 xs m hx, dval_top2 ys m hy]
  exact ⟨(pow_bounds e1).1, (pow_bounds e1).2, (pow_bounds e2).1, (pow_bounds e2).2⟩
section
variable {W D a b c t u : Nat}
theorem Est.pos (h : Est W D a b c t u) : 0 < D := by
  have := h.hW
  rcases Nat.eq_zero_or_pos D with h0 | h0
  · subst h0; omega
  · exact h0
theorem Est.start (h : Est W D a b c t u) : W / D ≤ (a * 4294967296 + b) / t := by
  obtain ⟨P, hP, h1, h2, h3, h4⟩ := h.ex
  have ht := h.top
  have hc := h.lc
  refine est_start (P := 4294967296 * P) ?_ ?_ (by omega)
  · rw [← Nat.mul_assoc]
    refine Nat.lt_of_lt_of_le h2 (Nat.mul_le_mul_right _ ?_)
    omega
  · rw [← Nat.mul_assoc]
    refine Nat.le_trans (Nat.mul_le_mul_right _ ?_) h3
    omega
theorem Est.most (h : Est W D a b c t u) : W / D ≤ 4294967295 := by
  have := est_top h.hW rfl h.pos
  omega
/-- The first digits are less than (t + 1) times the base. -/
theorem Est.high (h : Est W D a b c t u) : a * 4294967296 + b < 4294967296 * (t + 1) := by
  obtain ⟨P, hP, h1, h2, h3, h4⟩ := h.ex
  have hu := h.lu
  have hW := h.hW
  have a1 : (t * 4294967296 + u + 1) * P ≤ ((t + 1) * 4294967296) * P := Nat.mul_le_mul_right _ (by omega)
  have a2 : 4294967296 * D ≤ 4294967296 * (((t + 1) * 4294967296) * P) := Nat.mul_le_mul_left _ (by omega)
  have a3 : (a * 4294967296 + b) * 4294967296 * P ≤ ((a * 4294967296 + b) * 4294967296 + c) * P := Nat.mul_le_mul_right P (Nat.le_add_right _ c)
  have a4 : (a * 4294967296 + b) * (4294967296 * P) < (4294967296 * (t + 1)) * (4294967296 * P) := by
    rw [← Nat.mul_assoc]
    have : 4294967296 * (((t + 1) * 4294967296) * P) = 4294967296 * (t + 1) * (4294967296 * P) := by
      rw [Nat.mul_assoc, Nat.mul_assoc]
    generalize 4294967296 * (((t + 1) * 4294967296) * P) = X at *
    generalize 4294967296 * (t + 1) * (4294967296 * P) = Y at *
    omega
  exact Nat.lt_of_mul_lt_mul_right a4
theorem Est.step (h : Est W D a b c t u) {f r : Nat} (hr : f * t + r = a * 4294967296 + b) (h1 : r * 4294967296 + c < f * u) : W / D < f := by
  obtain ⟨P, hP, g1, g2, g3, g4⟩ := h.ex
  exact est_step (est_lin1 hr h1) g3 g2 h.pos
theorem Est.exit (h : Est W D a b c t u) {f r : Nat} (hf : f ≤ 4294967295) (hr : f * t + r = a * 4294967296 + b) (h1 : f * u ≤ r * 4294967296 + c) : f ≤ W / D + 1 := by
  obtain ⟨P, hP, g1, g2, g3, g4⟩ := h.ex
  have ht := h.top
  exact est_exit (est_lin2 hr h1) g4 g1 (by omega) h.pos
theorem Est.exit' (h : Est W D a b c t u) {f r : Nat} (hf : f ≤ 4294967295) (hr : f * t + r = a * 4294967296 + b) (h1 : 4294967296 ≤ r) : f ≤ W / D + 1 := by
  refine h.exit hf hr ?_
  have hu := h.lu
  have : f * u ≤ 4294967295 * 4294967295 := Nat.mul_le_mul hf (by omega)
  omega
end
/-- What divideStep comes to. -/
theorem step_end {W D f win X : Nat} {neg : Bool} (hD : 0 < D) (h1 : W / D ≤ f) (h2 : f ≤ W / D + 1) (h : win + f * D = W + (if neg then X else 0)) (hw : win < X) :
    (neg = false → f = W / D ∧ win = W % D) ∧ (neg = true → f = W / D + 1 ∧ win + D = W % D + X) := by
  have e := Nat.div_add_mod W D
  have l := Nat.mod_lt W hD
  rw [Nat.mul_comm] at e
  constructor
  · intro hn
    subst hn
    have : f = W / D := by
      rcases Nat.lt_or_ge (W / D) f with h3 | h3
      · have : f = W / D + 1 := by omega
        rw [this, Nat.add_mul, Nat.one_mul] at h
        simp at h
        omega
      · omega
    refine ⟨this, ?_⟩
    rw [this] at h
    simp at h
    omega
  · intro hn
    subst hn
    have : f = W / D + 1 := by
      rcases Nat.lt_or_ge (W / D) f with h3 | h3
      · omega
      · have h4 : f = W / D := by omega
        rw [h4] at h
        simp at h
        omega
    refine ⟨this, ?_⟩
    rw [this, Nat.add_mul, Nat.one_mul] at h
    simp at h
    omega
theorem subp_digit (x lo : Nat) (h1 : x < 4294967296) (h2 : lo < 4294967296) : (x + 4294967296 - lo) % 4294967296 + lo = x + 4294967296 * (if x < lo then 1 else 0) := by
  by_cases h : x < lo
  · rw [if_pos h]; omega
  · rw [if_neg h]; omega
theorem subp_carry (c y f : Nat) (hc : c ≤ 4294967295) (hy : y < 4294967296) (hf : f < 4294967296) : c + y * f ≤ 4294967295 * 4294967296 := by
  have : y * f ≤ 4294967295 * 4294967295 := Nat.mul_le_mul (by omega) (by omega)
  omega
end Go.Proofs.YtbllnkhbahenkaaGreatDoor
/- Plain mathematics of binary digits: no program, no claim of its own. -/
namespace Go.Proofs.YtbllnkhbahenkaaGreatDoor
theorem base2 : (4294967296 : Nat) = 2 ^ 32 := by decide
theorem pow_base (k : Nat) : (4294967296 : Nat) ^ k = 2 ^ (32 * k) := by rw [Nat.pow_mul, base2]
theorem digit_div (xs : List Nat) (h : ∀ j, xs.getD j 0 < 4294967296) (k : Nat) : dval xs / 4294967296 ^ k % 4294967296 = xs.getD k 0 := by
  induction k generalizing xs with
  | zero =>
    have := h 0
    rw [dval_uncons xs, Nat.pow_zero, Nat.div_one, Nat.add_mul_mod_self_left, Nat.mod_eq_of_lt this]
  | succ k ih =>
    have h0 := h 0
    rw [Nat.pow_succ, Nat.mul_comm, ← Nat.div_div_eq_div_mul, dval_uncons xs, Nat.add_mul_div_left _ _ (by decide), Nat.div_eq_of_lt h0, Nat.zero_add, ih xs.tail (fun j => by rw [getD_tail]; exact h _), getD_tail]
theorem mod_div_mod (X s t u : Nat) (h : s + u ≤ t) : (X % 2 ^ t) / 2 ^ s % 2 ^ u = X / 2 ^ s % 2 ^ u := by
  obtain ⟨v, rfl⟩ : ∃ v, t = s + v := ⟨t - s, by omega⟩
  rw [Nat.pow_add, Nat.mod_mul_right_div_self, Nat.mod_mod_of_dvd _ (Nat.pow_dvd_pow 2 (by omega))]
theorem bit_math (xs : List Nat) (h : ∀ j, xs.getD j 0 < 4294967296) (i : Nat) : xs.getD (i / 32) 0 / 2 ^ (i % 32) % 2 = dval xs / 2 ^ i % 2 := by
  have e := mod_div_mod (dval xs / 4294967296 ^ (i / 32)) (i % 32) 32 1 (by omega)
  rw [Nat.pow_one, ← base2, digit_div xs h] at e
  rw [e, pow_base, Nat.div_div_eq_div_mul, ← Nat.pow_add, Nat.div_add_mod]
theorem high_math (xs : List Nat) (h : ∀ j, xs.getD j 0 < 4294967296) (i s : Nat) (hs : s < 32) :
    (xs.getD i 0 + xs.getD (i + 1) 0 * 4294967296) / 2 ^ s % 4294967296 = dval xs / 2 ^ (32 * i + s) % 4294967296 := by
  have e := mod_div_mod (dval xs / 4294967296 ^ i) s 64 32 (by omega)
  have e2 : (dval xs / 4294967296 ^ i) % 2 ^ 64 = xs.getD i 0 + xs.getD (i + 1) 0 * 4294967296 := by
    have e3 : (2 : Nat) ^ 64 = 4294967296 * 4294967296 := by decide
    rw [e3, Nat.mod_mul, digit_div xs h, Nat.div_div_eq_div_mul, ← Nat.pow_succ, digit_div xs h, Nat.mul_comm]
  rw [e2, ← base2, pow_base, Nat.div_div_eq_div_mul, ← Nat.pow_add] at e
  exact e
/-- a has its value below its length. -/
theorem dval_lt_bits (xs : List Nat) (n : Nat) (h : ∀ d ∈ xs, d < 4294967296) (hn : xs.length = n) : dval xs < 2 ^ (32 * n) := by
  have := dval_lt xs h
  rwa [hn, pow_base] at this
theorem bit_low {a n : Nat} (h : a < 2 ^ (n + 1)) (h0 : a / 2 ^ n % 2 = 0) : a < 2 ^ n := by
  have h1 : a / 2 ^ n < 2 := by rw [Nat.div_lt_iff_lt_mul (Nat.pow_pos (by decide)), Nat.mul_comm, ← Nat.pow_succ]; exact h
  have h2 : a / 2 ^ n = 0 := by generalize a / 2 ^ n = q at *; omega
  have h3 := (Nat.div_eq_zero_iff).1 h2
  rcases h3 with h3 | h3
  · have : 0 < 2 ^ n := Nat.pow_pos (by decide); omega
  · exact h3
theorem bit_high {a n : Nat} (h0 : a / 2 ^ n % 2 ≠ 0) : 2 ^ n ≤ a := by
  rcases Nat.lt_or_ge a (2 ^ n) with h | h
  · rw [Nat.div_eq_of_lt h] at h0; simp at h0
  · exact h
theorem bit_split (a i : Nat) : a / 2 ^ i = 2 * (a / 2 ^ (i + 1)) + a / 2 ^ i % 2 := by
  rw [Nat.pow_succ, ← Nat.div_div_eq_div_mul]
  omega
/-- The highest digits, taken at once, are less than the divisor. -/
theorem start_lt {a b x y k : Nat} (ha : a < 2 ^ x) (hb : 2 ^ (y - 1) ≤ b) (hk : x ≤ k + (y - 1)) : a / 2 ^ k < b := by
  rw [Nat.div_lt_iff_lt_mul (Nat.pow_pos (by decide))]
  have h1 : (2 : Nat) ^ x ≤ 2 ^ (k + (y - 1)) := Nat.pow_le_pow_right (by decide) hk
  rw [Nat.pow_add] at h1
  have h2 : 2 ^ k * 2 ^ (y - 1) ≤ 2 ^ k * b := Nat.mul_le_mul_left _ hb
  rw [Nat.mul_comm b]
  omega
theorem div_step {a b q r i t : Nat} (h : q * b + r = a / 2 ^ (i + 1)) (ht : a / 2 ^ i % 2 = t) : (q + q) * b + (r + r + t) = a / 2 ^ i := by
  rw [bit_split a i, ht, ← h, Nat.add_mul]; omega
theorem div_step' {b q r X : Nat} (h : q * b + r = X) (hr : b ≤ r) : (q + 1) * b + (r - b) = X := by
  rw [Nat.add_mul, Nat.one_mul]; omega
theorem div_fin {a b q r : Nat} (h : q * b + r = a / 2 ^ 0) (hr : r < b) : q = a / b ∧ r = a % b := by
  rw [Nat.pow_zero, Nat.div_one] at h
  subst h
  have h1 : 0 < b := by omega
  rw [Nat.mul_comm q b, Nat.mul_add_div h1, Nat.mul_add_mod, Nat.div_eq_of_lt hr, Nat.mod_eq_of_lt hr]
  exact ⟨rfl, rfl⟩
end Go.Proofs.YtbllnkhbahenkaaGreatDoor
/- Plain mathematics of long division, more: no program, no claim of its own. -/
namespace Go.Proofs.YtbllnkhbahenkaaGreatDoor
theorem dval_split (xs : List Nat) (k : Nat) (h : k ≤ xs.length) : dval xs = dval (xs.take k) + 4294967296 ^ k * dval (xs.drop k) := by
  have e := dval_append (xs.take k) (xs.drop k)
  rw [List.take_append_drop, List.length_take, Nat.min_eq_left h] at e
  exact e
theorem dval_drop1 (xs : List Nat) (k : Nat) : dval (xs.drop k) = xs.getD k 0 + 4294967296 * dval (xs.drop (k + 1)) := by
  rw [dval_uncons (xs.drop k), List.tail_drop]
  congr 1
  rw [List.getD_eq_getElem?_getD, List.getElem?_drop, List.getD_eq_getElem?_getD, Nat.add_zero]
/-- The shifted divisor: as many digits as before, the highest bit set. -/
theorem norm_div (ys row : List Nat) (m s L b : Nat) (hm : 0 < m) (hl : ys.length = m) (hlt : ∀ d ∈ ys, d < 4294967296) (hb : dval ys = b) (h1 : 2 ^ (L - 1) ≤ ys.getD (m - 1) 0) (h2 : ys.getD (m - 1) 0 < 2 ^ L) (hL : 1 ≤ L) (hs : L + s = 32)
    (hr : dval row = 2 ^ s * b) (hrt : ∀ d ∈ row, d < 4294967296) (k : Nat) (hk : k ≤ row.length) (ht : Tight (row.take k)) (hv : dval (row.take k) = dval row) :
    k = m ∧ 2147483648 ≤ (row.take k).getD (m - 1) 0 := by
  obtain ⟨j, rfl⟩ : ∃ j, m = j + 1 := ⟨m - 1, by omega⟩
  rw [Nat.add_sub_cancel] at *
  have e := dval_take_succ' ys j
  rw [List.take_of_length_le (by omega), hb] at e
  have lo := dval_lt (ys.take j) fun d hd => hlt d (List.mem_of_mem_take hd)
  rw [List.length_take, Nat.min_eq_left (by omega)] at lo
  have p31 : 2 ^ s * 2 ^ (L - 1) = 2147483648 := by rw [← Nat.pow_add, show s + (L - 1) = 31 by omega]
  have p32 : 2 ^ s * 2 ^ L = 4294967296 := by rw [← Nat.pow_add, show s + L = 32 by omega]
  have lower : 4294967296 ^ j * 2147483648 ≤ 2 ^ s * b := by
    have : 2 ^ s * (4294967296 ^ j * 2 ^ (L - 1)) ≤ 2 ^ s * b := by
      refine Nat.mul_le_mul_left _ ?_
      rw [e]
      have := Nat.mul_le_mul_left (4294967296 ^ j) h1
      omega
    rw [← Nat.mul_assoc, Nat.mul_comm (2 ^ s), Nat.mul_assoc, p31] at this
    exact this
  have upper : 2 ^ s * b < 4294967296 ^ (j + 1) := by
    have : b + 1 ≤ 4294967296 ^ j * 2 ^ L := by
      have := Nat.mul_le_mul_left (4294967296 ^ j) h2
      rw [Nat.succ_eq_add_one, Nat.mul_add, Nat.mul_one] at this
      omega
    have h3 := Nat.mul_le_mul_left (2 ^ s) this
    rw [← Nat.mul_assoc, Nat.mul_comm (2 ^ s) (4294967296 ^ j), Nat.mul_assoc, p32, Nat.mul_add, Nat.mul_one] at h3
    have : 0 < 2 ^ s := Nat.pow_pos (by decide)
    rw [Nat.pow_succ]
    omega
  have hkl : (row.take k).length = k := by rw [List.length_take, Nat.min_eq_left hk]
  have lt' : ∀ d ∈ row.take k, d < 4294967296 := fun d hd => hrt d (List.mem_of_mem_take hd)
  rw [hr] at hv
  have k1 : k ≤ j + 1 := by
    have := len_le ht (show dval (row.take k) < 4294967296 ^ (j + 1) by rw [hv]; exact upper)
    omega
  have pj : 0 < (4294967296 : Nat) ^ j := Nat.pow_pos (by decide)
  have k2 : j + 1 ≤ k := by
    have h3 := dval_lt _ lt'
    rw [hkl, hv] at h3
    have h4 : (4294967296 : Nat) ^ j < 4294967296 ^ k := by omega
    exact (Nat.pow_lt_pow_iff_right (by decide : 1 < 4294967296)).1 h4
  have kk : k = j + 1 := by omega
  subst kk
  refine ⟨rfl, ?_⟩
  have e2 := dval_take_succ' (row.take (j + 1)) j
  rw [List.take_of_length_le (by omega), hv] at e2
  have lo2 := dval_lt ((row.take (j + 1)).take j) fun d hd => lt' d (List.mem_of_mem_take hd)
  rw [List.length_take, hkl, Nat.min_eq_left (by omega)] at lo2
  generalize (row.take (j + 1)).getD j 0 = t at *
  rcases Nat.lt_or_ge t 2147483648 with h | h
  · have h5 : 4294967296 ^ j * (t + 1) ≤ 4294967296 ^ j * 2147483648 := Nat.mul_le_mul_left _ h
    rw [Nat.mul_add, Nat.mul_one] at h5
    omega
  · exact h
/-- One step of the long division. -/
theorem long_step (R Q win' : List Nat) (i m n D A0 : Nat) (hR : R.length = n + 1) (hQ : Q.length = n - m + 1) (hm : m ≤ n) (hi : i < n - m + 1) (hD : D < 4294967296 ^ m) (lR : ∀ d ∈ R, d < 4294967296)
    (h1 : dval R + D * (4294967296 ^ (i + 1) * dval (Q.drop (i + 1))) = A0) (h2 : dval (R.drop (i + 1)) < D) :
    dval ((R.drop i).take (m + 1)) < 4294967296 * D ∧
    (win'.length = m + 1 → dval win' = dval ((R.drop i).take (m + 1)) % D →
      dval (R.take i ++ win' ++ R.drop (i + (m + 1))) + D * (4294967296 ^ i * dval ((Q.set i (dval ((R.drop i).take (m + 1)) / D)).drop i)) = A0 ∧ dval ((R.take i ++ win' ++ R.drop (i + (m + 1))).drop i) < D) := by
  have e1 := dval_drop1 R i
  have hx := getD_lt_of lR i
  have e2 := dval_split (R.drop i) (m + 1) (by simp; omega)
  rw [List.drop_drop] at e2
  have hV : dval (R.drop i) < 4294967296 * D := by
    rw [e1]
    have : 4294967296 * (dval (R.drop (i + 1)) + 1) ≤ 4294967296 * D := Nat.mul_le_mul_left _ h2
    omega
  have hz : dval (R.drop (i + (m + 1))) = 0 := by
    rcases Nat.eq_zero_or_pos (dval (R.drop (i + (m + 1)))) with h | h
    · exact h
    · have h3 : 4294967296 ^ (m + 1) * 1 ≤ 4294967296 ^ (m + 1) * dval (R.drop (i + (m + 1))) := Nat.mul_le_mul_left _ h
      have h4 : 4294967296 * D ≤ 4294967296 * 4294967296 ^ m := Nat.mul_le_mul_left _ (by omega)
      rw [Nat.pow_succ, Nat.mul_comm _ 4294967296] at h3
      rw [Nat.pow_succ, Nat.mul_comm _ 4294967296] at e2
      omega
  rw [hz, Nat.mul_zero, Nat.add_zero] at e2
  refine ⟨by omega, fun hl hv => ?_⟩
  have hp : (R.take i).length = i := by simp; omega
  have e3 := dval_split R i (by omega)
  have dz : dval (win' ++ R.drop (i + (m + 1))) = dval win' := by rw [dval_append, hz]; simp
  constructor
  · rw [List.append_assoc, dval_append, hp, dz, dval_drop1, getD_set _ _ _ _ (by omega), if_pos rfl, List.drop_set_of_lt (by omega), hv, ← h1, e3, e2]
    have h6 := Nat.div_add_mod (dval (List.take (m + 1) (List.drop i R))) D
    rw [Nat.pow_succ]
    generalize dval (List.take (m + 1) (List.drop i R)) = V at *
    generalize V / D = q at *
    generalize V % D = r at *
    generalize 4294967296 ^ i = P at *
    generalize dval (Q.drop (i + 1)) = X at *
    generalize dval (R.take i) = T at *
    subst h6
    clear h1 h2 hD hV hz e1 e2 e3 hv dz
    grind
  · have : ((R.take i ++ win' ++ R.drop (i + (m + 1))).drop i) = win' ++ R.drop (i + (m + 1)) := by
      rw [List.append_assoc, List.drop_append, hp, Nat.sub_self, List.drop_zero, List.drop_eq_nil_of_le (by omega), List.nil_append]
    rw [this, dz, hv]
    exact Nat.mod_lt _ (by omega)
theorem long_start (R Q : List Nat) (m n D s a Z : Nat) (hR : R.length = n + 1) (hQ : dval (Q.drop (n - m + 1)) = 0) (hm : 1 ≤ m) (hmn : m ≤ n) (ha : a < 4294967296 ^ n) (h0 : 2 ^ s ≤ Z) (hZ : 0 < Z) (hv : dval R = 2 ^ s * a) (hD : 4294967296 ^ (m - 1) * Z ≤ D) :
    dval R + D * (4294967296 ^ (n - m + 1) * dval (Q.drop (n - m + 1))) = 2 ^ s * a ∧ dval (R.drop (n - m + 1)) < D := by
  have e := dval_split R (n - m + 1) (by omega)
  refine ⟨by rw [hQ, hv, Nat.mul_zero, Nat.mul_zero, Nat.add_zero], ?_⟩
  rw [hv] at e
  have h3 : (4294967296 : Nat) ^ n = 4294967296 ^ (n - m + 1) * 4294967296 ^ (m - 1) := by rw [← Nat.pow_add]; congr 1; omega
  rw [h3] at ha
  generalize (4294967296 : Nat) ^ (n - m + 1) = X at *
  generalize (4294967296 : Nat) ^ (m - 1) = Y at *
  generalize dval (R.drop (n - m + 1)) = V at *
  generalize dval (R.take (n - m + 1)) = U at *
  have h1 : 2 ^ s * a < Z * (X * Y) := Nat.lt_of_le_of_lt (Nat.mul_le_mul_right _ h0) (Nat.mul_lt_mul_of_pos_left ha hZ)
  have h5 : Z * (X * Y) = X * (Y * Z) := by rw [Nat.mul_comm, Nat.mul_assoc]
  rw [h5, e] at h1
  have h4 : X * V < X * (Y * Z) := Nat.lt_of_le_of_lt (Nat.le_add_left _ _) h1
  exact Nat.lt_of_lt_of_le (Nat.lt_of_mul_lt_mul_left h4) hD
theorem long_fin (R Q : List Nat) (s a b D : Nat) (_hb : 0 < b) (hD : D = 2 ^ s * b) (h : dval R + D * dval Q = 2 ^ s * a) (hlt : dval R < D) : dval Q = a / b ∧ dval R = 2 ^ s * (a % b) := by
  have hp : 0 < 2 ^ s := Nat.pow_pos (by decide)
  have hD0 : 0 < D := by omega
  have e1 : (2 ^ s * a) / D = dval Q := by rw [← h, Nat.add_comm, Nat.mul_add_div hD0, Nat.div_eq_of_lt hlt]; rfl
  have e2 : (2 ^ s * a) % D = dval R := by rw [← h, Nat.add_comm, Nat.mul_add_mod, Nat.mod_eq_of_lt hlt]
  rw [hD, Nat.mul_div_mul_left _ _ hp] at e1
  rw [hD, Nat.mul_mod_mul_left] at e2
  exact ⟨e1.symm, e2.symm⟩
end Go.Proofs.YtbllnkhbahenkaaGreatDoor
namespace Go.Proofs.YtbllnkhbahenkaaGreatDoor
open Go
theorem wrap_u64 (n : Nat) (h : n < 18446744073709551616) : IntKind.u64.wrap (n : Int) = (n : Int) := by
  have : IntKind.u64.wrap (n : Int) = (n : Int) % 18446744073709551616 := rfl
  rw [this]
  omega
theorem bits_or_u64 (x y : Nat) (hx : x < 18446744073709551616) (hy : y < 18446744073709551616) : bits BinOp.or IntKind.u64 (x : Int) (y : Int) = ((x ||| y : Nat) : Int) := by
  have h : x ||| y < 2 ^ 64 := Nat.or_lt_two_pow hx hy
  have e : bits BinOp.or IntKind.u64 (x : Int) (y : Int) = IntKind.u64.wrap (((BitVec.ofInt 64 (x : Int)) ||| (BitVec.ofInt 64 (y : Int))).toNat : Int) := rfl
  rw [e, BitVec.toNat_or, BitVec.ofInt_natCast, BitVec.ofInt_natCast, BitVec.toNat_ofNat, BitVec.toNat_ofNat, Nat.mod_eq_of_lt hx, Nat.mod_eq_of_lt hy]
  exact wrap_u64 _ h
theorem bits_hi_lo (hi lo : Nat) (h1 : hi < 4294967296) (h2 : lo < 4294967296) : bits BinOp.or IntKind.u64 ((hi : Int) * 4294967296) (lo : Int) = (hi : Int) * 4294967296 + (lo : Int) := by
  have e : (hi : Int) * 4294967296 = ((2 ^ 32 * hi : Nat) : Int) := by omega
  rw [e, bits_or_u64 _ _ (by omega) (by omega), ← Nat.two_pow_add_eq_or_of_lt (i := 32) h2]
  omega
theorem bits_lo_hi (lo hi : Nat) (h1 : hi < 4294967296) (h2 : lo < 4294967296) : bits BinOp.or IntKind.u64 (lo : Int) ((hi : Int) * 4294967296) = (lo : Int) + (hi : Int) * 4294967296 := by
  have e : (hi : Int) * 4294967296 = ((2 ^ 32 * hi : Nat) : Int) := by omega
  rw [e, bits_or_u64 _ _ (by omega) (by omega), Nat.or_comm, ← Nat.two_pow_add_eq_or_of_lt (i := 32) h2]
  omega
theorem bits_zero_lo (lo : Nat) (h2 : lo < 4294967296) : bits BinOp.or IntKind.u64 0 (lo : Int) = (lo : Int) := by
  have := bits_or_u64 0 lo (by omega) (by omega)
  rw [Nat.zero_or] at this
  exact this
end Go.Proofs.YtbllnkhbahenkaaGreatDoor
namespace Go.Proofs.YtbllnkhbahenkaaGreatDoor
def isDig (c : UInt8) : Prop := 48 ≤ c.toNat ∧ c.toNat ≤ 57
def decVal (l : List UInt8) : Nat := l.foldl (fun a c => 10 * a + (c.toNat - 48)) 0
theorem decVal_snoc (l : List UInt8) (c : UInt8) : decVal (l ++ [c]) = 10 * decVal l + (c.toNat - 48) := by simp [decVal, List.foldl_append]
open Classical in
noncomputable def parseErr (l : List UInt8) : Nat := if l.length = 0 then 1 else if 600 < l.length then 3 else if (l.getD 0 0 = 48 ∧ 1 < l.length) ∨ ¬ ∀ c ∈ l, isDig c then 2 else 0
theorem parseErr_short (l : List UInt8) (h : l.length = 0) : parseErr l = 1 := by simp [parseErr, h]
theorem parseErr_long (l : List UInt8) (h : 600 < l.length) : parseErr l = 3 := by unfold parseErr; rw [if_neg (by omega), if_pos h]
theorem parseErr_bad (l : List UInt8) (h0 : l.length ≠ 0) (h1 : l.length ≤ 600) (h : (l.getD 0 0 = 48 ∧ 1 < l.length) ∨ ¬ ∀ c ∈ l, isDig c) : parseErr l = 2 := by
  unfold parseErr; rw [if_neg h0, if_neg (by omega), if_pos h]
theorem parseErr_ok (l : List UInt8) (h0 : l.length ≠ 0) (h1 : l.length ≤ 600) (h : ¬ (l.getD 0 0 = 48 ∧ 1 < l.length)) (k : ∀ c ∈ l, isDig c) : parseErr l = 0 := by
  unfold parseErr; rw [if_neg h0, if_neg (by omega), if_neg (fun hh => hh.elim h (fun x => x k))]
theorem parseErr_zero (l : List UInt8) (h : parseErr l = 0) : l.length ≠ 0 ∧ l.length ≤ 600 ∧ ¬ (l.getD 0 0 = 48 ∧ 1 < l.length) ∧ ∀ c ∈ l, isDig c := by
  unfold parseErr at h
  split at h
  · cases h
  · split at h
    · cases h
    · split at h
      · cases h
      · rename_i h1 h2 h3
        exact ⟨h1, by omega, fun x => h3 (.inl x), Classical.byContradiction fun x => h3 (.inr x)⟩
theorem take_snoc' (s : ByteArray) (k : Nat) (h : k < s.size) : s.data.toList.take (k + 1) = s.data.toList.take k ++ [s[k]] := by
  rw [List.take_succ_eq_append_getElem (by simpa using h)]; rfl
theorem all_of_index (s : ByteArray) (P : UInt8 → Prop) (h : ∀ (j : Nat) (hj : j < s.size), P s[j]) : ∀ c ∈ s.data.toList, P c := by
  intro c hc
  obtain ⟨i, hi, rfl⟩ := List.mem_iff_getElem.1 hc
  exact h i (by simpa using hi)
theorem mem_index (s : ByteArray) (j : Nat) (hj : j < s.size) : s[j] ∈ s.data.toList := by
  have : s[j] = s.data.toList[j]'(by simpa using hj) := rfl
  rw [this]; exact List.getElem_mem _
theorem getD_zero (s : ByteArray) (h : 0 < s.size) : s.data.toList.getD 0 0 = s[0] := by
  rw [List.getD_eq_getElem?_getD, List.getElem?_eq_getElem (by simpa using h)]; rfl
theorem size_list (s : ByteArray) : s.data.toList.length = s.size := by simp
end Go.Proofs.YtbllnkhbahenkaaGreatDoor
/- Plain mathematics of decimal texts, more: no program, no claim of its own. -/
namespace Go.Proofs.YtbllnkhbahenkaaGreatDoor
def rv : List UInt8 → Nat
  | [] => 0
  | c :: cs => (c.toNat - 48) + 10 * rv cs
def TopD (r : List UInt8) : Prop := r.length = 0 ∨ r.getD (r.length - 1) 0 ≠ 48
theorem decVal_reverse (r : List UInt8) : decVal r.reverse = rv r := by
  induction r with
  | nil => rfl
  | cons c cs ih => rw [List.reverse_cons, decVal_snoc, ih]; simp only [rv]; omega
theorem topD_tail (c : UInt8) (cs : List UInt8) (h : TopD (c :: cs)) : TopD cs := by
  rcases Nat.eq_zero_or_pos cs.length with hz | hp
  · exact .inl hz
  · right
    have h' : (c :: cs).getD (cs.length + 1 - 1) 0 ≠ 48 := by simpa [TopD] using h
    rw [show cs.length + 1 - 1 = (cs.length - 1) + 1 by omega, List.getD_cons_succ] at h'
    exact h'
theorem rv_ge (r : List UInt8) (h0 : r.length ≠ 0) (hd : ∀ c ∈ r, isDig c) (h : TopD r) : 10 ^ (r.length - 1) ≤ rv r := by
  induction r with
  | nil => simp at h0
  | cons c cs ih =>
    rcases Nat.eq_zero_or_pos cs.length with hz | hp
    · have : cs = [] := List.eq_nil_of_length_eq_zero hz
      subst this
      have h1 : c ≠ 48 := by simpa [TopD] using h
      have h2 := (hd c (by simp)).1
      have h3 : c.toNat ≠ 48 := fun e => h1 (UInt8.toNat_inj.1 e)
      simp [rv]; omega
    · have := ih (by omega) (fun x hx => hd x (by simp [hx])) (topD_tail c cs h)
      simp only [rv, List.length_cons]
      rw [show cs.length + 1 - 1 = (cs.length - 1) + 1 by omega, Nat.pow_succ]
      omega
theorem rv_inj : ∀ (r s : List UInt8), (∀ c ∈ r, isDig c) → (∀ c ∈ s, isDig c) → TopD r → TopD s → rv r = rv s → r = s := by
  intro r
  induction r with
  | nil =>
    intro s _ hs _ ht he
    rcases s with _ | ⟨d, ds⟩
    · rfl
    · have := rv_ge (d :: ds) (by simp) hs ht
      have h1 : 0 < 10 ^ ((d :: ds).length - 1) := Nat.pow_pos (by decide)
      rw [← he] at this
      simp only [rv] at this
      omega
  | cons c cs ih =>
    intro s hr hs hrt hst he
    rcases s with _ | ⟨d, ds⟩
    · have := rv_ge (c :: cs) (by simp) hr hrt
      have h1 : 0 < 10 ^ ((c :: cs).length - 1) := Nat.pow_pos (by decide)
      rw [he] at this
      simp only [rv] at this
      omega
    · simp only [rv] at he
      have h1 := hr c (by simp)
      have h2 := hs d (by simp)
      unfold isDig at h1 h2
      have e1 : c = d := UInt8.toNat_inj.1 (by omega)
      have e2 : rv cs = rv ds := by omega
      rw [e1, ih ds (fun x hx => hr x (by simp [hx])) (fun x hx => hs x (by simp [hx])) (topD_tail _ _ hrt) (topD_tail _ _ hst) e2]
/-- s is the decimal text of a. -/
def isText (s : List UInt8) (a : Nat) : Prop := ∃ r, s = r.reverse ∧ r.length ≠ 0 ∧ (∀ c ∈ r, isDig c) ∧ (TopD r ∨ r = [48]) ∧ rv r = a
theorem isText_inj (s t : List UInt8) (a : Nat) (h : isText s a) (k : isText t a) : s = t := by
  obtain ⟨r, rfl, h0, hd, ht, hv⟩ := h
  obtain ⟨r', rfl, h0', hd', ht', hv'⟩ := k
  have z : rv [48] = 0 := rfl
  rcases ht with ht | rfl <;> rcases ht' with ht' | rfl
  · rw [rv_inj r r' hd hd' ht ht' (hv.trans hv'.symm)]
  · have := rv_ge r h0 hd ht
    have h1 : 0 < 10 ^ (r.length - 1) := Nat.pow_pos (by decide)
    omega
  · have := rv_ge r' h0' hd' ht'
    have h1 : 0 < 10 ^ (r'.length - 1) := Nat.pow_pos (by decide)
    omega
  · rfl
theorem isText_dec (s : List UInt8) (a : Nat) (h : isText s a) : decVal s = a := by
  obtain ⟨r, rfl, h0, hd, ht, hv⟩ := h
  rw [decVal_reverse, hv]
theorem isText_len (s : List UInt8) (a k : Nat) (h : isText s a) (ha : a < 10 ^ k) : s.length ≤ k + 1 := by
  obtain ⟨r, rfl, h0, hd, ht, hv⟩ := h
  rw [List.length_reverse]
  rcases ht with ht | rfl
  · have := rv_ge r h0 hd ht
    rw [hv] at this
    have h2 : 10 ^ (r.length - 1) < 10 ^ k := by omega
    have h3 := (Nat.pow_lt_pow_iff_right (by decide : 1 < 10)).1 h2
    omega
  · simp
theorem getD_reverse_zero (r : List UInt8) (h : r.length ≠ 0) : r.reverse.getD 0 0 = r.getD (r.length - 1) 0 := by
  rw [List.getD_eq_getElem?_getD, List.getD_eq_getElem?_getD, List.getElem?_reverse (by omega)]
  simp
theorem isText_ok (s : List UInt8) (a : Nat) (h : isText s a) (hl : s.length ≤ 600) : parseErr s = 0 := by
  obtain ⟨r, rfl, h0, hd, ht, hv⟩ := h
  refine parseErr_ok _ (by simpa using h0) hl ?_ (fun c hc => hd c (by simpa using hc))
  rintro ⟨h1, h2⟩
  rw [getD_reverse_zero r h0] at h1
  rcases ht with (ht | ht) | rfl
  · exact h0 ht
  · exact ht h1
  · simp at h2
theorem isText_of_ok (s : List UInt8) (h : parseErr s = 0) : isText s (decVal s) := by
  obtain ⟨h0, h1, h2, h3⟩ := parseErr_zero s h
  refine ⟨s.reverse, by simp, by simpa using h0, fun c hc => h3 c (by simpa using hc), ?_, by rw [← decVal_reverse, List.reverse_reverse]⟩
  by_cases hf : s.getD 0 0 = 48
  · right
    have hl : s.length = 1 := by
      rcases Nat.lt_or_ge 1 s.length with h | h
      · exact absurd ⟨hf, h⟩ h2
      · omega
    rcases s with _ | ⟨c, _ | ⟨d, ds⟩⟩
    · simp at hl
    · simpa using hf
    · simp at hl
  · left; right
    rw [← List.reverse_reverse s] at hf
    rw [getD_reverse_zero s.reverse (by simpa using h0)] at hf
    exact hf
/-- The same over numbers. -/
def rn : List Nat → Nat
  | [] => 0
  | c :: cs => (c - 48) + 10 * rn cs
theorem rn_append (l m : List Nat) : rn (l ++ m) = rn l + 10 ^ l.length * rn m := by
  induction l with
  | nil => simp [rn]
  | cons c cs ih => simp only [List.cons_append, rn, ih, List.length_cons, Nat.pow_succ]; grind
theorem rn_zeros (l : List Nat) (h : ∀ d ∈ l, d = 48) : rn l = 0 := by
  induction l with
  | nil => rfl
  | cons x xs ih =>
    have h1 := h x (by simp)
    have h2 := ih fun d hd => h d (by simp [hd])
    simp [rn, h1, h2]
theorem rv_map (l : List Nat) (h : ∀ d ∈ l, 48 ≤ d ∧ d ≤ 57) : rv (l.map UInt8.ofNat) = rn l := by
  induction l with
  | nil => rfl
  | cons x xs ih =>
    have h1 := h x (by simp)
    simp only [List.map_cons, rv, rn, ih fun d hd => h d (by simp [hd])]
    rw [UInt8.toNat_ofNat', Nat.mod_eq_of_lt (by omega)]
theorem text_of (l : List Nat) (k a : Nat) (hd : ∀ d ∈ l, 48 ≤ d ∧ d ≤ 57) (hk : k ≤ l.length) (h1 : ∀ j, k ≤ j → j < l.length → l.getD j 0 = 48) (h2 : 0 < k → l.getD (k - 1) 0 ≠ 48) (hv : rn l = a) (ha : 0 < a) :
    0 < k ∧ isText ((l.take k).reverse.map UInt8.ofNat) a := by
  have e : rn (l.take k) = a := by
    have e1 := rn_append (l.take k) (l.drop k)
    rw [List.take_append_drop, hv, rn_zeros (l.drop k) fun d hd => by
      obtain ⟨i, hi, rfl⟩ := List.mem_iff_getElem.1 hd
      rw [List.length_drop] at hi
      have := h1 (k + i) (by omega) (by omega)
      rw [List.getD_eq_getElem?_getD, List.getElem?_eq_getElem (by omega)] at this
      simpa using this] at e1
    simpa using e1.symm
  have hk0 : 0 < k := by
    rcases Nat.eq_zero_or_pos k with h | h
    · subst h; simp [rn] at e; omega
    · exact h
  refine ⟨hk0, (l.take k).map UInt8.ofNat, by rw [List.map_reverse], by rw [List.length_map, List.length_take]; omega, fun c hc => ?_, .inl (.inr ?_), ?_⟩
  · obtain ⟨d, hd', rfl⟩ := List.mem_map.1 hc
    have := hd d (List.mem_of_mem_take hd')
    unfold isDig
    rw [UInt8.toNat_ofNat', Nat.mod_eq_of_lt (by omega)]
    exact this
  · intro h
    have hlen : ((l.take k).map UInt8.ofNat).length = k := by simp; omega
    rw [hlen] at h
    have hx := h2 hk0
    have hm : l.getD (k - 1) 0 ∈ l := by
      rw [List.getD_eq_getElem?_getD, List.getElem?_eq_getElem (by omega)]
      exact List.getElem_mem _
    have hb := hd _ hm
    have e2 : ((l.take k).map UInt8.ofNat).getD (k - 1) 0 = UInt8.ofNat (l.getD (k - 1) 0) := by
      rw [List.getD_eq_getElem?_getD, List.getElem?_map, List.getElem?_take_of_lt (by omega), List.getD_eq_getElem?_getD, List.getElem?_eq_getElem (by omega)]
      simp
    rw [e2] at h
    have h8 := congrArg UInt8.toNat h
    have e3 : (UInt8.ofNat (l.getD (k - 1) 0)).toNat = l.getD (k - 1) 0 := by
      rw [UInt8.toNat_ofNat']
      exact Nat.mod_eq_of_lt (Nat.lt_of_le_of_lt hb.2 (by decide))
    rw [e3] at h8
    exact hx h8
  · rw [rv_map _ fun d hd' => hd d (List.mem_of_mem_take hd'), e]
end Go.Proofs.YtbllnkhbahenkaaGreatDoor
namespace Go.Proofs.YtbllnkhbahenkaaGreatDoor
/-- A fraction's three fields, as numbers. -/
structure Fr where
  s : Bool
  p : Nat
  q : Nat
theorem one_of_dvd {n : Nat} (h : n ∣ 1) : n = 1 := Nat.dvd_one.1 h
namespace Fr
/-- In lowest terms. -/
def Ok (t : Fr) : Prop := 0 < t.q ∧ Nat.gcd t.p t.q = 1 ∧ (t.s = true → 0 < t.p)
/-- The numerator with its sign. -/
def num (s : Bool) (p : Nat) : Int := if s then -(p : Int) else (p : Int)
def n (t : Fr) : Int := num t.s t.p
/-- P / Q in lowest terms. -/
def mk' (s : Bool) (P Q : Nat) : Fr := ⟨s && decide (0 < P), P / Nat.gcd P Q, Q / Nat.gcd P Q⟩
def ofInt (N : Int) (Q : Nat) : Fr := mk' (decide (N < 0)) N.natAbs Q
theorem num_true (p : Nat) : num true p = -(p : Int) := rfl
theorem num_false (p : Nat) : num false p = (p : Int) := rfl
theorem num_natAbs (s : Bool) (p : Nat) : (num s p).natAbs = p := by cases s <;> simp [num]
theorem num_zero (s : Bool) : num s 0 = 0 := by cases s <;> rfl
theorem num_and (s : Bool) (P x : Nat) (h : P = 0 → x = 0) : num (s && decide (0 < P)) x = num s x := by
  rcases Nat.eq_zero_or_pos P with h0 | h0
  · rw [h h0, num_zero, num_zero]
  · rw [decide_eq_true h0, Bool.and_true]
theorem num_mul (s : Bool) (a b : Nat) : num s (a * b) = num s a * (b : Int) := by cases s <;> simp [num, Int.neg_mul]
theorem num_mul2 (s t : Bool) (a b : Nat) : num (s != t) (a * b) = num s a * num t b := by
  cases s <;> cases t <;> simp [num, Int.neg_mul, Int.mul_neg]
theorem mk'_ok (s : Bool) (P Q : Nat) (hQ : 0 < Q) : Ok (mk' s P Q) := by
  have hg : 0 < Nat.gcd P Q := Nat.gcd_pos_of_pos_right _ hQ
  refine ⟨Nat.div_pos (Nat.le_of_dvd hQ (Nat.gcd_dvd_right _ _)) hg, ?_, ?_⟩
  · exact Nat.coprime_div_gcd_div_gcd hg
  · intro h
    have h1 : 0 < P := by
      simp only [mk', Bool.and_eq_true, decide_eq_true_eq] at h
      exact h.2
    exact Nat.div_pos (Nat.le_of_dvd h1 (Nat.gcd_dvd_left _ _)) hg
theorem mk'_cross (s : Bool) (P Q : Nat) : (mk' s P Q).n * (Q : Int) = num s P * ((mk' s P Q).q : Int) := by
  have h1 : P / Nat.gcd P Q * Q = P * (Q / Nat.gcd P Q) := by
    rw [Nat.mul_comm, ← Nat.mul_div_assoc Q (Nat.gcd_dvd_left P Q), ← Nat.mul_div_assoc P (Nat.gcd_dvd_right P Q), Nat.mul_comm]
  show num (s && decide (0 < P)) (P / Nat.gcd P Q) * (Q : Int) = _
  rw [num_and s P _ (fun h => by rw [h]; exact Nat.zero_div _), ← num_mul, h1, num_mul]
  rfl
theorem cop_eq {p q p' q' : Nat} (h : Nat.gcd p q = 1) (h' : Nat.gcd p' q' = 1) (e : p * q' = p' * q) (hq : 0 < q) (hq' : 0 < q') : p = p' ∧ q = q' := by
  have c : Nat.Coprime q p := by rw [Nat.Coprime, Nat.gcd_comm]; exact h
  have c' : Nat.Coprime q' p' := by rw [Nat.Coprime, Nat.gcd_comm]; exact h'
  have d1 : q ∣ q' := c.dvd_of_dvd_mul_left ⟨p', by rw [e, Nat.mul_comm]⟩
  have d2 : q' ∣ q := c'.dvd_of_dvd_mul_left ⟨p, by rw [← e, Nat.mul_comm]⟩
  have eq : q = q' := Nat.dvd_antisymm d1 d2
  subst eq
  exact ⟨Nat.eq_of_mul_eq_mul_right hq e, rfl⟩
/-- Two fractions in lowest terms with one value are one. -/
theorem uniq {a b : Fr} (ha : Ok a) (hb : Ok b) (h : a.n * (b.q : Int) = b.n * (a.q : Int)) : a = b := by
  obtain ⟨s, p, q⟩ := a
  obtain ⟨s', p', q'⟩ := b
  obtain ⟨h1, h2, h3⟩ := ha
  obtain ⟨h1', h2', h3'⟩ := hb
  simp only at h1 h2 h3 h1' h2' h3'
  simp only [n] at h
  have e : p * q' = p' * q := by
    have := congrArg Int.natAbs h
    rwa [Int.natAbs_mul, Int.natAbs_mul, num_natAbs, num_natAbs, Int.natAbs_natCast, Int.natAbs_natCast] at this
  obtain ⟨rfl, rfl⟩ := cop_eq h2 h2' e h1 h1'
  have : s = s' := by
    have hs : num s p = num s' p := Int.eq_of_mul_eq_mul_right (by omega) h
    cases s <;> cases s'
    · rfl
    · have := h3' rfl; simp [num] at hs; omega
    · have := h3 rfl; simp [num] at hs; omega
    · rfl
  rw [this]
theorem eq_mk' {a : Fr} (ha : Ok a) {s : Bool} {P Q : Nat} (hQ : 0 < Q) (h : a.n * (Q : Int) = num s P * (a.q : Int)) : a = mk' s P Q := by
  refine uniq ha (mk'_ok s P Q hQ) ?_
  have c := mk'_cross s P Q
  have hq : (Q : Int) ≠ 0 := by omega
  refine Int.eq_of_mul_eq_mul_right hq ?_
  generalize (mk' s P Q).n = x at *
  generalize ((mk' s P Q).q : Int) = y at *
  generalize num s P = z at *
  generalize a.n = u at *
  generalize (a.q : Int) = v at *
  grind
theorem num_ofInt (N : Int) : num (decide (N < 0)) N.natAbs = N := by
  by_cases h : N < 0
  · rw [decide_eq_true h]; simp only [num, if_pos]; omega
  · rw [decide_eq_false h]; simp only [num]; rw [if_neg (by decide)]; omega
theorem mk'_ofInt (s : Bool) (P Q : Nat) : mk' s P Q = ofInt (num s P) Q := by
  unfold ofInt mk'
  rw [num_natAbs]
  congr 1
  cases s
  · have : ¬ num false P < 0 := by rw [num_false]; omega
    rw [decide_eq_false this]
  · rcases Nat.eq_zero_or_pos P with h | h
    · subst h; simp
    · have : num true P < 0 := by rw [num_true]; omega
      rw [decide_eq_true this]
theorem ofInt_ok (N : Int) (Q : Nat) (h : 0 < Q) : Ok (ofInt N Q) := mk'_ok _ _ _ h
theorem ofInt_cross (N : Int) (Q : Nat) : (ofInt N Q).n * (Q : Int) = N * ((ofInt N Q).q : Int) := by
  have := mk'_cross (decide (N < 0)) N.natAbs Q
  rw [num_ofInt] at this
  exact this
theorem ofInt_q (N : Int) (Q : Nat) (h : 0 < Q) : 0 < (ofInt N Q).q := (ofInt_ok N Q h).1
theorem ofInt_eq {N M : Int} {Q R : Nat} (hQ : 0 < Q) (hR : 0 < R) (h : N * (R : Int) = M * (Q : Int)) : ofInt N Q = ofInt M R := by
  refine uniq (ofInt_ok _ _ hQ) (ofInt_ok _ _ hR) ?_
  have c1 := ofInt_cross N Q
  have c2 := ofInt_cross M R
  have h1 : (Q : Int) ≠ 0 := by omega
  have h2 : (R : Int) ≠ 0 := by omega
  have h3 : (Q : Int) * (R : Int) ≠ 0 := Int.mul_ne_zero h1 h2
  refine Int.eq_of_mul_eq_mul_right h3 ?_
  generalize (ofInt N Q).n = a at *
  generalize ((ofInt N Q).q : Int) = b at *
  generalize (ofInt M R).n = c at *
  generalize ((ofInt M R).q : Int) = d at *
  generalize (Q : Int) = x at *
  generalize (R : Int) = y at *
  grind
theorem eq_ofInt {a : Fr} (ha : Ok a) {N : Int} {Q : Nat} (hQ : 0 < Q) (h : a.n * (Q : Int) = N * (a.q : Int)) : a = ofInt N Q := by
  refine uniq ha (ofInt_ok N Q hQ) ?_
  have c := ofInt_cross N Q
  have hq : (Q : Int) ≠ 0 := by omega
  refine Int.eq_of_mul_eq_mul_right hq ?_
  generalize (ofInt N Q).n = x at *
  generalize ((ofInt N Q).q : Int) = y at *
  generalize a.n = u at *
  generalize (a.q : Int) = v at *
  grind
/-- A fraction in lowest terms is what its fields give. -/
theorem self {a : Fr} (ha : Ok a) : a = ofInt a.n a.q := eq_ofInt ha ha.1 rfl
def add (a b : Fr) : Fr := ofInt (a.n * b.q + b.n * a.q) (a.q * b.q)
def mul (a b : Fr) : Fr := ofInt (a.n * b.n) (a.q * b.q)
def neg (a : Fr) : Fr := ⟨!a.s && decide (0 < a.p), a.p, a.q⟩
def zero : Fr := ⟨false, 0, 1⟩
def inv (a : Fr) : Fr := ⟨a.s, a.q, a.p⟩
def div (a b : Fr) : Fr := mul a (inv b)
theorem zero_ok : Ok zero := ⟨by decide, by decide, by intro h; cases h⟩
theorem neg_ok {a : Fr} (h : Ok a) : Ok (neg a) := ⟨h.1, h.2.1, fun e => by
  simp only [neg, Bool.and_eq_true, decide_eq_true_eq] at e; exact e.2⟩
theorem neg_n {a : Fr} (h : Ok a) : (neg a).n = -a.n := by
  obtain ⟨s, p, q⟩ := a
  obtain ⟨h1, h2, h3⟩ := h
  simp only at h1 h2 h3
  show num (!s && decide (0 < p)) p = -num s p
  rw [num_and _ _ _ (fun h => h)]
  cases s <;> simp [num]
theorem inv_ok {a : Fr} (h : Ok a) (hp : 0 < a.p) : Ok (inv a) := ⟨hp, by show Nat.gcd a.q a.p = 1; rw [Nat.gcd_comm]; exact h.2.1, fun _ => h.1⟩
theorem pos_mul {a b : Fr} (ha : Ok a) (hb : Ok b) : 0 < a.q * b.q := Nat.mul_pos ha.1 hb.1
theorem add_ok {a b : Fr} (ha : Ok a) (hb : Ok b) : Ok (add a b) := ofInt_ok _ _ (pos_mul ha hb)
theorem mul_ok {a b : Fr} (ha : Ok a) (hb : Ok b) : Ok (mul a b) := ofInt_ok _ _ (pos_mul ha hb)
theorem add_comm (a b : Fr) : add a b = add b a := by
  unfold add; rw [Int.add_comm, Nat.mul_comm]
theorem mul_comm (a b : Fr) : mul a b = mul b a := by
  unfold mul; rw [Int.mul_comm, Nat.mul_comm]
theorem add_cross (a b : Fr) : (add a b).n * ((a.q : Int) * (b.q : Int)) = (a.n * b.q + b.n * a.q) * ((add a b).q : Int) := by
  have := ofInt_cross (a.n * b.q + b.n * a.q) (a.q * b.q)
  rwa [Int.natCast_mul] at this
theorem mul_cross (a b : Fr) : (mul a b).n * ((a.q : Int) * (b.q : Int)) = (a.n * b.n) * ((mul a b).q : Int) := by
  have := ofInt_cross (a.n * b.n) (a.q * b.q)
  rwa [Int.natCast_mul] at this
theorem qne {a : Fr} (h : Ok a) : (a.q : Int) ≠ 0 := by have := h.1; omega
theorem add_assoc {a b c : Fr} (ha : Ok a) (hb : Ok b) (hc : Ok c) : add (add a b) c = add a (add b c) := by
  have s := add_ok ha hb
  have t := add_ok hb hc
  refine ofInt_eq (pos_mul s hc) (pos_mul ha t) ?_
  have c1 := add_cross a b
  have c2 := add_cross b c
  have hbq := qne hb
  simp only [Int.natCast_mul]
  refine Int.eq_of_mul_eq_mul_right hbq ?_
  generalize (add a b).n = sn at *
  generalize ((add a b).q : Int) = sq at *
  generalize (add b c).n = tn at *
  generalize ((add b c).q : Int) = tq at *
  generalize a.n = an at *
  generalize b.n = bn at *
  generalize c.n = cn at *
  generalize (a.q : Int) = aq at *
  generalize (b.q : Int) = bq at *
  generalize (c.q : Int) = cq at *
  clear s t ha hb hc hbq
  grind
theorem mul_assoc {a b c : Fr} (ha : Ok a) (hb : Ok b) (hc : Ok c) : mul (mul a b) c = mul a (mul b c) := by
  have s := mul_ok ha hb
  have t := mul_ok hb hc
  refine ofInt_eq (pos_mul s hc) (pos_mul ha t) ?_
  have c1 := mul_cross a b
  have c2 := mul_cross b c
  have hbq := qne hb
  simp only [Int.natCast_mul]
  refine Int.eq_of_mul_eq_mul_right hbq ?_
  generalize (mul a b).n = sn at *
  generalize ((mul a b).q : Int) = sq at *
  generalize (mul b c).n = tn at *
  generalize ((mul b c).q : Int) = tq at *
  generalize a.n = an at *
  generalize b.n = bn at *
  generalize c.n = cn at *
  generalize (a.q : Int) = aq at *
  generalize (b.q : Int) = bq at *
  generalize (c.q : Int) = cq at *
  clear s t ha hb hc hbq
  grind
theorem distrib {a b c : Fr} (ha : Ok a) (hb : Ok b) (hc : Ok c) : mul (add a b) c = add (mul a c) (mul b c) := by
  have s := add_ok ha hb
  have t := mul_ok ha hc
  have u := mul_ok hb hc
  refine ofInt_eq (pos_mul s hc) (pos_mul t u) ?_
  have c1 := add_cross a b
  have c2 := mul_cross a c
  have c3 := mul_cross b c
  have haq := qne ha
  have hbq := qne hb
  have hcq := qne hc
  simp only [Int.natCast_mul]
  refine Int.eq_of_mul_eq_mul_right (Int.mul_ne_zero (Int.mul_ne_zero haq hbq) hcq) ?_
  generalize (add a b).n = sn at *
  generalize ((add a b).q : Int) = sq at *
  generalize (mul a c).n = tn at *
  generalize ((mul a c).q : Int) = tq at *
  generalize (mul b c).n = un at *
  generalize ((mul b c).q : Int) = uq at *
  generalize a.n = an at *
  generalize b.n = bn at *
  generalize c.n = cn at *
  generalize (a.q : Int) = aq at *
  generalize (b.q : Int) = bq at *
  generalize (c.q : Int) = cq at *
  clear s t u ha hb hc haq hbq hcq
  grind
theorem add_neg_self {a : Fr} (ha : Ok a) : add a (neg a) = zero := by
  unfold add
  rw [neg_n ha, show (neg a).q = a.q from rfl]
  have : a.n * (a.q : Int) + -a.n * (a.q : Int) = 0 := by rw [← Int.add_mul]; simp [Int.add_right_neg]
  rw [this]
  have h := eq_ofInt zero_ok (N := 0) (Q := a.q * a.q) (pos_mul ha ha) (by simp [zero, n, num])
  exact h.symm
theorem zero_add {a : Fr} (ha : Ok a) : add zero a = a := by
  refine (eq_ofInt ha (pos_mul zero_ok ha) ?_).symm
  simp [zero, n, num]
theorem add_zero {a : Fr} (ha : Ok a) : add a zero = a := by rw [add_comm, zero_add ha]
theorem sub_add {a b : Fr} (ha : Ok a) (hb : Ok b) : add (add a b) (neg b) = a := by
  rw [add_assoc ha hb (neg_ok hb), add_neg_self hb, add_zero ha]
theorem inv_n (b : Fr) : (inv b).n * b.n = (b.p : Int) * b.q := by
  obtain ⟨s, p, q⟩ := b
  show num s q * num s p = (p : Int) * q
  cases s <;> simp [num, Int.mul_comm, Int.neg_mul_neg]
theorem mul_div {a b : Fr} (ha : Ok a) (hb : Ok b) (hp : 0 < b.p) : div (mul a b) b = a := by
  have hi := inv_ok hb hp
  have hm := mul_ok ha hb
  refine (eq_ofInt ha (pos_mul hm hi) ?_).symm
  have c1 := mul_cross a b
  have c2 := inv_n b
  have haq := qne ha
  have hbq := qne hb
  have hbp : (b.p : Int) ≠ 0 := by omega
  rw [show (inv b).q = b.p from rfl, Int.natCast_mul]
  have hne : (b.q : Int) ≠ 0 := hbq
  refine Int.eq_of_mul_eq_mul_right hne ?_
  generalize (mul a b).n = mn at *
  generalize ((mul a b).q : Int) = mq at *
  generalize (inv b).n = i at *
  generalize a.n = an at *
  generalize b.n = bn at *
  generalize (a.q : Int) = aq at *
  generalize (b.q : Int) = bq at *
  generalize (b.p : Int) = bp at *
  clear hi hm ha hb hp
  grind
/-- The sum, with common factors looked for only where they can be. -/
theorem add_prog {a b : Fr} (ha : Ok a) (hb : Ok b) {s : Bool} {m : Nat} (hm : num s m = a.n * ((b.q / Nat.gcd a.q b.q : Nat) : Int) + b.n * ((a.q / Nat.gcd a.q b.q : Nat) : Int)) (hs : s = true → 0 < m) :
    (⟨s, m / Nat.gcd m (Nat.gcd a.q b.q), a.q / Nat.gcd a.q b.q * (b.q / Nat.gcd m (Nat.gcd a.q b.q))⟩ : Fr) = add a b := by
  have hc : 0 < Nat.gcd a.q b.q := Nat.gcd_pos_of_pos_left _ ha.1
  have cxy := Nat.coprime_div_gcd_div_gcd hc
  have e1 := Nat.div_mul_cancel (Nat.gcd_dvd_left a.q b.q)
  have e2 := Nat.div_mul_cancel (Nat.gcd_dvd_right a.q b.q)
  generalize hx : a.q / Nat.gcd a.q b.q = x at *
  generalize hy : b.q / Nat.gcd a.q b.q = y at *
  generalize Nat.gcd a.q b.q = c at *
  have hr : 0 < Nat.gcd m c := Nat.gcd_pos_of_pos_right _ hc
  have cmc := Nat.coprime_div_gcd_div_gcd hr
  have e3 := Nat.div_mul_cancel (Nat.gcd_dvd_left m c)
  have e4 := Nat.div_mul_cancel (Nat.gcd_dvd_right m c)
  have hbq : b.q / Nat.gcd m c = y * (c / Nat.gcd m c) := by rw [← e2, Nat.mul_div_assoc _ (Nat.gcd_dvd_right m c)]
  rw [hbq]
  generalize hu : m / Nat.gcd m c = u at *
  generalize hv : c / Nat.gcd m c = v at *
  generalize Nat.gcd m c = r at *
  have xpos : 0 < x := by rcases Nat.eq_zero_or_pos x with h | h; (rw [h, Nat.zero_mul] at e1; have := ha.1; omega); exact h
  have ypos : 0 < y := by rcases Nat.eq_zero_or_pos y with h | h; (rw [h, Nat.zero_mul] at e2; have := hb.1; omega); exact h
  have vpos : 0 < v := by rcases Nat.eq_zero_or_pos v with h | h; (rw [h, Nat.zero_mul] at e4; omega); exact h
  have cax : Nat.Coprime a.p x := Nat.Coprime.coprime_dvd_right ⟨c, e1.symm⟩ ha.2.1
  have cby : Nat.Coprime b.p y := Nat.Coprime.coprime_dvd_right ⟨c, e2.symm⟩ hb.2.1
  have ua : (a.n).natAbs = a.p := num_natAbs _ _
  have ub : (b.n).natAbs = b.p := num_natAbs _ _
  have um : (num s m).natAbs = m := num_natAbs _ _
  have cmx : Nat.Coprime m x := by
    refine one_of_dvd ?_
    have d1 : Nat.gcd m x ∣ m := Nat.gcd_dvd_left _ _
    have d2 : Nat.gcd m x ∣ x := Nat.gcd_dvd_right _ _
    have d3 : ((Nat.gcd m x : Nat) : Int) ∣ num s m := Int.dvd_natAbs.1 (by rw [um]; exact Int.natCast_dvd_natCast.2 d1)
    rw [hm] at d3
    have d4 : ((Nat.gcd m x : Nat) : Int) ∣ b.n * (x : Int) := Int.dvd_trans (Int.natCast_dvd_natCast.2 d2) (Int.dvd_mul_left _ _)
    have d5 : ((Nat.gcd m x : Nat) : Int) ∣ a.n * (y : Int) := (Int.dvd_add_left d4).1 d3
    have d6 : Nat.gcd m x ∣ a.p * y := by
      have := Int.natAbs_dvd_natAbs.2 d5
      rwa [Int.natAbs_natCast, Int.natAbs_mul, ua, Int.natAbs_natCast] at this
    have k1 : Nat.Coprime (Nat.gcd m x) a.p := (Nat.Coprime.coprime_dvd_right d2 cax).symm
    have k2 : Nat.Coprime (Nat.gcd m x) y := Nat.Coprime.coprime_dvd_left d2 cxy
    have k3 := k1.dvd_of_dvd_mul_left d6
    have k4 : Nat.gcd m x ∣ Nat.gcd (Nat.gcd m x) y := Nat.dvd_gcd (Nat.dvd_refl _) k3
    rwa [k2] at k4
  have cmy : Nat.Coprime m y := by
    refine one_of_dvd ?_
    have d1 : Nat.gcd m y ∣ m := Nat.gcd_dvd_left _ _
    have d2 : Nat.gcd m y ∣ y := Nat.gcd_dvd_right _ _
    have d3 : ((Nat.gcd m y : Nat) : Int) ∣ num s m := Int.dvd_natAbs.1 (by rw [um]; exact Int.natCast_dvd_natCast.2 d1)
    rw [hm] at d3
    have d4 : ((Nat.gcd m y : Nat) : Int) ∣ a.n * (y : Int) := Int.dvd_trans (Int.natCast_dvd_natCast.2 d2) (Int.dvd_mul_left _ _)
    have d5 : ((Nat.gcd m y : Nat) : Int) ∣ b.n * (x : Int) := (Int.dvd_add_right d4).1 d3
    have d6 : Nat.gcd m y ∣ b.p * x := by
      have := Int.natAbs_dvd_natAbs.2 d5
      rwa [Int.natAbs_natCast, Int.natAbs_mul, ub, Int.natAbs_natCast] at this
    have k1 : Nat.Coprime (Nat.gcd m y) b.p := (Nat.Coprime.coprime_dvd_right d2 cby).symm
    have k2 : Nat.Coprime (Nat.gcd m y) x := Nat.Coprime.coprime_dvd_left d2 cxy.symm
    have k3 := k1.dvd_of_dvd_mul_left d6
    have k4 : Nat.gcd m y ∣ Nat.gcd (Nat.gcd m y) x := Nat.dvd_gcd (Nat.dvd_refl _) k3
    rwa [k2] at k4
  have dum : u ∣ m := ⟨r, e3.symm⟩
  have ok : Ok ⟨s, u, x * (y * v)⟩ := by
    refine ⟨Nat.mul_pos xpos (Nat.mul_pos ypos vpos), ?_, fun h => ?_⟩
    · exact Nat.Coprime.mul_right (Nat.Coprime.coprime_dvd_left dum cmx) (Nat.Coprime.mul_right (Nat.Coprime.coprime_dvd_left dum cmy) cmc)
    · have := hs h
      rcases Nat.eq_zero_or_pos u with h0 | h0
      · rw [h0, Nat.zero_mul] at e3; omega
      · exact h0
  refine eq_ofInt ok (pos_mul ha hb) ?_
  have hn : num s m = num s u * (r : Int) := by rw [← e3, num_mul]
  rw [hn] at hm
  show num s u * ((a.q * b.q : Nat) : Int) = (a.n * (b.q : Int) + b.n * (a.q : Int)) * ((x * (y * v) : Nat) : Int)
  rw [← e1, ← e2, ← e4]
  simp only [Int.natCast_mul]
  generalize num s u = k at *
  generalize a.n = an at *
  generalize b.n = bn at *
  clear e1 e2 e3 e4 hu hv hx hy hbq cxy cmc cax cby ua ub um cmx cmy dum ok hs hn ha hb
  grind
theorem mul_prog {a b : Fr} (ha : Ok a) (hb : Ok b) (hpa : 0 < a.p) (hpb : 0 < b.p) :
    (⟨a.s != b.s, a.p / Nat.gcd a.p b.q * (b.p / Nat.gcd b.p a.q), a.q / Nat.gcd b.p a.q * (b.q / Nat.gcd a.p b.q)⟩ : Fr) = mul a b := by
  have h1 : 0 < Nat.gcd a.p b.q := Nat.gcd_pos_of_pos_left _ hpa
  have h2 : 0 < Nat.gcd b.p a.q := Nat.gcd_pos_of_pos_left _ hpb
  have c1 := Nat.coprime_div_gcd_div_gcd h1
  have c2 := Nat.coprime_div_gcd_div_gcd h2
  have e1 := Nat.div_mul_cancel (Nat.gcd_dvd_left a.p b.q)
  have e2 := Nat.div_mul_cancel (Nat.gcd_dvd_right a.p b.q)
  have e3 := Nat.div_mul_cancel (Nat.gcd_dvd_left b.p a.q)
  have e4 := Nat.div_mul_cancel (Nat.gcd_dvd_right b.p a.q)
  generalize hx : a.p / Nat.gcd a.p b.q = x at *
  generalize hy : b.q / Nat.gcd a.p b.q = y at *
  generalize hz : b.p / Nat.gcd b.p a.q = z at *
  generalize hw : a.q / Nat.gcd b.p a.q = w at *
  generalize Nat.gcd a.p b.q = l at *
  generalize Nat.gcd b.p a.q = r at *
  have pos : ∀ {u v k : Nat}, u * v = k → 0 < k → 0 < u := fun {u v k} e h => by
    rcases Nat.eq_zero_or_pos u with h0 | h0
    · rw [h0, Nat.zero_mul] at e; omega
    · exact h0
  have k1 : Nat.Coprime x w := Nat.Coprime.coprime_dvd_left ⟨l, e1.symm⟩ (Nat.Coprime.coprime_dvd_right ⟨r, e4.symm⟩ ha.2.1)
  have k2 : Nat.Coprime z y := Nat.Coprime.coprime_dvd_left ⟨r, e3.symm⟩ (Nat.Coprime.coprime_dvd_right ⟨l, e2.symm⟩ hb.2.1)
  have ok : Ok ⟨a.s != b.s, x * z, w * y⟩ :=
    ⟨Nat.mul_pos (pos e4 ha.1) (pos e2 hb.1), Nat.Coprime.mul_left (Nat.Coprime.mul_right k1 c1) (Nat.Coprime.mul_right c2 k2), fun _ => Nat.mul_pos (pos e1 hpa) (pos e3 hpb)⟩
  refine eq_ofInt ok (pos_mul ha hb) ?_
  show num (a.s != b.s) (x * z) * ((a.q * b.q : Nat) : Int) = num a.s a.p * num b.s b.p * ((w * y : Nat) : Int)
  rw [← num_mul2, ← e1, ← e2, ← e3, ← e4, ← num_mul, ← num_mul]
  congr 1
  clear pos k1 k2 ok c1 c2 h1 h2 hx hy hz hw
  grind
end Fr
end Go.Proofs.YtbllnkhbahenkaaGreatDoor
