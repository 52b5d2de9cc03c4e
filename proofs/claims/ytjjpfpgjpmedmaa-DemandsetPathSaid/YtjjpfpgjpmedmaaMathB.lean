/- The mathematics of bundles: ranks as digits. Plain theorems, no claim of their own. -/
import Derived.Lib.Hide
namespace Go.Proofs.Ytjjpfpgjpmedmaa.MB
/-- The quantity of product i. -/
def at_ (b : List Int) (i : Nat) : Int := b.getD i 0
/-- The number of bundles over the first i products. -/
def P (s : List Int) : Nat → Nat
  | 0 => 1
  | i + 1 => P s i * ((at_ s i).toNat + 1)
/-- The digits of n over the first i products. -/
def D (s : List Int) : Nat → Nat → List Int
  | 0, _ => []
  | i + 1, n => D s i (n / ((at_ s i).toNat + 1)) ++ [((n % ((at_ s i).toNat + 1) : Nat) : Int)]
/-- The rank of the first i quantities. -/
def R (s b : List Int) : Nat → Nat
  | 0 => 0
  | i + 1 => R s b i * ((at_ s i).toNat + 1) + (at_ b i).toNat
theorem D_length (s : List Int) : ∀ i n, (D s i n).length = i
  | 0, _ => rfl
  | i + 1, n => by rw [D, List.length_append, D_length s i]; rfl
theorem P_pos (s : List Int) : ∀ i, 0 < P s i
  | 0 => Nat.one_pos
  | i + 1 => Nat.mul_pos (P_pos s i) (Nat.succ_pos _)
theorem D_at_lt (s : List Int) {i j n : Nat} (h : j < i) : at_ (D s (i + 1) n) j = at_ (D s i (n / ((at_ s i).toNat + 1))) j := by
  show List.getD (D s (i + 1) n) j 0 = List.getD (D s i _) j 0
  rw [D, List.getD_eq_getElem?_getD, List.getD_eq_getElem?_getD, List.getElem?_append_left (by rw [D_length]; exact h)]
theorem D_at_last (s : List Int) (i n : Nat) : at_ (D s (i + 1) n) i = ((n % ((at_ s i).toNat + 1) : Nat) : Int) := by
  show List.getD (D s (i + 1) n) i 0 = _
  rw [D, List.getD_eq_getElem?_getD, List.getElem?_append_right (by rw [D_length]; exact Nat.le_refl _), D_length, Nat.sub_self]
  rfl
/-- The digits lie within. -/
theorem D_within (s : List Int) : ∀ i n j, j < i → 0 ≤ at_ (D s i n) j ∧ (at_ (D s i n) j).toNat ≤ (at_ s j).toNat := by
  intro i
  induction i with
  | zero => intro n j h; omega
  | succ i ih =>
    intro n j h
    rcases Nat.lt_or_ge j i with g | g
    · rw [D_at_lt s g]; exact ih _ j g
    · have : j = i := by omega
      subst this
      rw [D_at_last]
      have := Nat.mod_lt n (Nat.succ_pos (at_ s j).toNat)
      exact ⟨Int.natCast_nonneg _, by rw [Int.toNat_natCast]; simp only [Nat.succ_eq_add_one] at this; omega⟩
theorem R_congr {s b c : List Int} : ∀ i, (∀ j, j < i → at_ b j = at_ c j) → R s b i = R s c i
  | 0, _ => rfl
  | i + 1, h => by rw [R, R, R_congr i fun j hj => h j (by omega), h i (by omega)]
/-- The rank of the digits. -/
theorem R_D (s : List Int) : ∀ i n, n < P s i → R s (D s i n) i = n := by
  intro i
  induction i with
  | zero => intro n h; simp only [P] at h; simp only [R]; omega
  | succ i ih =>
    intro n h
    rw [R, D_at_last, Int.toNat_natCast, R_congr i (fun j hj => D_at_lt s hj), ih _ (Nat.div_lt_of_lt_mul (by rw [Nat.mul_comm]; exact h))]
    rw [Nat.mul_comm]
    exact Nat.div_add_mod n _
/-- A rank is below the number of bundles. -/
theorem R_lt (s b : List Int) : ∀ i, (∀ j, j < i → (at_ b j).toNat ≤ (at_ s j).toNat) → R s b i < P s i
  | 0, _ => Nat.one_pos
  | i + 1, h => by
    have h1 := R_lt s b i fun j hj => h j (by omega)
    have h2 := h i (by omega)
    rw [R, P]
    calc R s b i * ((at_ s i).toNat + 1) + (at_ b i).toNat < R s b i * ((at_ s i).toNat + 1) + ((at_ s i).toNat + 1) := by omega
      _ = (R s b i + 1) * ((at_ s i).toNat + 1) := by rw [Nat.add_mul, Nat.one_mul]
      _ ≤ P s i * ((at_ s i).toNat + 1) := Nat.mul_le_mul_right _ h1
/-- The digits of the rank. -/
theorem D_R (s b : List Int) : ∀ i, (∀ j, j < i → 0 ≤ at_ b j ∧ (at_ b j).toNat ≤ (at_ s j).toNat) → ∀ j, j < i → at_ (D s i (R s b i)) j = at_ b j := by
  intro i
  induction i with
  | zero => intro _ j h; omega
  | succ i ih =>
    intro h j hj
    obtain ⟨h0, h1⟩ := h i (by omega)
    have hm : (R s b i * ((at_ s i).toNat + 1) + (at_ b i).toNat) % ((at_ s i).toNat + 1) = (at_ b i).toNat := by
      rw [Nat.mul_comm, Nat.mul_add_mod]; exact Nat.mod_eq_of_lt (by omega)
    have hd : (R s b i * ((at_ s i).toNat + 1) + (at_ b i).toNat) / ((at_ s i).toNat + 1) = R s b i := by
      rw [Nat.mul_comm, Nat.mul_add_div (Nat.succ_pos _), Nat.div_eq_of_lt (by omega), Nat.add_zero]
    rcases Nat.lt_or_ge j i with g | g
    · rw [D_at_lt s g, R, hd]; exact ih (fun k hk => h k (by omega)) j g
    · have : j = i := by omega
      subst this
      rw [D_at_last, R, hm]; omega
/-- Digits, filled up with zeros to six products. -/
def pad (l : List Int) : List Int := l ++ List.replicate (6 - l.length) 0
theorem pad_length {l : List Int} (h : l.length ≤ 6) : (pad l).length = 6 := by unfold pad; rw [List.length_append, List.length_replicate]; omega
theorem pad_full {l : List Int} (h : l.length = 6) : pad l = l := by unfold pad; rw [h]; simp
/-- One more product: the digit q is set behind the digits of k. -/
theorem D_next (s : List Int) (i k q : Nat) (hq : q ≤ (at_ s i).toNat) : D s (i + 1) (k * ((at_ s i).toNat + 1) + q) = D s i k ++ [(q : Int)] := by
  rw [D]
  have hm : (k * ((at_ s i).toNat + 1) + q) % ((at_ s i).toNat + 1) = q := by rw [Nat.mul_comm, Nat.mul_add_mod]; exact Nat.mod_eq_of_lt (by omega)
  have hd : (k * ((at_ s i).toNat + 1) + q) / ((at_ s i).toNat + 1) = k := by rw [Nat.mul_comm, Nat.mul_add_div (Nat.succ_pos _), Nat.div_eq_of_lt (by omega), Nat.add_zero]
  rw [hm, hd]
theorem pad_set (s : List Int) (i k q : Nat) (hi : i < 6) (hq : q ≤ (at_ s i).toNat) : (pad (D s i k)).set i (q : Int) = pad (D s (i + 1) (k * ((at_ s i).toNat + 1) + q)) := by
  rw [D_next s i k q hq]
  unfold pad
  rw [List.set_append_right _ _ (by rw [D_length]; exact Nat.le_refl _), D_length, Nat.sub_self, List.length_append, D_length, List.append_assoc]
  congr 1
  have : 6 - i = (6 - (i + 1)) + 1 := by omega
  rw [this, List.replicate_succ]
  rfl
/-- The bundles over the first i products, in order. -/
def row (s : List Int) (i n : Nat) : List (List Int) := (List.range n).map fun k => pad (D s i k)
theorem row_length (s : List Int) (i n : Nat) : (row s i n).length = n := by simp [row]
theorem row_at {s : List Int} {i n k : Nat} (h : k < n) : (row s i n)[k]? = some (pad (D s i k)) := by simp [row, h]
theorem row_snoc (s : List Int) (i n : Nat) : row s i (n + 1) = row s i n ++ [pad (D s i n)] := by simp [row, List.range_succ]
/-- A valid bundle; the error. -/
def okB (b : List Int) : Bool := b.all fun q => decide (0 ≤ q) && decide (q ≤ 4)
def withinB (a b : List Int) : Nat → Bool
  | 0 => true
  | i + 1 => withinB a b i && decide (at_ a i ≤ at_ b i)
theorem withinB_iff (a b : List Int) : ∀ i, withinB a b i = true ↔ ∀ j, j < i → at_ a j ≤ at_ b j
  | 0 => by simp [withinB]
  | i + 1 => by
    rw [withinB, Bool.and_eq_true, withinB_iff a b i, decide_eq_true_eq]
    constructor
    · rintro ⟨h1, h2⟩ j hj
      rcases Nat.lt_or_ge j i with g | g
      · exact h1 j g
      · have : j = i := by omega
        subst this; exact h2
    · intro h
      exact ⟨fun j hj => h j (by omega), h i (by omega)⟩
theorem ext6 {a b : List Int} (ha : a.length = 6) (hb : b.length = 6) (h : ∀ j, j < 6 → at_ a j = at_ b j) : a = b := by
  apply List.ext_getElem (by omega)
  intro j h1 h2
  have := h j (by omega)
  unfold at_ at this
  rw [List.getD_eq_getElem?_getD, List.getD_eq_getElem?_getD, List.getElem?_eq_getElem h1, List.getElem?_eq_getElem h2] at this
  simpa using this
end Go.Proofs.Ytjjpfpgjpmedmaa.MB
