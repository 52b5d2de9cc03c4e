/- The mathematics of layer 4: groups of seven bits. Plain theorems, no claim of their own. -/
namespace Go.Proofs.Ytebfnbnaheolgaa
def leb (x : Nat) : List UInt8 := if x < 128 then [UInt8.ofNat x] else UInt8.ofNat (x % 128 + 128) :: leb (x / 128)
termination_by x
decreasing_by omega
theorem leb_small {x : Nat} (h : x < 128) : leb x = [UInt8.ofNat x] := by rw [leb, if_pos h]
theorem leb_big {x : Nat} (h : 128 ≤ x) : leb x = UInt8.ofNat (x % 128 + 128) :: leb (x / 128) := by rw [leb, if_neg (by omega)]
theorem leb_len : ∀ (k x : Nat), x < 128 ^ k → 0 < k → (leb x).length ≤ k
  | 0, x, _, h => absurd h (by decide)
  | k + 1, x, h, _ => by
    by_cases h1 : x < 128
    · rw [leb_small h1]; simp
    · rw [leb_big (by omega), List.length_cons]
      rw [Nat.pow_succ] at h
      have h2 : x / 128 < 128 ^ k := by rw [Nat.div_lt_iff_lt_mul (by decide)]; omega
      rcases Nat.eq_zero_or_pos k with h3 | h3
      · subst h3; simp at h; omega
      · have := leb_len k (x / 128) h2 h3; omega
theorem leb_pos (x : Nat) : 0 < (leb x).length := by
  rw [leb]; split <;> simp
/-- What is read: value, number of bytes, error. -/
def decGo : List UInt8 → Nat → Nat → Nat × Nat × Nat
  | [], _, _ => (0, 0, 1)
  | b :: t, i, acc => if (i = 9 ∧ 1 < b.toNat) ∨ (0 < i ∧ b.toNat = 0) then (0, 0, 2)
    else if b.toNat < 128 then (acc + b.toNat % 128 * 128 ^ i, i + 1, 0) else decGo t (i + 1) (acc + b.toNat % 128 * 128 ^ i)
theorem decGo_leb : ∀ (f x i acc : Nat) (t : List UInt8), x < 128 ^ f → 0 < f → i + f ≤ 10 → x * 128 ^ i < 18446744073709551616 → (0 < i → 0 < x) → decGo (leb x ++ t) i acc = (acc + x * 128 ^ i, i + (leb x).length, 0)
  | 0, _, _, _, _, _, h, _, _, _ => absurd h (by decide)
  | f + 1, x, i, acc, t, h, _, hi, hm, h0 => by
    by_cases h1 : x < 128
    · rw [leb_small h1]
      have e : (UInt8.ofNat x).toNat = x := by simp; omega
      have h9 : ¬ ((i = 9 ∧ 1 < x) ∨ (0 < i ∧ x = 0)) := by
        rintro (⟨rfl, h2⟩ | ⟨h2, h3⟩)
        · have : 2 * 128 ^ 9 ≤ x * 128 ^ 9 := Nat.mul_le_mul_right _ h2
          have : (128 : Nat) ^ 9 = 9223372036854775808 := by decide
          omega
        · have := h0 h2; omega
      show decGo (UInt8.ofNat x :: t) i acc = _
      rw [decGo, e, if_neg h9, if_pos h1, Nat.mod_eq_of_lt h1]; rfl
    · have h2 : 128 ≤ x := by omega
      rw [leb_big h2]
      have e : (UInt8.ofNat (x % 128 + 128)).toNat = x % 128 + 128 := by simp; omega
      have hp : 0 < 128 ^ i := Nat.pow_pos (by decide)
      have h9 : ¬ ((i = 9 ∧ 1 < x % 128 + 128) ∨ (0 < i ∧ x % 128 + 128 = 0)) := by
        rintro (⟨rfl, h2⟩ | ⟨h2, h3⟩)
        · have : 128 * 128 ^ 9 ≤ x * 128 ^ 9 := Nat.mul_le_mul_right _ (by omega)
          have : (128 : Nat) ^ 9 = 9223372036854775808 := by decide
          omega
        · omega
      show decGo (UInt8.ofNat (x % 128 + 128) :: (leb (x / 128) ++ t)) i acc = _
      rw [decGo, e, if_neg h9, if_neg (by omega)]
      have h3 : x / 128 < 128 ^ f := by rw [Nat.div_lt_iff_lt_mul (by decide)]; rw [Nat.pow_succ] at h; omega
      have hx : x = 128 * (x / 128) + x % 128 := by omega
      have h4 : x * 128 ^ i = x / 128 * 128 ^ (i + 1) + x % 128 * 128 ^ i := by
        rw [Nat.pow_succ, Nat.mul_comm (128 ^ i) 128, ← Nat.mul_assoc, ← Nat.add_mul, ← show x = x / 128 * 128 + x % 128 by omega]
      have hf : 0 < f := by
        rcases Nat.eq_zero_or_pos f with h5 | h5
        · subst h5; simp at h3; omega
        · exact h5
      rw [decGo_leb f (x / 128) (i + 1) _ t h3 hf (by omega) (by omega) (fun _ => by omega)]
      rw [show (x % 128 + 128) % 128 = x % 128 by omega, List.length_cons]
      rw [h4]
      simp only [Prod.mk.injEq, and_true]
      constructor <;> omega
/-- Reading gives the value whose encoding was read. -/
theorem decGo_back : ∀ (l : List UInt8) (i acc : Nat) (v n : Nat), i ≤ 9 → decGo l i acc = (v, n, 0) → ∃ x, v = acc + x * 128 ^ i ∧ i < n ∧ n ≤ 10 ∧ l.take (n - i) = leb x ∧ n - i ≤ l.length ∧ x < 128 ^ (10 - i) ∧ (i = 9 → x ≤ 1) ∧ (0 < i → 0 < x) ∧ (n = 10 → x < 2 * 128 ^ (9 - i)) ∧ (n < 10 → x < 128 ^ (9 - i))
  | [], i, acc, v, n, _, h => by simp [decGo] at h
  | b :: t, i, acc, v, n, hi, h => by
    rw [decGo] at h
    split at h
    · simp at h
    · rename_i hc
      split at h
      · rename_i hb
        simp only [Prod.mk.injEq, and_true] at h
        obtain ⟨rfl, rfl⟩ := h
        have hm := Nat.mod_eq_of_lt hb
        refine ⟨b.toNat, by rw [hm], by omega, by omega, ?_, by simp, ?_, ?_, ?_, ?_, ?_⟩
        · rw [show i + 1 - i = 1 by omega, leb_small hb]
          simp
        · have : (128 : Nat) ^ 1 ≤ 128 ^ (10 - i) := Nat.pow_le_pow_right (by decide) (by omega)
          omega
        · rintro rfl; omega
        · intro _; omega
        · intro h10
          have : i = 9 := by omega
          subst this
          simp
          omega
        · intro hlt
          have : (128 : Nat) ^ 1 ≤ 128 ^ (9 - i) := Nat.pow_le_pow_right (by decide) (by omega)
          omega
      · rename_i hb
        have h9 : i ≠ 9 := by rintro rfl; omega
        obtain ⟨x, rfl, h1, h2, h3, h4, h5, h6, h7, h8, h10⟩ := decGo_back t (i + 1) _ v n (by omega) h
        have hbl : b.toNat < 256 := b.toNat_lt
        have hx := h7 (by omega)
        have e1 : (b.toNat % 128 + 128 * x) / 128 = x := by omega
        have e2 : (b.toNat % 128 + 128 * x) % 128 = b.toNat % 128 := by omega
        have ps : ∀ k, i < k → (128 : Nat) ^ (k - i) = 128 * 128 ^ (k - (i + 1)) := fun k hk => by
          rw [show k - i = k - (i + 1) + 1 by omega, Nat.pow_succ, Nat.mul_comm]
        refine ⟨b.toNat % 128 + 128 * x, ?_, by omega, h2, ?_, by simp; omega, ?_, by omega, by omega, ?_, ?_⟩
        · rw [Nat.add_mul, Nat.pow_succ, Nat.mul_comm 128 x, Nat.mul_assoc, Nat.mul_comm 128 (128 ^ i)]; omega
        · rw [leb_big (by omega), e1, e2, show n - i = n - (i + 1) + 1 by omega, List.take_succ_cons, h3]
          congr 1
          apply UInt8.toNat_inj.1
          simp
          omega
        · rw [ps 10 (by omega)]; omega
        · intro hn; have := h8 hn; rw [ps 9 (by omega)]; omega
        · intro hn; have := h10 hn; rw [ps 9 (by omega)]; omega
end Go.Proofs.Ytebfnbnaheolgaa
