/- What tokens a text has: fine ones. No claim of its own. -/
import Derived.Test.YtdgflkkdcejadaaLEq
namespace Go.Proofs.Ytdgflkkdcejadaa
theorem toksA_err (l : List UInt8) : ∀ (f k : Nat) (out : List Tk), (toksA f k (l.drop k) out).2 = 0 ∨ (toksA f k (l.drop k) out).1 = [] := by
  intro f
  induction f with
  | zero => intro k out; left; rfl
  | succ f ih =>
    intro k out
    rcases Nat.lt_or_ge k l.length with hk | hk
    · have hc : l[k]? = some l[k] := List.getElem?_eq_getElem hk
      by_cases h32 : (l[k]).toNat = 32
      · rw [toksA_space hc h32]; exact ih _ _
      · by_cases h1 : (oneT (l.drop k)).2 = 0
        · rw [toksA_tok hc h32 h1]; exact ih _ _
        · rw [toksA_bad hc h32 h1]; right; rfl
    · rw [toksA_end hk]; left; rfl
theorem toks_err (l : List UInt8) : (toks l).2 = 0 ∨ (toks l).1 = [] := by
  unfold toks
  by_cases h : 4000 < l.length
  · rw [if_pos h]; right; rfl
  · rw [if_neg h]
    have := toksA_err l (l.length + 1) 0 []
    rwa [List.drop_zero] at this
theorem toks_short {l : List UInt8} (h : (toks l).2 = 0) : l.length ≤ 4000 := by
  unfold toks at h
  by_cases h1 : 4000 < l.length
  · rw [if_pos h1] at h; simp at h
  · omega
theorem one_bounds {l : List UInt8} (h : (oneT l).2 = 0) : 1 ≤ (oneT l).1.kind ∧ (oneT l).1.kind ≤ 3 ∧ 0 ≤ (oneT l).1.value ∧ (oneT l).1.value ≤ 256000000000 := by
  cases l with
  | nil => simp [oneT] at h
  | cons c r =>
    rw [oneT_cons] at h ⊢
    by_cases h1 : letterN c.toNat = true
    · rw [if_pos h1] at h ⊢
      by_cases h2 : 12 < (fits partN (c :: r)).length
      · rw [if_pos h2] at h; simp at h
      · rw [if_neg h2]; simp
    · rw [if_neg h1] at h ⊢
      by_cases h2 : digitN c.toNat = true
      · rw [if_pos h2] at h ⊢
        by_cases h3 : c.toNat = 48 ∧ 1 < (fits digitN (c :: r)).length
        · rw [if_pos h3] at h; simp at h
        · rw [if_neg h3] at h ⊢
          by_cases h4 : 9 < (fits digitN (c :: r)).length
          · rw [if_pos h4] at h; simp at h
          · rw [if_neg h4]
            have h5 := numV_lt (fits digitN (c :: r))
            have h6 : 256 * (10 : Nat) ^ (fits digitN (c :: r)).length ≤ 256 * 10 ^ 9 := Nat.mul_le_mul_left _ (Nat.pow_le_pow_right (by decide) (by omega))
            have h7 : (256 : Nat) * 10 ^ 9 = 256000000000 := by decide
            refine ⟨by show (1 : Int) ≤ 2; decide, by show (2 : Int) ≤ 3; decide, ?_, ?_⟩
            · show (0 : Int) ≤ ((numV (fits digitN (c :: r)) : Nat) : Int); omega
            · show ((numV (fits digitN (c :: r)) : Nat) : Int) ≤ 256000000000; omega
      · rw [if_neg h2] at h ⊢
        by_cases h3 : markN c.toNat = true
        · rw [if_pos h3]; simp
        · rw [if_neg h3] at h; simp at h
theorem cov_fine {l : List UInt8} (hl : l.length ≤ 4000) : ∀ (ts : List Tk) (p : Nat), Cov l p ts → AllFine ts := by
  intro ts
  induction ts with
  | nil => intro p _ t ht; cases ht
  | cons t ts ih =>
    intro p h
    obtain ⟨k, e1, e2, e3, e4, e5, e6, _, e8⟩ := h
    intro u hu
    rcases List.mem_cons.1 hu with rfl | hu
    · have b := one_bounds (l := l.drop k) (by rw [e3])
      rw [e3] at b
      obtain ⟨b1, b2, b3, b4⟩ := b
      have b1' : 1 ≤ u.kind := b1
      have b2' : u.kind ≤ 3 := b2
      have b3' : 0 ≤ u.value := b3
      have b4' : u.value ≤ 256000000000 := b4
      exact ⟨by omega, by omega, by omega, by omega, by rw [e1]; omega, by rw [e1]; omega, by unfold maxLen; omega⟩
    · exact ih _ e8 u hu
theorem toks_fine (l : List UInt8) : AllFine (toks l).1 := by
  rcases toks_err l with h | h
  · exact cov_fine (toks_short h) _ 0 (toks_cov h)
  · rw [h]; intro t ht; cases ht
end Go.Proofs.Ytdgflkkdcejadaa
