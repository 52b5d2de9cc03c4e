/- The mathematics of an amount's text: no claim of its own. -/
import Derived.Test.YtbllnkhbahenkaaDoorMaths
import Derived.Lib.ItoaNum
namespace Go.Proofs.YtbllnkhbahenkaaDoor
theorem isDig_ofNat {d : Nat} (h : d < 10) : isDig (UInt8.ofNat (48 + d)) ∧ (UInt8.ofNat (48 + d)).toNat = 48 + d := by
  have e : (UInt8.ofNat (48 + d)).toNat = 48 + d := by simp; omega
  exact ⟨⟨by omega, by omega⟩, e⟩
theorem text_one {d : Nat} (h : d < 10) : isText [UInt8.ofNat (48 + d)] d := by
  obtain ⟨h1, h2⟩ := isDig_ofNat h
  refine ⟨[UInt8.ofNat (48 + d)], rfl, by simp, by simpa using h1, ?_, by simp only [rv, h2]; omega⟩
  rcases Nat.eq_zero_or_pos d with e | e
  · right; subst e; rfl
  · left; right
    intro e2
    have : (UInt8.ofNat (48 + d)).toNat = 48 := by
      have : UInt8.ofNat (48 + d) = 48 := by simpa using e2
      rw [this]; rfl
    omega
theorem text_snoc {s : List UInt8} {a d : Nat} (h : isText s a) (ha : 0 < a) (hd : d < 10) : isText (s ++ [UInt8.ofNat (48 + d)]) (10 * a + d) := by
  obtain ⟨r, rfl, h0, hdg, ht, hv⟩ := h
  obtain ⟨h1, h2⟩ := isDig_ofNat hd
  refine ⟨UInt8.ofNat (48 + d) :: r, by simp, by simp, ?_, ?_, by simp only [rv, h2, hv]; omega⟩
  · intro c hc
    rcases List.mem_cons.1 hc with e | e
    · rw [e]; exact h1
    · exact hdg c e
  · left; right
    rcases ht with (ht | ht) | ht
    · exact absurd ht h0
    · rw [show (UInt8.ofNat (48 + d) :: r).length - 1 = (r.length - 1) + 1 by simp; omega, List.getD_cons_succ]; exact ht
    · subst ht; exact absurd hv.symm (by show ¬ a = 0; omega)
theorem decDigits_text : ∀ u : Nat, isText (Lib.decDigits u) u := by
  intro u
  induction u using Nat.strongRecOn with
  | _ u ih =>
    by_cases h : u < 10
    · rw [Lib.decDigits_one h]; exact text_one h
    · rw [Lib.decDigits, dif_neg h]
      have := text_snoc (ih (u / 10) (by omega)) (by omega : 0 < u / 10) (Nat.mod_lt u (by decide : 0 < 10))
      rwa [show 10 * (u / 10) + u % 10 = u by omega] at this
/-- What Parse answers. -/
noncomputable def parseA (l : List UInt8) : Int × Int := if parseErr l = 0 then (if decVal l ≤ 1000000 then ((decVal l : Int), 0) else (0, 4)) else (0, (parseErr l : Int))
theorem parseA_text {l : List UInt8} {a : Nat} (h : isText l a) (hl : l.length ≤ 600) : parseA l = if a ≤ 1000000 then ((a : Int), 0) else (0, 4) := by
  unfold parseA
  rw [if_pos (isText_ok l a h hl), isText_dec l a h]
theorem parseA_minus (l : List UInt8) (hl : l.length ≤ 500) : parseA (45 :: l) = (0, 2) := by
  have : parseErr (45 :: l) = 2 := parseErr_bad _ (by simp) (by simp; omega) (.inr fun h => by
    have := (h 45 (by simp)).1
    revert this; decide)
  unfold parseA
  rw [this, if_neg (by decide)]; rfl
theorem itoa_len (v : Int) (h0 : -9223372036854775808 ≤ v) (h1 : v ≤ 9223372036854775807) : (Lib.itoa v).length ≤ 21 := by
  unfold Lib.itoa
  split
  · have := isText_len _ _ 19 (decDigits_text v.natAbs) (by omega)
    simp; omega
  · have := isText_len _ _ 19 (decDigits_text v.toNat) (by omega)
    omega
theorem parseA_itoa (v : Int) (h0 : -9223372036854775808 ≤ v) (h1 : v ≤ 9223372036854775807) : parseA (Lib.itoa v) = if v < 0 then (0, 2) else if v ≤ 1000000 then (v, 0) else (0, 4) := by
  have hl := itoa_len v h0 h1
  by_cases h : v < 0
  · rw [if_pos h]
    unfold Lib.itoa at *
    rw [if_pos h] at *
    exact parseA_minus _ (by simp at hl; omega)
  · rw [if_neg h]
    unfold Lib.itoa at *
    rw [if_neg h] at *
    rw [parseA_text (decDigits_text v.toNat) (by omega)]
    have : (v.toNat : Int) = v := by omega
    by_cases h2 : v ≤ 1000000
    · rw [if_pos (by omega), if_pos h2, this]
    · rw [if_neg (by omega), if_neg h2]
end Go.Proofs.YtbllnkhbahenkaaDoor
