/- The mathematics of tokens: plain theorems, no claim of their own. -/
import Derived.Lib.Hide
namespace Go.Proofs.Ytbnillkihmooeaa
/-- Kinds of characters, by number. -/
def letterN (n : Nat) : Bool := decide (97 ≤ n) && decide (n ≤ 122)
def digitN (n : Nat) : Bool := decide (48 ≤ n) && decide (n ≤ 57)
def partN (n : Nat) : Bool := letterN n || (digitN n || decide (n = 95))
def markN (n : Nat) : Bool := [123, 125, 40, 41, 58, 44, 64, 43, 45, 61].contains n
theorem letterN_yes {n : Nat} : letterN n = true ↔ 97 ≤ n ∧ n ≤ 122 := by simp [letterN]
theorem digitN_yes {n : Nat} : digitN n = true ↔ 48 ≤ n ∧ n ≤ 57 := by simp [digitN]
theorem letterN_no {n : Nat} : letterN n = false ↔ n < 97 ∨ 122 < n := by
  cases h : letterN n with
  | true => have := letterN_yes.1 h; simp; omega
  | false => simp only [true_iff]; exact (by rcases Nat.lt_or_ge n 97 with a | a; exact .inl a; rcases Nat.lt_or_ge 122 n with b | b; exact .inr b; rw [letterN_yes.2 ⟨a, b⟩] at h; cases h)
theorem digitN_no {n : Nat} : digitN n = false ↔ n < 48 ∨ 57 < n := by
  cases h : digitN n with
  | true => have := digitN_yes.1 h; simp; omega
  | false => simp only [true_iff]; exact (by rcases Nat.lt_or_ge n 48 with a | a; exact .inl a; rcases Nat.lt_or_ge 57 n with b | b; exact .inr b; rw [digitN_yes.2 ⟨a, b⟩] at h; cases h)
theorem markN_yes {n : Nat} : markN n = true ↔ n = 123 ∨ n = 125 ∨ n = 40 ∨ n = 41 ∨ n = 58 ∨ n = 44 ∨ n = 64 ∨ n = 43 ∨ n = 45 ∨ n = 61 := by simp [markN]
theorem partN_lt {n : Nat} (h : partN n = true) : n < 128 := by
  unfold partN at h
  simp only [Bool.or_eq_true, decide_eq_true_eq] at h
  rcases h with h | h | h
  · have := letterN_yes.1 h; omega
  · have := digitN_yes.1 h; omega
  · omega
theorem digitN_lt {n : Nat} (h : digitN n = true) : n < 128 := by have := digitN_yes.1 h; omega
theorem part_of_letter {n : Nat} (h : letterN n = true) : partN n = true := by unfold partN; rw [h]; rfl
/-- A token. -/
structure Tk where
  kind : Int
  text : List UInt8
  value : Int
  at_ : Int
def Tk.zero : Tk := ⟨0, [], 0, 0⟩
def Tk.put (t : Tk) (k : Int) : Tk := ⟨t.kind, t.text, t.value, k⟩
/-- The longest beginning whose bytes belong to B. -/
def fits (B : Nat → Bool) (l : List UInt8) : List UInt8 := l.takeWhile fun c => B c.toNat
def numV (l : List UInt8) : Nat := l.foldl (fun v c => v * 10 + (c.toNat - 48)) 0
/-- The first token of a text that is not empty, and the error. -/
def oneT : List UInt8 → Tk × Int
  | [] => (.zero, 2)
  | c :: r =>
    if letterN c.toNat = true then (if 12 < (fits partN (c :: r)).length then (.zero, 3) else (⟨1, fits partN (c :: r), 0, 0⟩, 0))
    else if digitN c.toNat = true then
      (if c.toNat = 48 ∧ 1 < (fits digitN (c :: r)).length then (.zero, 2)
       else if 9 < (fits digitN (c :: r)).length then (.zero, 4)
       else (⟨2, fits digitN (c :: r), (numV (fits digitN (c :: r)) : Nat), 0⟩, 0))
    else if markN c.toNat = true then (⟨3, [c], 0, 0⟩, 0)
    else (.zero, 2)
theorem oneT_cons (c : UInt8) (r : List UInt8) : oneT (c :: r) =
    if letterN c.toNat = true then (if 12 < (fits partN (c :: r)).length then (.zero, 3) else (⟨1, fits partN (c :: r), 0, 0⟩, 0))
    else if digitN c.toNat = true then
      (if c.toNat = 48 ∧ 1 < (fits digitN (c :: r)).length then (.zero, 2)
       else if 9 < (fits digitN (c :: r)).length then (.zero, 4)
       else (⟨2, fits digitN (c :: r), (numV (fits digitN (c :: r)) : Nat), 0⟩, 0))
    else if markN c.toNat = true then (⟨3, [c], 0, 0⟩, 0)
    else (.zero, 2) := rfl
/-- The tokens of the rest of a text, behind those that stand before. -/
def toksA : Nat → Nat → List UInt8 → List Tk → List Tk × Int
  | 0, _, _, out => (out, 0)
  | _ + 1, _, [], out => (out, 0)
  | f + 1, at_, c :: r, out =>
    if c.toNat = 32 then toksA f (at_ + 1) r out
    else if (oneT (c :: r)).2 = 0 then toksA f (at_ + (oneT (c :: r)).1.text.length) ((c :: r).drop (oneT (c :: r)).1.text.length) (out ++ [(oneT (c :: r)).1.put at_])
    else ([], (oneT (c :: r)).2)
def toks (l : List UInt8) : List Tk × Int := if 4000 < l.length then ([], 3) else toksA (l.length + 1) 0 l []
theorem fits_le (B : Nat → Bool) (l : List UInt8) : (fits B l).length ≤ l.length := (List.takeWhile_sublist _).length_le
theorem fits_take (B : Nat → Bool) (l : List UInt8) : l.take (fits B l).length = fits B l := (List.prefix_iff_eq_take.1 (List.takeWhile_prefix _)).symm
theorem fits_cons {B : Nat → Bool} {c : UInt8} {r : List UInt8} (h : B c.toNat = true) : fits B (c :: r) = c :: fits B r := List.takeWhile_cons_of_pos h
/-- Every byte before the end belongs to it; the byte at the end does not. -/
theorem fits_in (B : Nat → Bool) : ∀ (l : List UInt8) (k : Nat), k < (fits B l).length → ∃ c, l[k]? = some c ∧ B c.toNat = true := by
  intro l
  induction l with
  | nil => intro k h; simp [fits] at h
  | cons c r ih =>
    intro k h
    by_cases hc : B c.toNat = true
    · rw [fits_cons hc] at h
      cases k with
      | zero => exact ⟨c, rfl, hc⟩
      | succ k => obtain ⟨d, h1, h2⟩ := ih k (by simpa using h); exact ⟨d, by simpa using h1, h2⟩
    · have : fits B (c :: r) = [] := List.takeWhile_cons_of_neg hc
      rw [this] at h; simp at h
theorem fits_end (B : Nat → Bool) : ∀ (l : List UInt8), (fits B l).length < l.length → ∃ c, l[(fits B l).length]? = some c ∧ B c.toNat = false := by
  intro l
  induction l with
  | nil => intro h; simp [fits] at h
  | cons c r ih =>
    intro h
    by_cases hc : B c.toNat = true
    · rw [fits_cons hc] at h ⊢
      obtain ⟨d, h1, h2⟩ := ih (by simpa using h)
      exact ⟨d, by simpa using h1, h2⟩
    · have : fits B (c :: r) = [] := List.takeWhile_cons_of_neg hc
      rw [this]; exact ⟨c, rfl, by simpa using hc⟩
/-- Where the first k belong to it and the next does not (or there is none), the beginning has k bytes. -/
theorem fits_eq {B : Nat → Bool} {l : List UInt8} {k : Nat} (h1 : k ≤ (fits B l).length) (h2 : k < l.length → ∃ c, l[k]? = some c ∧ B c.toNat = false) : (fits B l).length = k := by
  rcases Nat.lt_or_ge k (fits B l).length with h | h
  · obtain ⟨c, e1, e2⟩ := fits_in B l k h
    have := fits_le B l
    obtain ⟨d, e3, e4⟩ := h2 (by omega)
    rw [e1] at e3; injection e3 with e3; subst e3; rw [e2] at e4; cases e4
  · omega
theorem numV_snoc (l : List UInt8) (c : UInt8) : numV (l ++ [c]) = numV l * 10 + (c.toNat - 48) := by simp [numV]
theorem numV_lt : ∀ (l : List UInt8), numV l < 256 * 10 ^ l.length := by
  suffices h : ∀ (l : List UInt8) (v k : Nat), v + 23 < 256 * k → l.foldl (fun v c => v * 10 + (c.toNat - 48)) v + 23 < 256 * (k * 10 ^ l.length) by
    intro l
    have := h l 0 1 (by decide)
    rw [Nat.one_mul] at this
    exact Nat.lt_of_le_of_lt (Nat.le_add_right _ _) this
  intro l
  induction l with
  | nil => intro v k h; simpa using h
  | cons c r ih =>
    intro v k h
    have hc := c.toNat_lt
    have := ih (v * 10 + (c.toNat - 48)) (k * 10) (by omega)
    rw [List.foldl_cons, List.length_cons, Nat.pow_succ, Nat.mul_comm (10 ^ r.length) 10, ← Nat.mul_assoc k 10]
    exact this
/-- The first token: it lies at the beginning and is not empty. -/
theorem oneT_nil_or {l : List UInt8} (h : (oneT l).2 = 0) : (oneT l).1.text ≠ [] ∧ l.take (oneT l).1.text.length = (oneT l).1.text ∧ (oneT l).1.text.length ≤ l.length := by
  cases l with
  | nil => simp [oneT] at h
  | cons c r =>
    rw [oneT_cons] at h ⊢
    by_cases h1 : letterN c.toNat = true
    · rw [if_pos h1] at h ⊢
      by_cases h2 : 12 < (fits partN (c :: r)).length
      · rw [if_pos h2] at h; simp at h
      · rw [if_neg h2]
        exact ⟨by rw [fits_cons (part_of_letter h1)]; simp, fits_take _ _, fits_le _ _⟩
    · rw [if_neg h1] at h ⊢
      by_cases h2 : digitN c.toNat = true
      · rw [if_pos h2] at h ⊢
        by_cases h3 : c.toNat = 48 ∧ 1 < (fits digitN (c :: r)).length
        · rw [if_pos h3] at h; simp at h
        · rw [if_neg h3] at h ⊢
          by_cases h4 : 9 < (fits digitN (c :: r)).length
          · rw [if_pos h4] at h; simp at h
          · rw [if_neg h4]
            exact ⟨by rw [fits_cons h2]; simp, fits_take _ _, fits_le _ _⟩
      · rw [if_neg h2] at h ⊢
        by_cases h3 : markN c.toNat = true
        · rw [if_pos h3]
          exact ⟨by simp, by simp, by simp⟩
        · rw [if_neg h3] at h; simp at h
theorem oneT_len {l : List UInt8} (h : (oneT l).2 = 0) : 1 ≤ (oneT l).1.text.length ∧ (oneT l).1.text.length ≤ l.length := by
  obtain ⟨a, _, b⟩ := oneT_nil_or h
  exact ⟨by cases hh : (oneT l).1.text with | nil => exact absurd hh a | cons _ _ => simp, b⟩
/-- The steps of the loop. -/
theorem toksA_end {f k : Nat} {l : List UInt8} {out : List Tk} (h : l.length ≤ k) : toksA f k (l.drop k) out = (out, 0) := by
  rw [List.drop_of_length_le h]; cases f <;> rfl
theorem toksA_space {f k : Nat} {l : List UInt8} {out : List Tk} {c : UInt8} (hc : l[k]? = some c) (h : c.toNat = 32) : toksA (f + 1) k (l.drop k) out = toksA f (k + 1) (l.drop (k + 1)) out := by
  obtain ⟨hk, rfl⟩ := List.getElem?_eq_some_iff.1 hc
  rw [List.drop_eq_getElem_cons hk, toksA, if_pos h]
theorem toksA_tok {f k : Nat} {l : List UInt8} {out : List Tk} {c : UInt8} (hc : l[k]? = some c) (h : c.toNat ≠ 32) (h1 : (oneT (l.drop k)).2 = 0) :
    toksA (f + 1) k (l.drop k) out = toksA f (k + (oneT (l.drop k)).1.text.length) (l.drop (k + (oneT (l.drop k)).1.text.length)) (out ++ [(oneT (l.drop k)).1.put k]) := by
  obtain ⟨hk, rfl⟩ := List.getElem?_eq_some_iff.1 hc
  have e := List.drop_eq_getElem_cons hk
  conv => lhs; rw [e, toksA, if_neg h, ← e, if_pos h1]
  rw [List.drop_drop]
theorem toksA_bad {f k : Nat} {l : List UInt8} {out : List Tk} {c : UInt8} (hc : l[k]? = some c) (h : c.toNat ≠ 32) (h1 : (oneT (l.drop k)).2 ≠ 0) :
    toksA (f + 1) k (l.drop k) out = ([], (oneT (l.drop k)).2) := by
  obtain ⟨hk, rfl⟩ := List.getElem?_eq_some_iff.1 hc
  have e := List.drop_eq_getElem_cons hk
  rw [e, toksA, if_neg h, ← e, if_neg h1]
/-- Tokens lie one after the other from a place on, with spaces alone between them. -/
def Cov (l : List UInt8) : Nat → List Tk → Prop
  | p, [] => ∀ j c, p ≤ j → l[j]? = some c → c.toNat = 32
  | p, t :: ts => ∃ k : Nat, t.at_ = k ∧ p ≤ k ∧ oneT (l.drop k) = (t.put 0, 0) ∧ t.text ≠ [] ∧ k + t.text.length ≤ l.length ∧ (l.drop k).take t.text.length = t.text ∧ (∀ j c, p ≤ j → j < k → l[j]? = some c → c.toNat = 32) ∧ Cov l (k + t.text.length) ts
theorem Cov.back {l : List UInt8} {k : Nat} {ts : List Tk} {c : UInt8} (h : Cov l (k + 1) ts) (hc : l[k]? = some c) (h32 : c.toNat = 32) : Cov l k ts := by
  cases ts with
  | nil =>
    intro j d hj hd
    rcases Nat.lt_or_ge k j with a | a
    · exact h j d (by omega) hd
    · have : j = k := by omega
      subst this; rw [hc] at hd; injection hd with hd; rw [← hd]; exact h32
  | cons t ts =>
    obtain ⟨q, a1, a2, a3, a4, a5, a6, a7, a8⟩ := h
    refine ⟨q, a1, by omega, a3, a4, a5, a6, fun j d hj hq hd => ?_, a8⟩
    rcases Nat.lt_or_ge k j with a | a
    · exact a7 j d (by omega) hq hd
    · have : j = k := by omega
      subst this; rw [hc] at hd; injection hd with hd; rw [← hd]; exact h32
theorem oneT_at {l : List UInt8} (h : (oneT l).2 = 0) : (oneT l).1.at_ = 0 := by
  cases l with
  | nil => simp [oneT] at h
  | cons c r =>
    rw [oneT_cons] at h ⊢
    repeat' split
    all_goals rfl
theorem toksA_cov (l : List UInt8) : ∀ (f k : Nat) (out : List Tk), l.length - k < f → (toksA f k (l.drop k) out).2 = 0 → ∃ ts, (toksA f k (l.drop k) out).1 = out ++ ts ∧ Cov l k ts := by
  intro f
  induction f with
  | zero => intro k out hf; omega
  | succ f ih =>
    intro k out hf h
    rcases Nat.lt_or_ge k l.length with hk | hk
    · have hc : l[k]? = some l[k] := List.getElem?_eq_getElem hk
      by_cases h32 : (l[k]).toNat = 32
      · rw [toksA_space hc h32] at h ⊢
        obtain ⟨ts, e, hcov⟩ := ih (k + 1) out (by omega) h
        exact ⟨ts, e, hcov.back hc h32⟩
      · by_cases h1 : (oneT (l.drop k)).2 = 0
        · rw [toksA_tok hc h32 h1] at h ⊢
          obtain ⟨n1, n2⟩ := oneT_len h1
          obtain ⟨m1, m2, m3⟩ := oneT_nil_or h1
          obtain ⟨ts, e, hcov⟩ := ih _ _ (by omega) h
          refine ⟨(oneT (l.drop k)).1.put k :: ts, by rw [e]; simp, k, rfl, Nat.le_refl _, ?_, m1, by rw [List.length_drop] at m3; simp only [Tk.put]; omega, m2, fun j c a b => by omega, hcov⟩
          have ea := oneT_at h1
          clear hcov e ih h n1 n2 m1 m2 m3
          generalize oneT (l.drop k) = x at *
          obtain ⟨⟨a, b, c, d⟩, y⟩ := x
          simp only at h1 ea
          subst h1
          subst ea
          rfl
        · rw [toksA_bad hc h32 h1] at h
          exact absurd h h1
    · rw [toksA_end hk]
      refine ⟨[], by simp, fun j c hj hc => ?_⟩
      have := (List.getElem?_eq_some_iff.1 hc).1
      omega
theorem toks_cov {l : List UInt8} (h : (toks l).2 = 0) : Cov l 0 (toks l).1 := by
  unfold toks at h ⊢
  by_cases h1 : 4000 < l.length
  · rw [if_pos h1] at h; simp at h
  · rw [if_neg h1] at h ⊢
    obtain ⟨ts, e, hc⟩ := toksA_cov l (l.length + 1) 0 [] (by omega) h
    rw [List.drop_zero, List.nil_append] at e
    rw [e]; exact hc
/-- A name. -/
def nameB (l : List UInt8) : Bool := match l with
  | [] => false
  | c :: r => decide ((c :: r).length ≤ 12) && (letterN c.toNat && decide (fits partN (c :: r) = c :: r))
theorem nameB_tok {l : List UInt8} (h : nameB l = true) : toks l = ([⟨1, l, 0, 0⟩], 0) := by
  cases l with
  | nil => cases h
  | cons c r =>
    simp only [nameB, Bool.and_eq_true, decide_eq_true_eq] at h
    obtain ⟨h1, h2, h3⟩ := h
    have o : oneT (c :: r) = (⟨1, c :: r, 0, 0⟩, 0) := by
      rw [oneT_cons, if_pos h2, h3, if_neg (by omega)]
    have hl := letterN_yes.1 h2
    have := @toksA_tok (c :: r).length 0 (c :: r) [] c rfl (by omega) (by rw [List.drop_zero, o])
    unfold toks
    rw [if_neg (by omega)]
    rw [List.drop_zero, o] at this
    rw [this, Nat.zero_add, toksA_end (Nat.le_refl _)]
    rfl
theorem tok_nameB {l : List UInt8} {t : Tk} (h : toks l = ([t], 0)) (hk : t.kind = 1) (ht : t.text = l) : nameB l = true := by
  have hc := toks_cov (l := l) (by rw [h])
  rw [h] at hc
  obtain ⟨k, e1, e2, e3, e4, e5, e6, _, _⟩ := hc
  have hk0 : k = 0 := by
    rw [ht] at e5; omega
  subst hk0
  rw [List.drop_zero] at e3
  cases l with
  | nil => exact absurd ht e4
  | cons c r =>
    rw [oneT_cons] at e3
    by_cases h1 : letterN c.toNat = true
    · rw [if_pos h1] at e3
      by_cases h2 : 12 < (fits partN (c :: r)).length
      · rw [if_pos h2] at e3; simp at e3
      · rw [if_neg h2] at e3
        have e : fits partN (c :: r) = c :: r := by
          have := congrArg (fun x => x.1.text) e3
          simp only [Tk.put, ht] at this
          exact this
        simp only [nameB, Bool.and_eq_true, decide_eq_true_eq]
        rw [e] at h2
        exact ⟨by omega, h1, e⟩
    · rw [if_neg h1] at e3
      exfalso
      have hkk := congrArg (fun x => x.1.kind) e3
      simp only [Tk.put, hk] at hkk
      revert hkk
      repeat' split
      all_goals simp [Tk.zero]
end Go.Proofs.Ytbnillkihmooeaa
