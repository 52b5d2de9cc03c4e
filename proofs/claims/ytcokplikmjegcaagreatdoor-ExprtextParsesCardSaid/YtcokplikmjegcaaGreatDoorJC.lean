/- MathC, MathE, MathD, joined: no claim of its own. -/
import Derived.Test.YtcokplikmjegcaaGreatDoorJA
import Derived.Lib.Join
import Derived.Test.YtcokplikmjegcaaGreatDoorJB
namespace Go.Proofs.YtcokplikmjegcaaGreatDoor.MC
/-- A product. -/
structure Pr where
  name : List UInt8
  supply : Int
  reserve : Int
  points : Int
  group : Int
/-- The numbers of a product lie in their ranges. -/
def Pr.ok (p : Pr) : Prop := (1 ≤ p.supply ∧ p.supply ≤ 4) ∧ (0 ≤ p.reserve ∧ p.reserve ≤ 1000000) ∧ (0 ≤ p.points ∧ p.points ≤ 1000) ∧ (0 ≤ p.group ∧ p.group ≤ 4)
instance (p : Pr) : Decidable p.ok := by unfold Pr.ok; infer_instance
/-- The first product with a name. -/
def findL : List Pr → List UInt8 → Option Nat
  | [], _ => none
  | p :: r, n => if p.name = n then some 0 else (findL r n).map (· + 1)
theorem find_lt : ∀ {l : List Pr} {n : List UInt8} {k : Nat}, findL l n = some k → k < l.length
  | [], _, _, h => by cases h
  | p :: r, n, k, h => by
    simp only [findL] at h
    by_cases e : p.name = n
    · rw [if_pos e] at h; injection h with h; subst h; simp
    · rw [if_neg e] at h
      cases hf : findL r n with
      | none => rw [hf] at h; cases h
      | some j =>
        rw [hf] at h
        injection h with h
        subst h
        have := find_lt hf
        simp only [List.length_cons]; omega
/-- The k-th product is the first with this name, none before it has it. -/
theorem find_eq : ∀ {l : List Pr} {k : Nat} {p : Pr}, l[k]? = some p → (∀ (j : Nat) (q : Pr), j < k → l[j]? = some q → q.name ≠ p.name) → findL l p.name = some k
  | [], _, _, h, _ => by simp at h
  | q :: r, 0, p, h, _ => by
    obtain rfl : q = p := by simpa using h
    simp [findL]
  | q :: r, k + 1, p, h, hd => by
    have h1 : q.name ≠ p.name := hd 0 q (Nat.succ_pos _) rfl
    rw [findL, if_neg h1, find_eq (l := r) (k := k) (by simpa using h) fun j s hj hs => hd (j + 1) s (by omega) (by simpa using hs)]
    rfl
theorem find_none : ∀ {l : List Pr} {n : List UInt8}, (∀ p ∈ l, p.name ≠ n) → findL l n = none
  | [], _, _ => rfl
  | p :: r, n, h => by rw [findL, if_neg (h p (by simp)), find_none fun q hq => h q (by simp [hq])]; rfl
/-- The error of one product, the names before it being seen. -/
def prE (seen : List (List UInt8)) (p : Pr) : Int := if nameB p.name = false then 5 else if p.name ∈ seen then 7 else if p.ok then 0 else 4
/-- .. of the first k, one after another. -/
def prsE : List (List UInt8) → List Pr → Int
  | _, [] => 0
  | seen, p :: r => if prE seen p = 0 then prsE (seen ++ [p.name]) r else prE seen p
theorem prsE_cons (seen : List (List UInt8)) (p : Pr) (r : List Pr) : prsE seen (p :: r) = if prE seen p = 0 then prsE (seen ++ [p.name]) r else prE seen p := rfl
/-- The names of the first k. -/
def names (l : List Pr) (k : Nat) : List (List UInt8) := (l.take k).map (·.name)
theorem names_snoc {l : List Pr} {k : Nat} {p : Pr} (h : l[k]? = some p) : names l (k + 1) = names l k ++ [p.name] := by
  unfold names
  rw [List.take_add_one, h, List.map_append]; rfl
theorem prsE_step {l : List Pr} {k : Nat} {p : Pr} (h : l[k]? = some p) (h0 : prE (names l k) p = 0) : prsE (names l k) (l.drop k) = prsE (names l (k + 1)) (l.drop (k + 1)) := by
  obtain ⟨hk, rfl⟩ := List.getElem?_eq_some_iff.1 h
  rw [List.drop_eq_getElem_cons hk, prsE_cons, if_pos h0, names_snoc h]
theorem prsE_stop {l : List Pr} {k : Nat} {p : Pr} (h : l[k]? = some p) (h0 : prE (names l k) p ≠ 0) : prsE (names l k) (l.drop k) = prE (names l k) p := by
  obtain ⟨hk, rfl⟩ := List.getElem?_eq_some_iff.1 h
  rw [List.drop_eq_getElem_cons hk, prsE_cons, if_neg h0]
theorem prsE_end {l : List Pr} {k : Nat} (h : l.length ≤ k) : prsE (names l k) (l.drop k) = 0 := by rw [List.drop_of_length_le h]; rfl
theorem prE_zero {seen : List (List UInt8)} {p : Pr} : prE seen p = 0 ↔ nameB p.name = true ∧ p.name ∉ seen ∧ p.ok := by
  unfold prE
  by_cases h1 : nameB p.name = false
  · rw [if_pos h1]; simp [h1]
  · rw [if_neg h1]
    by_cases h2 : p.name ∈ seen
    · rw [if_pos h2]; simp [h2]
    · rw [if_neg h2]
      by_cases h3 : p.ok
      · rw [if_pos h3]; simp [h2, h3]; simpa using h1
      · rw [if_neg h3]; simp [h3]
theorem prsE_zero : ∀ {l : List Pr} {seen : List (List UInt8)}, prsE seen l = 0 → ∀ (k : Nat) (p : Pr), l[k]? = some p → prE (seen ++ names l k) p = 0
  | [], _, _, _, _, h => by simp at h
  | q :: r, seen, h0, k, p, h => by
    rw [prsE_cons] at h0
    by_cases e : prE seen q = 0
    · rw [if_pos e] at h0
      cases k with
      | zero =>
        obtain rfl : q = p := by simpa using h
        simpa [names] using e
      | succ k =>
        have := prsE_zero h0 k p (by simpa using h)
        simpa [names, List.append_assoc] using this
    · rw [if_neg e] at h0; exact absurd h0 e
/-- How many bundles lie within the supply. -/
def many : List Pr → Nat
  | [] => 1
  | p :: r => (p.supply.toNat + 1) * many r
theorem many_snoc : ∀ (l : List Pr) (p : Pr), many (l ++ [p]) = many l * (p.supply.toNat + 1)
  | [], p => by simp [many]
  | q :: r, p => by rw [List.cons_append, many, many, many_snoc r p, Nat.mul_assoc]
/-- The error of a list. -/
def chkL (l : List Pr) : Int := if l.length = 0 then 1 else if 6 < l.length then 3 else if prsE [] l = 0 then (if 1024 < many l then 12 else 0) else prsE [] l
/-- A valid list. -/
structure Good (l : List Pr) : Prop where
  some_ : l.length ≠ 0
  few : l.length ≤ 6
  each : ∀ (k : Nat) (p : Pr), l[k]? = some p → nameB p.name = true ∧ p.ok
  apart : ∀ (i j : Nat) (p q : Pr), i < j → l[i]? = some p → l[j]? = some q → p.name ≠ q.name
  many : many l ≤ 1024
theorem chk_good {l : List Pr} (h : chkL l = 0) : Good l := by
  unfold chkL at h
  by_cases h1 : l.length = 0
  · rw [if_pos h1] at h; cases h
  · rw [if_neg h1] at h
    by_cases h2 : 6 < l.length
    · rw [if_pos h2] at h; cases h
    · rw [if_neg h2] at h
      by_cases h3 : prsE [] l = 0
      · rw [if_pos h3] at h
        by_cases h4 : 1024 < MC.many l
        · rw [if_pos h4] at h; cases h
        · refine ⟨h1, by omega, fun k p hp => ?_, fun i j p q hij hp hq e => ?_, by omega⟩
          · have := prE_zero.1 (prsE_zero h3 k p hp)
            exact ⟨this.1, this.2.2⟩
          · have := (prE_zero.1 (prsE_zero h3 j q hq)).2.1
            refine this ?_
            rw [← e, List.nil_append]
            unfold names
            refine List.mem_map.2 ⟨p, ?_, rfl⟩
            exact List.mem_of_getElem? (i := i) (by rw [List.getElem?_take_of_lt hij]; exact hp)
      · rw [if_neg h3] at h; exact absurd h h3
theorem Good.find {l : List Pr} (h : Good l) {k : Nat} {p : Pr} (hp : l[k]? = some p) : findL l p.name = some k :=
  find_eq hp fun j q hj hq => h.apart j k q p hj hq hp
/-- The supply of the first six. -/
def supB (l : List Pr) : List Int := MB.pad ((l.take 6).map (·.supply))
theorem supB_length (l : List Pr) : (supB l).length = 6 := MB.pad_length (by rw [List.length_map, List.length_take]; omega)
theorem supB_at {l : List Pr} {k : Nat} {p : Pr} (hk : k < 6) (h : l[k]? = some p) : MB.at_ (supB l) k = p.supply := by
  have hl := (List.getElem?_eq_some_iff.1 h).1
  unfold supB
  rw [MB.pad_at (by rw [List.length_map, List.length_take]; omega)]
  unfold MB.at_
  rw [List.getD_eq_getElem?_getD, List.getElem?_map, List.getElem?_take_of_lt hk, h]; rfl
theorem supB_rest {l : List Pr} {k : Nat} (h : l.length ≤ k) : MB.at_ (supB l) k = 0 := MB.pad_rest (by rw [List.length_map, List.length_take]; omega)
theorem supB_P {l : List Pr} : ∀ k, k ≤ l.length → k ≤ 6 → MB.P (supB l) k = many (l.take k)
  | 0, _, _ => rfl
  | k + 1, hk, h6 => by
    have hp : l[k]? = some l[k] := List.getElem?_eq_getElem (by omega)
    rw [MB.P, supB_P k (by omega) (by omega), supB_at (by omega) hp, List.take_add_one, hp]
    exact (many_snoc _ _).symm
theorem supB_P6 {l : List Pr} (h : l.length ≤ 6) : MB.P (supB l) 6 = many l := by
  have h0 : MB.P (supB l) l.length = many l := by rw [supB_P _ (Nat.le_refl _) h, List.take_length]
  have : ∀ d, MB.P (supB l) (l.length + d) = many l := by
    intro d
    induction d with
    | zero => exact h0
    | succ d ih => rw [← Nat.add_assoc, MB.P, ih, supB_rest (by omega)]; simp
  have e := this (6 - l.length)
  rwa [show l.length + (6 - l.length) = 6 by omega] at e
/-- The number f of product k, 0 where there is none. -/
def of (f : Pr → Int) (l : List Pr) (k : Nat) : Int := ((l[k]?).map f).getD 0
theorem of_at {f : Pr → Int} {l : List Pr} {k : Nat} {p : Pr} (h : l[k]? = some p) : of f l k = f p := by unfold of; rw [h]; rfl
theorem of_rest {f : Pr → Int} {l : List Pr} {k : Nat} (h : l.length ≤ k) : of f l k = 0 := by unfold of; rw [List.getElem?_eq_none h]; rfl
/-- The sum of the quantities times f, over the first k products. -/
def sumK (f : Pr → Int) (l : List Pr) (b : List Int) : Nat → Int
  | 0 => 0
  | k + 1 => sumK f l b k + MB.at_ b k * of f l k
theorem sumK_range {f : Pr → Int} {l : List Pr} {b : List Int} {M : Int} (hM : 0 ≤ M) : ∀ k, (∀ j, j < k → (0 ≤ MB.at_ b j ∧ MB.at_ b j ≤ 4) ∧ 0 ≤ of f l j ∧ of f l j ≤ M) → 0 ≤ sumK f l b k ∧ sumK f l b k ≤ 4 * M * k
  | 0, _ => ⟨Int.le_refl _, by simp [sumK]⟩
  | k + 1, h => by
    have ih := sumK_range hM k fun j hj => h j (by omega)
    obtain ⟨⟨a1, a2⟩, b1, b2⟩ := h k (by omega)
    have h1 : 0 ≤ MB.at_ b k * of f l k := Int.mul_nonneg a1 b1
    have h2 : MB.at_ b k * of f l k ≤ 4 * M := Int.mul_le_mul a2 b2 b1 (by decide)
    rw [sumK]
    have e : 4 * M * ((k + 1 : Nat) : Int) = 4 * M * k + 4 * M := by rw [Int.natCast_succ, Int.mul_add, Int.mul_one]
    rw [e]
    omega
end Go.Proofs.YtcokplikmjegcaaGreatDoor.MC
namespace Go.Proofs.YtcokplikmjegcaaGreatDoor.MC
/-- The digit of a quantity. -/
def dig (q : Int) : UInt8 := UInt8.ofNat (48 + q.toNat)
theorem dig_nat {q : Int} (h0 : 0 ≤ q) (h4 : q ≤ 4) : (dig q).toNat = 48 + q.toNat := by
  unfold dig
  rw [UInt8.toNat_ofNat']
  omega
/-- The name of product k. -/
def nameK (l : List Pr) (k : Nat) : List UInt8 := ((l[k]?).map (·.name)).getD []
theorem nameK_at {l : List Pr} {k : Nat} {p : Pr} (h : l[k]? = some p) : nameK l k = p.name := by unfold nameK; rw [h]; rfl
/-- The text of one element. -/
def entT (l : List Pr) (b : List Int) (k : Nat) : List UInt8 := nameK l k ++ [58, dig (MB.at_ b k)]
/-- The products with a quantity, of the first k. -/
def upK (b : List Int) : Nat → List Nat
  | 0 => []
  | k + 1 => if 0 < MB.at_ b k then upK b k ++ [k] else upK b k
theorem upK_mem {b : List Int} {j : Nat} : ∀ {k}, j ∈ upK b k ↔ j < k ∧ 0 < MB.at_ b j
  | 0 => by simp [upK]
  | k + 1 => by
    rw [upK]
    by_cases h : 0 < MB.at_ b k
    · rw [if_pos h, List.mem_append, upK_mem, List.mem_singleton]
      constructor
      · rintro (⟨a, c⟩ | rfl)
        · exact ⟨by omega, c⟩
        · exact ⟨by omega, h⟩
      · rintro ⟨a, c⟩
        by_cases e : j = k
        · exact .inr e
        · exact .inl ⟨by omega, c⟩
    · rw [if_neg h, upK_mem]
      constructor
      · rintro ⟨a, c⟩; exact ⟨by omega, c⟩
      · rintro ⟨a, c⟩
        refine ⟨?_, c⟩
        by_cases e : j = k
        · subst e; exact absurd c h
        · omega
theorem upK_nodup {b : List Int} : ∀ k, (upK b k).Nodup
  | 0 => List.nodup_nil
  | k + 1 => by
    rw [upK]
    split
    · refine List.nodup_append.2 ⟨upK_nodup k, by simp, ?_⟩
      intro x hx y hy
      rw [List.mem_singleton] at hy
      subst hy
      have := (upK_mem.1 hx).1
      omega
    · exact upK_nodup k
/-- Elements, separated by commas. -/
def joinT (f : Nat → List UInt8) : List Nat → List UInt8
  | [] => []
  | [k] => f k
  | k :: j :: r => f k ++ 44 :: joinT f (j :: r)
/-- What stands between the braces, of the first k products. -/
def inK (l : List Pr) (b : List Int) (k : Nat) : List UInt8 := joinT (entT l b) (upK b k)
/-- The text of a bundle. -/
def textL (l : List Pr) (b : List Int) : List UInt8 := 123 :: (inK l b l.length ++ [125])
/-- A bundle fits a list. -/
def Fits (l : List Pr) (b : List Int) : Prop := chkL l = 0 ∧ MB.okB b = true ∧ ∀ j, l.length ≤ j → MB.at_ b j = 0

/-- The tokens of a text that lies before r. -/
def Lex (t : Tk) (r : List UInt8) : Prop := t.text ≠ [] ∧ (∀ c s, t.text = c :: s → c.toNat ≠ 32) ∧ oneT (t.text ++ r) = (t.put 0, 0)
def flat : List Tk → List UInt8
  | [] => []
  | t :: r => t.text ++ flat r
def LexAll : List Tk → Prop
  | [] => True
  | t :: r => Lex t (flat r) ∧ LexAll r
/-- Tokens at their places. -/
def placed : Nat → List Tk → List Tk
  | _, [] => []
  | k, t :: r => t.put k :: placed (k + t.text.length) r
def Tk.bare (t : Tk) : Tk := t.put 0
theorem placed_bare : ∀ (k : Nat) (ts : List Tk), (∀ t ∈ ts, t.at_ = 0) → (placed k ts).map Tk.bare = ts
  | _, [], _ => rfl
  | k, t :: r, h => by
    rw [placed, List.map_cons, placed_bare _ r fun u hu => h u (by simp [hu])]
    have : t.at_ = 0 := h t (by simp)
    obtain ⟨a, b, c, d⟩ := t
    simp only at this
    subst this
    rfl
theorem toksA_all : ∀ (ts : List Tk) (f k : Nat) (out : List Tk), LexAll ts → ts.length < f → toksA f k (flat ts) out = (out ++ placed k ts, 0)
  | [], f, k, out, _, hf => by
    obtain ⟨f, rfl⟩ : ∃ g, f = g + 1 := ⟨f - 1, by simp at hf; omega⟩
    simp [flat, toksA, placed]
  | t :: r, f, k, out, ⟨⟨h1, h2, h3⟩, hr⟩, hf => by
    obtain ⟨f, rfl⟩ : ∃ g, f = g + 1 := ⟨f - 1, by simp at hf; omega⟩
    cases ht : t.text with
    | nil => exact absurd ht h1
    | cons c s =>
      rw [flat, ht, List.cons_append, toksA, if_neg (h2 c s ht)]
      rw [ht, List.cons_append] at h3
      rw [h3, if_pos rfl]
      have e1 : (t.put 0).text = c :: s := ht
      have e2 : (t.put 0).put (k : Int) = t.put k := rfl
      simp only [e1, e2]
      rw [show (c :: (s ++ flat r)).drop (c :: s).length = flat r by simp]
      rw [toksA_all r f _ _ hr (by simp only [List.length_cons] at hf; omega), placed, ht, List.append_assoc]
      rfl
theorem flat_len : ∀ {ts : List Tk}, LexAll ts → ts.length ≤ (flat ts).length
  | [], _ => Nat.zero_le _
  | t :: r, ⟨⟨h1, _, _⟩, hr⟩ => by
    have := flat_len hr
    have h2 : t.text.length ≠ 0 := fun e => h1 (List.eq_nil_of_length_eq_zero e)
    rw [flat, List.length_append, List.length_cons]; omega
theorem toks_all {ts : List Tk} (h : LexAll ts) (hl : (flat ts).length ≤ 4000) : toks (flat ts) = (placed 0 ts, 0) := by
  unfold toks
  rw [if_neg (by omega), toksA_all ts _ 0 [] h (by have := flat_len h; omega)]
  rfl
/-- Marks, names and digits as tokens. -/
def mkT (c : UInt8) : Tk := ⟨3, [c], 0, 0⟩
def nmT (n : List UInt8) : Tk := ⟨1, n, 0, 0⟩
def dgT (q : Int) : Tk := ⟨2, [dig q], q, 0⟩
theorem lex_mark {c : UInt8} (h : markN c.toNat = true) (r : List UInt8) : Lex (mkT c) r := by
  have hm := markN_yes.1 h
  refine ⟨by simp [mkT], fun d s e => by injection e with e1 e2; subst e1; omega, ?_⟩
  show oneT (c :: r) = _
  rw [oneT_cons, if_neg (by rw [letterN_no.2 (by omega)]; decide), if_neg (by rw [digitN_no.2 (by omega)]; decide), if_pos h]
  rfl
theorem fits_all {B : Nat → Bool} : ∀ {a r : List UInt8}, fits B a = a → (∀ c s, r = c :: s → B c.toNat = false) → fits B (a ++ r) = a
  | [], [], _, _ => rfl
  | [], c :: s, _, h => by
    show (c :: s).takeWhile _ = []
    rw [List.takeWhile_cons_of_neg (by simp [h c s rfl])]
  | d :: a, r, h, hr => by
    have hd : B d.toNat = true := by
      cases hB : B d.toNat with
      | true => rfl
      | false =>
        have : fits B (d :: a) = [] := List.takeWhile_cons_of_neg (by simp [hB])
        rw [this] at h; cases h
    rw [fits_cons hd] at h
    injection h with _ h
    rw [List.cons_append, fits_cons hd, fits_all h hr]
theorem lex_name {n r : List UInt8} (h : nameB n = true) (hr : ∀ c s, r = c :: s → partN c.toNat = false) : Lex (nmT n) r := by
  cases n with
  | nil => cases h
  | cons c s =>
    simp only [nameB, Bool.and_eq_true, decide_eq_true_eq] at h
    obtain ⟨h1, h2, h3⟩ := h
    have hl := letterN_yes.1 h2
    refine ⟨by simp [nmT], fun d u e => by injection e with e1 e2; subst e1; omega, ?_⟩
    have hf : fits partN (c :: (s ++ r)) = c :: s := by
      have := fits_all (a := c :: s) (r := r) h3 hr
      simpa using this
    show oneT (c :: (s ++ r)) = _
    rw [oneT_cons, if_pos h2, hf, if_neg (by omega)]
    rfl
theorem lex_dig {q : Int} {r : List UInt8} (h1 : 0 ≤ q) (h4 : q ≤ 4) (hr : ∀ c s, r = c :: s → digitN c.toNat = false) : Lex (dgT q) r := by
  have hd := dig_nat h1 h4
  have hdg : digitN (dig q).toNat = true := digitN_yes.2 (by omega)
  refine ⟨by simp [dgT], fun d u e => by injection e with e1 e2; subst e1; omega, ?_⟩
  have hf : fits digitN (dig q :: r) = [dig q] := by
    have := fits_all (B := digitN) (a := [dig q]) (r := r) (by rw [fits_cons hdg]; rfl) hr
    simpa using this
  show oneT (dig q :: r) = _
  rw [oneT_cons, if_neg (by rw [letterN_no.2 (by omega)]; decide), if_pos hdg, hf, if_neg (by simp), if_neg (by simp)]
  have : numV [dig q] = q.toNat := by simp [numV, hd]
  rw [this, Int.toNat_of_nonneg h1]
  rfl
/-- The tokens of an element, and of the elements. -/
def entK (l : List Pr) (b : List Int) (k : Nat) : List Tk := [nmT (nameK l k), mkT 58, dgT (MB.at_ b k)]
def joinK (l : List Pr) (b : List Int) : List Nat → List Tk
  | [] => [mkT 125]
  | [k] => entK l b k ++ [mkT 125]
  | k :: j :: r => entK l b k ++ mkT 44 :: joinK l b (j :: r)
theorem flat_joinK (l : List Pr) (b : List Int) : ∀ r : List Nat, flat (joinK l b r) = joinT (entT l b) r ++ [125]
  | [] => rfl
  | [k] => by simp [joinK, joinT, entK, entT, flat, nmT, mkT, dgT]
  | k :: j :: r => by
    have := flat_joinK l b (j :: r)
    simp [joinK, joinT, entK, entT, flat, nmT, mkT, dgT, this]
theorem lex_joinK {l : List Pr} {b : List Int} : ∀ (r : List Nat), (∀ k ∈ r, nameB (nameK l k) = true ∧ 0 ≤ MB.at_ b k ∧ MB.at_ b k ≤ 4) → LexAll (joinK l b r)
  | [], _ => ⟨lex_mark (by decide) _, trivial⟩
  | [k], h => by
    obtain ⟨h1, h2, h3⟩ := h k (by simp)
    exact ⟨lex_name h1 (fun c s e => by injection e with e _; subst e; decide), lex_mark (by decide) _, lex_dig h2 h3 (fun c s e => by injection e with e _; subst e; decide), lex_mark (by decide) _, trivial⟩
  | k :: j :: r, h => by
    obtain ⟨h1, h2, h3⟩ := h k (by simp)
    exact ⟨lex_name h1 (fun c s e => by injection e with e _; subst e; decide), lex_mark (by decide) _, lex_dig h2 h3 (fun c s e => by injection e with e _; subst e; decide), lex_mark (by decide) _, lex_joinK (j :: r) fun i hi => h i (by simp only [List.mem_cons] at hi ⊢; exact .inr hi)⟩
theorem joinK_bare {l : List Pr} {b : List Int} : ∀ (r : List Nat), ∀ t ∈ joinK l b r, t.at_ = 0
  | [], t, h => by simp only [joinK, List.mem_singleton] at h; subst h; rfl
  | [k], t, h => by simp only [joinK, entK, List.cons_append, List.nil_append, List.mem_cons, List.not_mem_nil, or_false] at h; rcases h with rfl | rfl | rfl | rfl <;> rfl
  | k :: j :: r, t, h => by
    simp only [joinK, entK, List.cons_append, List.nil_append, List.mem_cons] at h
    rcases h with rfl | rfl | rfl | rfl | h
    · rfl
    · rfl
    · rfl
    · rfl
    · exact joinK_bare (j :: r) t h
end Go.Proofs.YtcokplikmjegcaaGreatDoor.MC
namespace Go.Proofs.YtcokplikmjegcaaGreatDoor.MC
def Z6 : List Int := [0, 0, 0, 0, 0, 0]
/-- A token is this mark. -/
def isM (c : UInt8) (t : Tk) : Bool := decide (t.kind = 3) && decide (t.text = [c])
/-- .. there is such a token. -/
def isO (c : UInt8) : Option Tk → Bool
  | none => false
  | some t => isM c t
/-- The error where another token is required. -/
def wrongE : Option Tk → Int
  | none => 1
  | some _ => 2
/-- The error of one element at the beginning of ts, its comma or brace included; 0 if there is none. -/
def elE (l : List Pr) (b : List Int) (ts : List Tk) : Int :=
  match ts[0]? with
  | none => 1
  | some t => if t.kind ≠ 1 then 2 else
    match findL l t.text with
    | none => 6
    | some k => if MB.at_ b k ≠ 0 then 7 else if isO 58 ts[1]? = false then wrongE ts[1]? else
      match ts[2]? with
      | none => 1
      | some v => if v.kind ≠ 2 then 2 else if v.value < 1 ∨ 4 < v.value then 4 else if isO 125 ts[3]? = true then 0 else if isO 44 ts[3]? = true then 0 else wrongE ts[3]?
/-- The bundle with the element at the beginning of ts. -/
def elB (l : List Pr) (b : List Int) (ts : List Tk) : List Int := b.set ((findL l (((ts[0]?).map (·.text)).getD [])).getD 0) (((ts[2]?).map (·.value)).getD 0)
/-- The elements: the bundle, what follows, the error. -/
def elems (l : List Pr) : Nat → List Int → List Tk → List Int × List Tk × Int
  | 0, _, _ => (Z6, [], 1)
  | f + 1, b, ts =>
    if elE l b ts = 0 then (if isO 125 ts[3]? = true then (elB l b ts, ts.drop 4, 0) else elems l f (elB l b ts) (ts.drop 4))
    else (Z6, [], elE l b ts)
theorem elems_bad {l : List Pr} {f : Nat} {b : List Int} {ts : List Tk} (h : elE l b ts ≠ 0) : elems l (f + 1) b ts = (Z6, [], elE l b ts) := by rw [elems, if_neg h]
theorem elems_end {l : List Pr} {f : Nat} {b : List Int} {ts : List Tk} (h : elE l b ts = 0) (h1 : isO 125 ts[3]? = true) : elems l (f + 1) b ts = (elB l b ts, ts.drop 4, 0) := by rw [elems, if_pos h, if_pos h1]
theorem elems_on {l : List Pr} {f : Nat} {b : List Int} {ts : List Tk} (h : elE l b ts = 0) (h1 : isO 125 ts[3]? = false) : elems l (f + 1) b ts = elems l f (elB l b ts) (ts.drop 4) := by
  rw [elems, if_pos h, if_neg (by rw [h1]; decide)]
/-- An element without an error has four tokens. -/
theorem elE_zero {l : List Pr} {b : List Int} {ts : List Tk} (h : elE l b ts = 0) : ∃ (t m v e : Tk) (r : List Tk) (k : Nat), ts = t :: m :: v :: e :: r ∧ t.kind = 1 ∧ findL l t.text = some k ∧ MB.at_ b k = 0 ∧ isM 58 m = true ∧ v.kind = 2 ∧ 1 ≤ v.value ∧ v.value ≤ 4 ∧ (isM 125 e = true ∨ (isM 125 e = false ∧ isM 44 e = true)) ∧ elB l b ts = b.set k v.value := by
  cases ts with
  | nil => simp [elE] at h
  | cons t ts =>
    have h' := h
    unfold elE at h'
    simp only [List.getElem?_cons_zero] at h'
    by_cases h1 : t.kind ≠ 1
    · rw [if_pos h1] at h'; cases h'
    · rw [if_neg h1] at h'
      cases hf : findL l t.text with
      | none => rw [hf] at h'; cases h'
      | some k =>
        rw [hf] at h'
        simp only at h'
        by_cases h2 : MB.at_ b k ≠ 0
        · rw [if_pos h2] at h'; cases h'
        · rw [if_neg h2] at h'
          cases ts with
          | nil => simp [isO, wrongE] at h'
          | cons m ts =>
            simp only [List.getElem?_cons_succ, List.getElem?_cons_zero] at h'
            by_cases h3 : isO 58 (some m) = false
            · rw [if_pos h3] at h'; simp [wrongE] at h'
            · rw [if_neg h3] at h'
              cases ts with
              | nil => simp at h'
              | cons v ts =>
                simp only [List.getElem?_cons_zero] at h'
                by_cases h4 : v.kind ≠ 2
                · rw [if_pos h4] at h'; cases h'
                · rw [if_neg h4] at h'
                  by_cases h5 : v.value < 1 ∨ 4 < v.value
                  · rw [if_pos h5] at h'; cases h'
                  · rw [if_neg h5] at h'
                    cases ts with
                    | nil => simp [isO, wrongE] at h'
                    | cons e r =>
                      simp only [List.getElem?_cons_succ, List.getElem?_cons_zero] at h'
                      refine ⟨t, m, v, e, r, k, rfl, by simpa using h1, hf, by simpa using h2, by simpa [isO] using h3, by simpa using h4, by omega, by omega, ?_, ?_⟩
                      · by_cases h6 : isO 125 (some e) = true
                        · exact .inl h6
                        · rw [if_neg h6] at h'
                          by_cases h7 : isO 44 (some e) = true
                          · exact .inr ⟨by simpa [isO] using h6, h7⟩
                          · rw [if_neg h7] at h'; simp [wrongE] at h'
                      · simp [elB, hf]
theorem elE_yes {l : List Pr} {b : List Int} {t m v e : Tk} {r : List Tk} {k : Nat} (h1 : t.kind = 1) (h2 : findL l t.text = some k) (h3 : MB.at_ b k = 0) (h4 : isM 58 m = true) (h5 : v.kind = 2) (h6 : 1 ≤ v.value) (h7 : v.value ≤ 4) (h8 : isM 125 e = true ∨ isM 44 e = true) :
    elE l b (t :: m :: v :: e :: r) = 0 ∧ elB l b (t :: m :: v :: e :: r) = b.set k v.value := by
  refine ⟨?_, by simp [elB, h2]⟩
  unfold elE
  simp only [List.getElem?_cons_zero, List.getElem?_cons_succ]
  rw [if_neg (by simp [h1]), h2]
  simp only
  rw [if_neg (by simp [h3]), if_neg (by simp [isO, h4]), if_neg (by simp [h5]), if_neg (by omega)]
  rcases h8 with h8 | h8
  · rw [if_pos (by simp [isO, h8])]
  · by_cases h9 : isO 125 (some e) = true
    · rw [if_pos h9]
    · rw [if_neg h9, if_pos (by simp [isO, h8])]
/-- What is left is shorter. -/
theorem elems_rest (l : List Pr) : ∀ (f : Nat) (b : List Int) (ts : List Tk), (elems l f b ts).2.2 = 0 → ∃ n, 4 ≤ n ∧ n ≤ ts.length ∧ (elems l f b ts).2.1 = ts.drop n
  | 0, _, _, h => by simp [elems] at h
  | f + 1, b, ts, h => by
    by_cases h0 : elE l b ts = 0
    · obtain ⟨t, m, v, e, r, k, rfl, _⟩ := elE_zero h0
      cases h1 : isO 125 (t :: m :: v :: e :: r)[3]? with
      | true => rw [elems_end h0 h1]; exact ⟨4, Nat.le_refl _, by simp, rfl⟩
      | false =>
        rw [elems_on h0 h1] at h ⊢
        obtain ⟨n, a, c, d⟩ := elems_rest l f _ _ h
        refine ⟨4 + n, by omega, ?_, by rw [d, List.drop_drop]⟩
        simp only [List.length_drop, List.length_cons] at c ⊢
        omega
    · rw [elems_bad h0] at h; exact absurd h h0
/-- With fuel enough, more changes nothing. -/
theorem elems_fuel (l : List Pr) : ∀ (f g : Nat) (b : List Int) (ts : List Tk), ts.length < f → ts.length < g → elems l f b ts = elems l g b ts
  | 0, _, _, _, h, _ => by omega
  | _, 0, _, _, _, h => by omega
  | f + 1, g + 1, b, ts, hf, hg => by
    by_cases h0 : elE l b ts = 0
    · obtain ⟨t, m, v, e, r, k, rfl, _⟩ := elE_zero h0
      cases h1 : isO 125 (t :: m :: v :: e :: r)[3]? with
      | true => rw [elems_end h0 h1, elems_end h0 h1]
      | false =>
        rw [elems_on h0 h1, elems_on h0 h1]
        simp only [List.length_cons] at hf hg
        exact elems_fuel l f g _ _ (by simp; omega) (by simp; omega)
    · rw [elems_bad h0, elems_bad h0]
/-- A bundle from the beginning of a list of tokens: the bundle, what follows, the error. -/
def scanL (l : List Pr) (ts : List Tk) : List Int × List Tk × Int :=
  if isO 123 ts[0]? = true then (if isO 125 ts[1]? = true then (Z6, ts.drop 2, 0) else elems l (ts.length + 1) Z6 (ts.drop 1)) else (Z6, [], wrongE ts[0]?)
theorem scan_empty {l : List Pr} {ts : List Tk} (h : isO 123 ts[0]? = true) (h1 : isO 125 ts[1]? = true) : scanL l ts = (Z6, ts.drop 2, 0) := by unfold scanL; rw [if_pos h, if_pos h1]
theorem scan_on {l : List Pr} {ts : List Tk} (h : isO 123 ts[0]? = true) (h1 : isO 125 ts[1]? = false) : scanL l ts = elems l (ts.length + 1) Z6 (ts.drop 1) := by unfold scanL; rw [if_pos h, if_neg (by rw [h1]; decide)]
theorem scan_bad {l : List Pr} {ts : List Tk} (h : isO 123 ts[0]? = false) : scanL l ts = (Z6, [], wrongE ts[0]?) := by unfold scanL; rw [if_neg (by rw [h]; decide)]
theorem isO_true {c : UInt8} {o : Option Tk} (h : isO c o = true) : ∃ t, o = some t ∧ isM c t = true := by
  cases o with
  | none => cases h
  | some t => exact ⟨t, rfl, h⟩
/-- What is left lies in the list. -/
theorem scan_rest {l : List Pr} {ts : List Tk} (h : (scanL l ts).2.2 = 0) : ∃ n, 2 ≤ n ∧ n ≤ ts.length ∧ (scanL l ts).2.1 = ts.drop n := by
  cases h0 : isO 123 ts[0]? with
  | false =>
    rw [scan_bad h0] at h
    cases hh : ts[0]? with
    | none => rw [hh] at h; simp [wrongE] at h
    | some t => rw [hh] at h; simp [wrongE] at h
  | true =>
    cases h1 : isO 125 ts[1]? with
    | true =>
      rw [scan_empty h0 h1]
      obtain ⟨t, ht, _⟩ := isO_true h1
      exact ⟨2, Nat.le_refl _, (List.getElem?_eq_some_iff.1 ht).1, rfl⟩
    | false =>
      rw [scan_on h0 h1] at h ⊢
      obtain ⟨n, a, c, d⟩ := elems_rest l _ _ _ h
      obtain ⟨t, ht, _⟩ := isO_true h0
      have := (List.getElem?_eq_some_iff.1 ht).1
      rw [List.length_drop] at c
      exact ⟨1 + n, by omega, by omega, by rw [d, List.drop_drop]⟩
/-- A text read as a bundle: the bundle and the error. -/
def parseL (l : List Pr) (s : List UInt8) : List Int × Int :=
  if chkL l = 0 then (if (toks s).2 = 0 then (if (scanL l (toks s).1).2.2 = 0 then (if (scanL l (toks s).1).2.1 = [] then ((scanL l (toks s).1).1, 0) else (Z6, 3)) else (Z6, (scanL l (toks s).1).2.2)) else (Z6, (toks s).2)) else (Z6, chkL l)
/-! Places make no difference. -/
theorem isO_bare (c : UInt8) (o : Option Tk) : isO c (o.map Tk.bare) = isO c o := by cases o <;> rfl
theorem wrongE_bare (o : Option Tk) : wrongE (o.map Tk.bare) = wrongE o := by cases o <;> rfl
theorem elE_bare (l : List Pr) (b : List Int) (ts : List Tk) : elE l b (ts.map Tk.bare) = elE l b ts := by
  unfold elE
  simp only [List.getElem?_map, isO_bare, wrongE_bare]
  cases h0 : ts[0]? with
  | none => rfl
  | some t =>
    cases h2 : ts[2]? with
    | none => rfl
    | some v => rfl
theorem elB_bare (l : List Pr) (b : List Int) (ts : List Tk) : elB l b (ts.map Tk.bare) = elB l b ts := by
  unfold elB
  simp only [List.getElem?_map]
  cases h0 : ts[0]? <;> cases h2 : ts[2]? <;> rfl
theorem elems_bare (l : List Pr) : ∀ (f : Nat) (b : List Int) (ts : List Tk), elems l f b (ts.map Tk.bare) = ((elems l f b ts).1, (elems l f b ts).2.1.map Tk.bare, (elems l f b ts).2.2)
  | 0, _, _ => rfl
  | f + 1, b, ts => by
    simp only [elems, elE_bare, elB_bare, List.getElem?_map, isO_bare, ← List.map_drop, elems_bare l f]
    split
    · split <;> rfl
    · rfl
theorem scan_bare (l : List Pr) (ts : List Tk) : scanL l (ts.map Tk.bare) = ((scanL l ts).1, (scanL l ts).2.1.map Tk.bare, (scanL l ts).2.2) := by
  unfold scanL
  simp only [List.getElem?_map, isO_bare, wrongE_bare, ← List.map_drop, elems_bare, List.length_map]
  split
  · split <;> rfl
  · rfl
/-! The text of a bundle is read back. -/
/-- A bundle with the quantities of b at the places ks. -/
def putK (b : List Int) : List Int → List Nat → List Int
  | z, [] => z
  | z, k :: r => putK b (z.set k (MB.at_ b k)) r
theorem putK_length (b : List Int) : ∀ (ks : List Nat) (z : List Int), (putK b z ks).length = z.length
  | [], _ => rfl
  | k :: r, z => by rw [putK, putK_length b r, List.length_set]
theorem at_set {z : List Int} {k j : Nat} {v : Int} (hk : k < z.length) : MB.at_ (z.set k v) j = if j = k then v else MB.at_ z j := by
  unfold MB.at_
  by_cases e : j = k
  · subst e; rw [if_pos rfl, List.getD_eq_getElem?_getD, List.getElem?_set_self hk]; rfl
  · rw [if_neg e, List.getD_eq_getElem?_getD, List.getD_eq_getElem?_getD, List.getElem?_set_ne (fun x => e x.symm)]
theorem putK_at (b : List Int) : ∀ (ks : List Nat) (z : List Int) (j : Nat), (∀ k ∈ ks, k < z.length) → MB.at_ (putK b z ks) j = if j ∈ ks then MB.at_ b j else MB.at_ z j
  | [], _, _, _ => by simp [putK]
  | k :: r, z, j, h => by
    rw [putK, putK_at b r _ j fun i hi => by rw [List.length_set]; exact h i (by simp [hi]), at_set (h k (by simp))]
    by_cases h1 : j ∈ r
    · rw [if_pos h1, if_pos (by simp [h1])]
    · rw [if_neg h1]
      by_cases h2 : j = k
      · subst h2; rw [if_pos rfl, if_pos (by simp)]
      · rw [if_neg h2, if_neg (by simp [h1, h2])]
theorem elems_join {l : List Pr} {b : List Int} : ∀ (ks : List Nat) (f : Nat) (z : List Int), ks ≠ [] → ks.length < f → ks.Nodup → (∀ k ∈ ks, k < z.length ∧ MB.at_ z k = 0 ∧ findL l (nameK l k) = some k ∧ 1 ≤ MB.at_ b k ∧ MB.at_ b k ≤ 4) →
    elems l f z (joinK l b ks) = (putK b z ks, [], 0)
  | [], _, _, h, _, _, _ => absurd rfl h
  | [k], f, z, _, hf, _, h => by
    obtain ⟨f, rfl⟩ : ∃ g, f = g + 1 := ⟨f - 1, by omega⟩
    obtain ⟨h1, h2, h3, h4, h5⟩ := h k (by simp)
    obtain ⟨e1, e2⟩ := elE_yes (l := l) (b := z) (t := nmT (nameK l k)) (m := mkT 58) (v := dgT (MB.at_ b k)) (e := mkT 125) (r := []) (k := k) rfl h3 h2 (by decide) rfl h4 h5 (.inl (by decide))
    show elems l (f + 1) z [_, _, _, _] = _
    rw [elems_end e1 (by rfl), e2]
    rfl
  | k :: j :: r, f, z, _, hf, hn, h => by
    obtain ⟨f, rfl⟩ : ∃ g, f = g + 1 := ⟨f - 1, by omega⟩
    obtain ⟨h1, h2, h3, h4, h5⟩ := h k (by simp)
    obtain ⟨e1, e2⟩ := elE_yes (l := l) (b := z) (t := nmT (nameK l k)) (m := mkT 58) (v := dgT (MB.at_ b k)) (e := mkT 44) (r := joinK l b (j :: r)) (k := k) rfl h3 h2 (by decide) rfl h4 h5 (.inr (by decide))
    show elems l (f + 1) z (_ :: _ :: _ :: _ :: joinK l b (j :: r)) = _
    rw [elems_on e1 (by rfl), e2]
    have hn' := List.nodup_cons.1 hn
    exact elems_join (j :: r) f _ (by simp) (by simp only [List.length_cons] at hf ⊢; omega) hn'.2 fun i hi => by
      obtain ⟨a1, a2, a3, a4, a5⟩ := h i (by simp only [List.mem_cons] at hi ⊢; exact .inr hi)
      have hik : i ≠ k := fun e => hn'.1 (e ▸ hi)
      exact ⟨by rw [List.length_set]; exact a1, by rw [at_set h1, if_neg hik]; exact a2, a3, a4, a5⟩
theorem okB_at {b : List Int} (h : MB.okB b = true) (k : Nat) : 0 ≤ MB.at_ b k ∧ MB.at_ b k ≤ 4 := by
  unfold MB.at_
  rw [List.getD_eq_getElem?_getD]
  cases hk : b[k]? with
  | none => decide
  | some q =>
    unfold MB.okB at h
    have := List.all_eq_true.1 h q (List.mem_of_getElem? hk)
    simpa using this
section
variable {l : List Pr} {b : List Int}
theorem Fits.each (h : Fits l b) : ∀ k ∈ upK b l.length, nameB (nameK l k) = true ∧ findL l (nameK l k) = some k ∧ k < l.length ∧ 1 ≤ MB.at_ b k ∧ MB.at_ b k ≤ 4 := by
  intro k hk
  obtain ⟨h1, h2⟩ := upK_mem.1 hk
  have hg := chk_good h.1
  have hp : l[k]? = some l[k] := List.getElem?_eq_getElem h1
  rw [nameK_at hp]
  exact ⟨(hg.each k _ hp).1, hg.find hp, h1, by omega, (okB_at h.2.1 k).2⟩
theorem joinT_len {f : Nat → List UInt8} {m : Nat} : ∀ r : List Nat, (∀ k ∈ r, (f k).length ≤ m) → (joinT f r).length ≤ r.length * (m + 1)
  | [], _ => Nat.zero_le _
  | [k], h => by
    have := h k (by simp)
    show (f k).length ≤ 1 * (m + 1)
    omega
  | k :: j :: r, h => by
    have h1 := h k (by simp)
    have := joinT_len (f := f) (m := m) (j :: r) fun i hi => h i (by simp only [List.mem_cons] at hi ⊢; exact .inr hi)
    show (f k ++ 44 :: joinT f (j :: r)).length ≤ ((j :: r).length + 1) * (m + 1)
    rw [List.length_append, List.length_cons, Nat.add_mul]
    omega
theorem nameB_len {n : List UInt8} (h : nameB n = true) : n.length ≤ 12 := by
  cases n with
  | nil => simp
  | cons c r => simp only [nameB, Bool.and_eq_true, decide_eq_true_eq] at h; exact h.1
theorem upK_len (b : List Int) : ∀ k, (upK b k).length ≤ k
  | 0 => Nat.le_refl _
  | k + 1 => by
    have := upK_len b k
    rw [upK]
    split
    · rw [List.length_append]; simp; omega
    · omega
theorem text_flat : textL l b = flat (mkT 123 :: joinK l b (upK b l.length)) := by
  unfold textL inK
  rw [flat, flat_joinK]; rfl
theorem Fits.inK_len (h : Fits l b) : (inK l b l.length).length ≤ 90 := by
  have hg := (chk_good h.1).few
  have h1 := joinT_len (f := entT l b) (m := 14) (upK b l.length) fun k hk => by
    have := nameB_len (h.each k hk).1
    simp [entT]; omega
  have h2 := upK_len b l.length
  unfold inK
  have : (upK b l.length).length * (14 + 1) ≤ 6 * 15 := Nat.mul_le_mul (by omega) (Nat.le_refl _)
  omega
theorem Fits.text_len (h : Fits l b) : (textL l b).length ≤ 92 := by
  have := h.inK_len
  unfold textL
  rw [List.length_cons, List.length_append]
  simp only [List.length_cons, List.length_nil]
  omega
/-- The tokens of the text of a bundle. -/
theorem Fits.toks (h : Fits l b) : toks (textL l b) = (placed 0 (mkT 123 :: joinK l b (upK b l.length)), 0) := by
  have hl := h.text_len
  rw [text_flat] at hl ⊢
  refine toks_all ⟨lex_mark (by decide) _, lex_joinK _ fun k hk => ?_⟩ (by omega)
  obtain ⟨a1, _, _, a4, a5⟩ := h.each k hk
  exact ⟨a1, by omega, a5⟩
theorem Fits.scan (h : Fits l b) (hb : b.length = 6) : scanL l (mkT 123 :: joinK l b (upK b l.length)) = (b, [], 0) := by
  have hg := (chk_good h.1).few
  have hput : putK b Z6 (upK b l.length) = b := by
    refine MB.ext6 (by rw [putK_length]; rfl) hb fun j hj => ?_
    rw [putK_at b _ _ j fun k hk => by have := (h.each k hk).2.2.1; show k < 6; omega]
    by_cases hm : j ∈ upK b l.length
    · rw [if_pos hm]
    · rw [if_neg hm]
      have hz : MB.at_ Z6 j = 0 := by
        have : j = 0 ∨ j = 1 ∨ j = 2 ∨ j = 3 ∨ j = 4 ∨ j = 5 := by omega
        rcases this with rfl | rfl | rfl | rfl | rfl | rfl <;> rfl
      rw [hz]
      by_cases hjl : j < l.length
      · have h0 := (okB_at h.2.1 j).1
        have h1 : ¬ 0 < MB.at_ b j := fun hp => hm (upK_mem.2 ⟨hjl, hp⟩)
        omega
      · exact (h.2.2 j (by omega)).symm
  by_cases h0 : upK b l.length = []
  · rw [h0] at hput ⊢
    rw [scan_empty (by rfl) (by rfl)]
    exact congrArg (fun x => (x, ([] : List Tk), (0 : Int))) hput
  · have hz : ∀ k, MB.at_ Z6 k = 0 := fun k => by
      by_cases hk : k < 6
      · have : k = 0 ∨ k = 1 ∨ k = 2 ∨ k = 3 ∨ k = 4 ∨ k = 5 := by omega
        rcases this with rfl | rfl | rfl | rfl | rfl | rfl <;> rfl
      · unfold MB.at_; rw [List.getD_eq_getElem?_getD, List.getElem?_eq_none (by show 6 ≤ k; omega)]; rfl
    have h1 : isO 125 (mkT 123 :: joinK l b (upK b l.length))[1]? = false := by
      cases hu : upK b l.length with
      | nil => exact absurd hu h0
      | cons k r => cases r <;> rfl
    have hlen : ∀ r : List Nat, r.length < (joinK l b r).length + 2 := fun r => by
      induction r with
      | nil => simp
      | cons k r ih =>
        cases r with
        | nil => simp [joinK, entK]
        | cons j r =>
          have e : (joinK l b (k :: j :: r)).length = (joinK l b (j :: r)).length + 4 := by simp [joinK, entK]
          rw [e]; simp only [List.length_cons] at ih ⊢; omega
    rw [scan_on (by rfl) h1]
    show elems l _ Z6 (joinK l b (upK b l.length)) = _
    rw [elems_join _ _ _ h0 (by have := hlen (upK b l.length); simp only [List.length_cons]; omega) (upK_nodup _) fun k hk => ?_, hput]
    obtain ⟨_, a2, a3, a4, a5⟩ := h.each k hk
    exact ⟨by show k < 6; omega, hz k, a2, a4, a5⟩
/-- Parsing the text of a bundle returns it. -/
theorem Fits.parse (h : Fits l b) (hb : b.length = 6) : parseL l (textL l b) = (b, 0) := by
  have hs := h.scan hb
  have hm : (placed 0 (mkT 123 :: joinK l b (upK b l.length))).map Tk.bare = mkT 123 :: joinK l b (upK b l.length) :=
    placed_bare 0 _ fun t ht => by
      rcases List.mem_cons.1 ht with rfl | ht
      · rfl
      · exact joinK_bare _ t ht
  rw [← hm, scan_bare] at hs
  unfold parseL
  rw [if_pos h.1, h.toks, if_pos rfl]
  simp only [Prod.mk.injEq] at hs
  obtain ⟨s1, s2, s3⟩ := hs
  rw [if_pos s3, if_pos (by simpa using s2), s1]
end
end Go.Proofs.YtcokplikmjegcaaGreatDoor.MC
namespace Go.Proofs.YtcokplikmjegcaaGreatDoor.MC
theorem find_none_iff {n : List UInt8} : ∀ {l : List Pr}, findL l n = none ↔ ∀ p ∈ l, p.name ≠ n
  | [] => by simp [findL]
  | p :: r => by
    rw [findL]
    by_cases e : p.name = n
    · rw [if_pos e]; simp [e]
    · rw [if_neg e, Option.map_eq_none_iff, find_none_iff (l := r)]; simp [e]
theorem find_names {l : List Pr} {k : Nat} {n : List UInt8} : findL (l.take k) n = none ↔ n ∉ names l k := by
  rw [find_none_iff]
  unfold names
  constructor
  · intro h hm
    obtain ⟨p, hp, e⟩ := List.mem_map.1 hm
    exact h p hp e
  · intro h p hp e
    exact h (List.mem_map.2 ⟨p, hp, e⟩)
theorem names_not {l : List Pr} {k : Nat} {n : List UInt8} (h : ∀ (j : Nat) (p : Pr), j < k → l[j]? = some p → p.name ≠ n) : n ∉ names l k := by
  intro hm
  obtain ⟨p, hp, e⟩ := List.mem_map.1 hm
  obtain ⟨j, hj, e2⟩ := List.mem_iff_getElem.1 hp
  rw [List.length_take] at hj
  rw [List.getElem_take] at e2
  exact h j p (by omega) (by rw [List.getElem?_eq_getElem (by omega), e2]) e
theorem names_mem {l : List Pr} {k j : Nat} {p : Pr} (hj : j < k) (h : l[j]? = some p) : p.name ∈ names l k :=
  List.mem_map.2 ⟨p, List.mem_of_getElem? (i := j) (by rw [List.getElem?_take_of_lt hj]; exact h), rfl⟩
theorem prE_name {seen : List (List UInt8)} {p : Pr} (h : nameB p.name = false) : prE seen p = 5 := by unfold prE; rw [if_pos h]
theorem prE_seen {seen : List (List UInt8)} {p : Pr} (h : nameB p.name = true) (hs : p.name ∈ seen) : prE seen p = 7 := by unfold prE; rw [if_neg (by rw [h]; decide), if_pos hs]
theorem prE_range {seen : List (List UInt8)} {p : Pr} (h : nameB p.name = true) (hs : p.name ∉ seen) (ho : ¬ p.ok) : prE seen p = 4 := by unfold prE; rw [if_neg (by rw [h]; decide), if_neg hs, if_neg ho]
theorem prE_ok {seen : List (List UInt8)} {p : Pr} (h : nameB p.name = true) (hs : p.name ∉ seen) (ho : p.ok) : prE seen p = 0 := prE_zero.2 ⟨h, hs, ho⟩
theorem chk_short {l : List Pr} (h : l.length = 0) : chkL l = 1 := by unfold chkL; rw [if_pos h]
theorem chk_long {l : List Pr} (h : 6 < l.length) : chkL l = 3 := by unfold chkL; rw [if_neg (by omega), if_pos h]
/-- The first k products have no error. -/
def Upto (l : List Pr) (k : Nat) : Prop := prsE [] l = prsE (names l k) (l.drop k)
theorem Upto.start (l : List Pr) : Upto l 0 := rfl
theorem Upto.step {l : List Pr} {k : Nat} {p : Pr} (h : Upto l k) (hp : l[k]? = some p) (h0 : prE (names l k) p = 0) : Upto l (k + 1) := h.trans (prsE_step hp h0)
theorem Upto.stop {l : List Pr} {k : Nat} {p : Pr} (h : Upto l k) (h1 : l.length ≠ 0) (h6 : l.length ≤ 6) (hp : l[k]? = some p) (h0 : prE (names l k) p ≠ 0) : chkL l = prE (names l k) p := by
  have e := h.trans (prsE_stop hp h0)
  unfold chkL
  rw [if_neg h1, if_neg (by omega), if_neg (by rw [e]; exact h0), e]
theorem Upto.zero {l : List Pr} (h : Upto l l.length) : prsE [] l = 0 := h.trans (prsE_end (Nat.le_refl _))
theorem Upto.fin {l : List Pr} (h : Upto l l.length) (h1 : l.length ≠ 0) (h6 : l.length ≤ 6) : chkL l = if 1024 < many l then 12 else 0 := by
  unfold chkL
  rw [if_neg h1, if_neg (by omega), if_pos h.zero]
theorem Upto.each {l : List Pr} (h : Upto l l.length) (k : Nat) (p : Pr) (hp : l[k]? = some p) : p.ok := by
  exact (prE_zero.1 (prsE_zero h.zero k p hp)).2.2
theorem many_pos : ∀ l : List Pr, 1 ≤ many l
  | [] => Nat.le_refl _
  | p :: r => by
    rw [many]
    exact Nat.mul_pos (by omega) (many_pos r)
theorem many_le : ∀ (l : List Pr), (∀ p ∈ l, p.supply ≤ 4) → many l ≤ 5 ^ l.length
  | [], _ => Nat.le_refl _
  | p :: r, h => by
    rw [many, List.length_cons, Nat.pow_succ, Nat.mul_comm]
    exact Nat.mul_le_mul (many_le r fun q hq => h q (by simp [hq])) (by have := h p (by simp); omega)
theorem take_snoc {l : List Pr} {k : Nat} {p : Pr} (h : l[k]? = some p) : l.take (k + 1) = l.take k ++ [p] := by rw [List.take_add_one, h]; rfl
theorem many_step {l : List Pr} {k : Nat} {p : Pr} (h : l[k]? = some p) (h1 : 1 ≤ p.supply) : (many (l.take (k + 1)) : Int) = (many (l.take k) : Int) * (p.supply + 1) := by
  rw [take_snoc h, many_snoc, Int.natCast_mul, Int.natCast_succ, Int.toNat_of_nonneg (by omega)]
theorem many_small {l : List Pr} (h : ∀ (k : Nat) (p : Pr), l[k]? = some p → p.ok) (h6 : l.length ≤ 6) (k : Nat) : many (l.take k) ≤ 15625 := by
  refine Nat.le_trans (many_le _ fun p hp => ?_) ?_
  · obtain ⟨j, hj, e⟩ := List.mem_iff_getElem.1 (List.mem_of_mem_take hp)
    exact (h j p (by rw [List.getElem?_eq_getElem hj, e])).1.2
  · exact Nat.le_trans (Nat.pow_le_pow_right (by decide) (show (l.take k).length ≤ 6 by rw [List.length_take]; omega)) (by decide)
theorem supB_okB {l : List Pr} (h : ∀ (k : Nat) (p : Pr), l[k]? = some p → p.ok) : MB.okB (supB l) = true := by
  unfold MB.okB
  rw [List.all_eq_true]
  intro q hq
  obtain ⟨k, hk, rfl⟩ := List.getElem_of_mem hq
  rw [supB_length] at hk
  have e : (supB l)[k] = MB.at_ (supB l) k := by unfold MB.at_; rw [List.getD_eq_getElem?_getD, List.getElem?_eq_getElem (by rw [supB_length]; exact hk)]; rfl
  rw [e]
  by_cases hl : k < l.length
  · have hp : l[k]? = some l[k] := List.getElem?_eq_getElem hl
    rw [supB_at hk hp]
    have := (h k _ hp).1
    simp; omega
  · rw [supB_rest (by omega)]; rfl
theorem pad_put {l : List Int} {v : Int} (h : l.length < 6) : (MB.pad l).set l.length v = MB.pad (l ++ [v]) := by
  unfold MB.pad
  rw [List.set_append_right _ _ (Nat.le_refl _), Nat.sub_self, List.length_append, List.append_assoc]
  congr 1
  have : 6 - l.length = (6 - (l.length + 1)) + 1 := by omega
  rw [this, List.replicate_succ]
  rfl
/-- The supply of the first k of six. -/
def supU (l : List Pr) (k : Nat) : List Int := MB.pad ((l.take k).map (·.supply))
theorem supU_step {l : List Pr} {k : Nat} {p : Pr} (h : l[k]? = some p) (h6 : k < 6) : (supU l k).set k p.supply = supU l (k + 1) := by
  have hl := (List.getElem?_eq_some_iff.1 h).1
  have hlen : ((l.take k).map (·.supply)).length = k := by rw [List.length_map, List.length_take]; omega
  unfold supU
  rw [take_snoc h, List.map_append]
  have := pad_put (l := (l.take k).map (·.supply)) (v := p.supply) (by rw [hlen]; exact h6)
  rw [hlen] at this
  exact this
theorem supU_end {l : List Pr} {k : Nat} (h : k = l.length ∨ k = 6) (hk : k ≤ 6) (hl : k ≤ l.length) : supU l k = supB l := by
  unfold supU supB
  rcases h with rfl | rfl
  · rw [List.take_of_length_le (Nat.le_refl _), List.take_of_length_le (by omega)]
  · rfl
/-! Sums. -/
/-! An element without what follows it. -/
def elE3 (l : List Pr) (b : List Int) (ts : List Tk) : Int :=
  match ts[0]? with
  | none => 1
  | some t => if t.kind ≠ 1 then 2 else
    match findL l t.text with
    | none => 6
    | some k => if MB.at_ b k ≠ 0 then 7 else if isO 58 ts[1]? = false then wrongE ts[1]? else
      match ts[2]? with
      | none => 1
      | some v => if v.kind ≠ 2 then 2 else if v.value < 1 ∨ 4 < v.value then 4 else 0
theorem elE_tail (l : List Pr) (b : List Int) (ts : List Tk) : elE l b ts = if elE3 l b ts = 0 then (if isO 125 ts[3]? = true then 0 else if isO 44 ts[3]? = true then 0 else wrongE ts[3]?) else elE3 l b ts := by
  unfold elE elE3
  cases h0 : ts[0]? with
  | none => rfl
  | some t =>
    simp only
    by_cases h1 : t.kind ≠ 1
    · rw [if_pos h1, if_pos h1]; rfl
    · rw [if_neg h1, if_neg h1]
      cases hf : findL l t.text with
      | none => rfl
      | some k =>
        simp only
        by_cases h2 : MB.at_ b k ≠ 0
        · rw [if_pos h2, if_pos h2]; rfl
        · rw [if_neg h2, if_neg h2]
          by_cases h3 : isO 58 ts[1]? = false
          · rw [if_pos h3, if_pos h3, if_neg]
            cases ts[1]? <;> simp [wrongE]
          · rw [if_neg h3, if_neg h3]
            cases hv : ts[2]? with
            | none => rfl
            | some v =>
              simp only
              by_cases h4 : v.kind ≠ 2
              · rw [if_pos h4, if_pos h4]; rfl
              · rw [if_neg h4, if_neg h4]
                by_cases h5 : v.value < 1 ∨ 4 < v.value
                · rw [if_pos h5, if_pos h5]; rfl
                · rw [if_neg h5, if_neg h5]; rfl
/-! The text, by elements. -/
/-- The elements of the first k products. -/
def elsK (l : List Pr) (b : List Int) (k : Nat) : List (List UInt8) := (upK b k).map (entT l b)
theorem elsK_skip {l : List Pr} {b : List Int} {k : Nat} (h : ¬ 0 < MB.at_ b k) : elsK l b (k + 1) = elsK l b k := by unfold elsK; rw [upK, if_neg h]
theorem elsK_more {l : List Pr} {b : List Int} {k : Nat} (h : 0 < MB.at_ b k) : elsK l b (k + 1) = elsK l b k ++ [entT l b k] := by unfold elsK; rw [upK, if_pos h, List.map_append]; rfl
theorem join_cons2 (x y : List UInt8) (r : List (List UInt8)) (sep : List UInt8) : Lib.join (x :: y :: r) sep = x ++ sep ++ Lib.join (y :: r) sep := by
  simp [Lib.join_cons, Lib.joinTail]
theorem join_joinT (f : Nat → List UInt8) : ∀ r : List Nat, Lib.join (r.map f) [44] = joinT f r
  | [] => rfl
  | [k] => by simp [Lib.join_one, joinT]
  | k :: j :: r => by
    rw [List.map_cons, List.map_cons, join_cons2, ← List.map_cons, join_joinT f (j :: r), joinT]
    simp
theorem join_els (l : List Pr) (b : List Int) (k : Nat) : Lib.join (elsK l b k) [44] = inK l b k := join_joinT _ _
/-- What Format answers. -/
noncomputable instance (l : List Pr) (b : List Int) : Decidable (Fits l b) := Classical.propDecidable _
noncomputable def fmtL (l : List Pr) (b : List Int) : List UInt8 := if Fits l b then textL l b else []
end Go.Proofs.YtcokplikmjegcaaGreatDoor.MC
namespace Go.Proofs.YtcokplikmjegcaaGreatDoor.ME
open Go.RowKit
/-- Expressions in order, each with its arguments. -/
inductive F where
  | nil
  | cons (o : Int) (b : List Int) (v : Int) (k r : F)
deriving DecidableEq
/-- A node, with its arguments. -/
structure Nd where
  o : Int
  b : List Int
  v : Int
  k : F
namespace F
def len : F → Nat
  | nil => 0
  | cons _ _ _ _ r => r.len + 1
def size : F → Nat
  | nil => 0
  | cons _ _ _ k r => 1 + k.size + r.size
def depth : F → Nat
  | nil => 0
  | cons _ _ _ k r => max (k.depth + 1) r.depth
def pre : F → List Nd
  | nil => []
  | cons o b v k r => ⟨o, b, v, k⟩ :: (k.pre ++ r.pre)
def app : F → F → F
  | nil, g => g
  | cons o b v k r, g => cons o b v k (r.app g)
def take : Nat → F → F
  | 0, _ => nil
  | _ + 1, nil => nil
  | n + 1, cons o b v k r => cons o b v k (r.take n)
def map (g : Nd → Nd) : F → F
  | nil => nil
  | cons o b v k r => cons (g ⟨o, b, v, k.map g⟩).o (g ⟨o, b, v, k.map g⟩).b (g ⟨o, b, v, k.map g⟩).v (g ⟨o, b, v, k.map g⟩).k (r.map g)
def roots : F → List Nd
  | nil => []
  | cons o b v k r => ⟨o, b, v, k⟩ :: r.roots
theorem pre_length : ∀ f : F, f.pre.length = f.size
  | nil => rfl
  | cons _ _ _ k r => by simp [pre, size, pre_length k, pre_length r]; omega
theorem len_size : ∀ f : F, f.len ≤ f.size
  | nil => Nat.le_refl _
  | cons _ _ _ _ r => by have := len_size r; simp only [len, size]; omega
theorem depth_size : ∀ f : F, f.depth ≤ f.size
  | nil => Nat.le_refl _
  | cons _ _ _ k r => by have := depth_size r; have := depth_size k; simp only [depth, size]; omega
theorem map_id : ∀ f : F, f.map (fun n => n) = f
  | nil => rfl
  | cons _ _ _ k r => by simp only [map, map_id k, map_id r]
end F
namespace Nd
def f (n : Nd) : F := .cons n.o n.b n.v n.k .nil
def size (n : Nd) : Nat := n.k.size + 1
def depth (n : Nd) : Nat := n.k.depth + 1
def pre (n : Nd) : List Nd := n :: n.k.pre
def map (g : Nd → Nd) (n : Nd) : Nd := g ⟨n.o, n.b, n.v, n.k.map g⟩
theorem pre_length (n : Nd) : n.pre.length = n.size := by simp [pre, size, F.pre_length]
theorem map_id (n : Nd) : n.map (fun n => n) = n := by unfold map; rw [F.map_id]
theorem depth_size (n : Nd) : n.depth ≤ n.size := by have := n.k.depth_size; unfold depth size; omega
end Nd
/-- Two expressions, compared. -/
def eqN (x y : Nd) : Bool := decide (x.f = y.f)
theorem eqN_self (x : Nd) : eqN x x = true := decide_eq_true rfl
/-- The greatest quantities. -/
def zero6 : List Int := [0, 0, 0, 0, 0, 0]
def prodL (l : List Nd) (z : List Int) : List Int := l.foldl (fun acc n => joinB acc n.b) z
/-- The errors of a node. -/
def formB (n : Nd) : Bool :=
  if n.o = 1 then decide (n.k.len = 0)
  else if n.o = 2 ∨ n.o = 3 then decide (1 ≤ n.k.len) && decide (n.k.len ≤ 8) && decide (n.b = zero6) && decide (n.v = 0)
  else if n.o = 4 then decide (n.k.len = 1)
  else if n.o = 5 then decide (n.k.len = 1) && decide (n.b = zero6)
  else false
def rangeB (n : Nd) : Bool :=
  if n.o = 2 ∨ n.o = 3 then true
  else if n.v < 1 ∨ 1000000 < n.v then false
  else decide (n.o = 5) || (decide (chk n.b = 0) && decide (1 ≤ totB n.b 6))
def nodeE (n : Nd) : Int := if formB n = false then 2 else if rangeB n = false then 4 else 0
def firstN : List Nd → Int
  | [] => 0
  | n :: r => if nodeE n ≠ 0 then nodeE n else firstN r
def wideB (l : List Nd) : Bool := l.all fun n => decide (n.k.len ≤ 8)
def checkE (n : Nd) : Int :=
  if 6 < n.depth then 9 else if 40 < n.size then 3 else if wideB n.pre = false then 3 else firstN n.pre
theorem firstN_zero : ∀ {l : List Nd}, firstN l = 0 ↔ ∀ n ∈ l, nodeE n = 0
  | [] => by simp [firstN]
  | n :: r => by
    rw [firstN]
    by_cases h : nodeE n = 0
    · rw [if_neg (fun g => g h), firstN_zero]
      simp [h]
    · rw [if_pos h]
      simp [h]
theorem checkE_zero {n : Nd} : checkE n = 0 ↔ n.depth ≤ 6 ∧ n.size ≤ 40 ∧ wideB n.pre = true ∧ ∀ x ∈ n.pre, nodeE x = 0 := by
  unfold checkE
  by_cases h1 : 6 < n.depth
  · rw [if_pos h1]; simp; omega
  · rw [if_neg h1]
    by_cases h2 : 40 < n.size
    · rw [if_pos h2]; simp; omega
    · rw [if_neg h2]
      by_cases h3 : wideB n.pre = false
      · rw [if_pos h3]; simp [h3]
      · rw [if_neg h3, firstN_zero]
        have : wideB n.pre = true := by simpa using h3
        exact ⟨fun h => ⟨by omega, by omega, this, h⟩, fun h => h.2.2.2⟩
end Go.Proofs.YtcokplikmjegcaaGreatDoor.ME
namespace Go.Proofs.YtcokplikmjegcaaGreatDoor.MU
/-- A number in decimal. -/
def dec (n : Nat) : List UInt8 := if n < 10 then [UInt8.ofNat (48 + n)] else dec (n / 10) ++ [UInt8.ofNat (48 + n % 10)]
decreasing_by omega
theorem dec_small {n : Nat} (h : n < 10) : dec n = [UInt8.ofNat (48 + n)] := by rw [dec, if_pos h]
theorem dec_big {n : Nat} (h : ¬ n < 10) : dec n = dec (n / 10) ++ [UInt8.ofNat (48 + n % 10)] := by rw [dec, if_neg h]
def num (z : Int) : List UInt8 := if z < 0 then 45 :: dec (-z).toNat else dec z.toNat
theorem num_pos {z : Int} (h : 0 ≤ z) : num z = dec z.toNat := if_neg (by omega)
theorem dec_len {m : Nat} : ∀ {n : Nat}, n < 10 ^ (m + 1) → (dec n).length ≤ m + 1 := by
  induction m with
  | zero => intro n h; rw [dec_small (by simpa using h)]; simp
  | succ m ih =>
    intro n h
    by_cases h10 : n < 10
    · rw [dec_small h10]; simp
    · rw [dec_big h10, List.length_append]
      have := ih (n := n / 10) (by rw [Nat.pow_succ] at h; omega)
      simp; omega
end Go.Proofs.YtcokplikmjegcaaGreatDoor.MU
