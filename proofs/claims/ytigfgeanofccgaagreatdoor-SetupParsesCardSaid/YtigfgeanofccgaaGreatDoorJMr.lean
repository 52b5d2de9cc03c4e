/- MathR, MathR2, joined: no claim of its own. -/
import Derived.Test.YtigfgeanofccgaaGreatDoorMathL
namespace Go.Proofs.YtigfgeanofccgaaGreatDoor.MR
/-- A bidder. -/
structure Bd where
  name : List UInt8
  cls : Int
  budget : Int
  points : Int
def Bd.ok (p : Bd) : Prop := (0 ≤ p.cls ∧ p.cls ≤ 4) ∧ (0 ≤ p.budget ∧ p.budget ≤ 1000000) ∧ (0 ≤ p.points ∧ p.points ≤ 24000)
instance (p : Bd) : Decidable p.ok := by unfold Bd.ok; infer_instance
/-- The first bidder with a name. -/
def findL : List Bd → List UInt8 → Option Nat
  | [], _ => none
  | p :: r, n => if p.name = n then some 0 else (findL r n).map (· + 1)
theorem find_lt : ∀ {l : List Bd} {n : List UInt8} {k : Nat}, findL l n = some k → k < l.length
  | [], _, _, h => by cases h
  | p :: r, n, k, h => by
    simp only [findL] at h
    by_cases e : p.name = n
    · rw [if_pos e] at h; injection h with h; subst h; simp
    · rw [if_neg e] at h
      cases hf : findL r n with
      | none => rw [hf] at h; cases h
      | some j =>
        rw [hf] at h
        injection h with h
        subst h
        have := find_lt hf
        simp only [List.length_cons]; omega
/-- The k-th bidder is the first with this name, none before it has it. -/
theorem find_eq : ∀ {l : List Bd} {k : Nat} {p : Bd}, l[k]? = some p → (∀ (j : Nat) (q : Bd), j < k → l[j]? = some q → q.name ≠ p.name) → findL l p.name = some k
  | [], _, _, h, _ => by simp at h
  | q :: r, 0, p, h, _ => by
    obtain rfl : q = p := by simpa using h
    simp [findL]
  | q :: r, k + 1, p, h, hd => by
    have h1 : q.name ≠ p.name := hd 0 q (Nat.succ_pos _) rfl
    rw [findL, if_neg h1, find_eq (l := r) (k := k) (by simpa using h) fun j s hj hs => hd (j + 1) s (by omega) (by simpa using hs)]
    rfl
theorem find_none : ∀ {l : List Bd} {n : List UInt8}, (∀ p ∈ l, p.name ≠ n) → findL l n = none
  | [], _, _ => rfl
  | p :: r, n, h => by rw [findL, if_neg (h p (by simp)), find_none fun q hq => h q (by simp [hq])]; rfl
theorem find_some : ∀ {l : List Bd} {n : List UInt8} {k : Nat}, findL l n = some k → ∃ p, l[k]? = some p ∧ p.name = n ∧ ∀ (j : Nat) (q : Bd), j < k → l[j]? = some q → q.name ≠ n
  | [], _, _, h => by cases h
  | p :: r, n, k, h => by
    simp only [findL] at h
    by_cases e : p.name = n
    · rw [if_pos e] at h; injection h with h; subst h
      exact ⟨p, rfl, e, fun j q hj => by omega⟩
    · rw [if_neg e] at h
      cases hf : findL r n with
      | none => rw [hf] at h; cases h
      | some j =>
        rw [hf] at h
        injection h with h
        subst h
        obtain ⟨q, h1, h2, h3⟩ := find_some hf
        refine ⟨q, by simpa using h1, h2, fun i s hi hs => ?_⟩
        have hi : i < j + 1 := hi
        cases i with
        | zero => obtain rfl : p = s := by simpa using hs
                  exact e
        | succ i => exact h3 i s (by omega) (by simpa using hs)
/-- Nothing found among the first k: on to the next. -/
theorem find_take {l : List Bd} {k : Nat} {n : List UInt8} {p : Bd} (hp : l[k]? = some p) (h : findL (l.take k) n = none) : findL (l.take (k + 1)) n = if p.name = n then some k else none := by
  have hk := (List.getElem?_eq_some_iff.1 hp).1
  rw [List.take_add_one, hp]
  have : ∀ (a : List Bd), findL a n = none → findL (a ++ [p]) n = if p.name = n then some a.length else none := by
    intro a
    induction a with
    | nil => intro _; simp [findL]
    | cons q r ih =>
      intro ha
      simp only [findL] at ha
      by_cases e : q.name = n
      · rw [if_pos e] at ha; cases ha
      · rw [if_neg e] at ha
        have hr : findL r n = none := by cases hh : findL r n with
          | none => rfl
          | some j => rw [hh] at ha; cases ha
        rw [List.cons_append, findL, if_neg e, ih hr]
        by_cases e2 : p.name = n
        · rw [if_pos e2, if_pos e2]; rfl
        · rw [if_neg e2, if_neg e2]; rfl
  have h2 := this (l.take k) h
  rw [List.length_take, Nat.min_eq_left (by omega)] at h2
  exact h2
/-- Found among the first k: found. -/
theorem find_mono {l : List Bd} {k i : Nat} {n : List UInt8} (h : findL (l.take k) n = some i) : findL l n = some i := by
  have : ∀ (a b : List Bd) (i : Nat), findL a n = some i → findL (a ++ b) n = some i := by
    intro a b
    induction a with
    | nil => intro i h; cases h
    | cons q r ih =>
      intro i h
      simp only [findL, List.cons_append] at h ⊢
      by_cases e : q.name = n
      · rw [if_pos e] at h ⊢; exact h
      · rw [if_neg e] at h ⊢
        cases hh : findL r n with
        | none => rw [hh] at h; cases h
        | some j => rw [hh] at h; rw [ih j hh]; exact h
  have h2 := this (l.take k) (l.drop k) i h
  rwa [List.take_append_drop] at h2
/-- The error of one bidder, the names before it being seen. -/
def bdE (seen : List (List UInt8)) (p : Bd) : Int := if nameB p.name = false then 5 else if p.name ∈ seen then 7 else if p.ok then 0 else 4
def bdsE : List (List UInt8) → List Bd → Int
  | _, [] => 0
  | seen, p :: r => if bdE seen p = 0 then bdsE (seen ++ [p.name]) r else bdE seen p
theorem bdsE_cons (seen : List (List UInt8)) (p : Bd) (r : List Bd) : bdsE seen (p :: r) = if bdE seen p = 0 then bdsE (seen ++ [p.name]) r else bdE seen p := rfl
/-- The names of the first k. -/
def names (l : List Bd) (k : Nat) : List (List UInt8) := (l.take k).map (·.name)
theorem names_snoc {l : List Bd} {k : Nat} {p : Bd} (h : l[k]? = some p) : names l (k + 1) = names l k ++ [p.name] := by
  unfold names
  rw [List.take_add_one, h, List.map_append]; rfl
theorem names_seen {l : List Bd} {k : Nat} {m : List UInt8} : m ∈ names l k ↔ ∃ (j : Nat) (q : Bd), j < k ∧ l[j]? = some q ∧ q.name = m := by
  unfold names
  constructor
  · intro h
    obtain ⟨q, hq, e⟩ := List.mem_map.1 h
    obtain ⟨j, hj⟩ := List.mem_iff_getElem?.1 hq
    have hjk : j < k := by
      have := (List.getElem?_eq_some_iff.1 hj).1
      rw [List.length_take] at this; omega
    rw [List.getElem?_take_of_lt hjk] at hj
    exact ⟨j, q, hjk, hj, e⟩
  · rintro ⟨j, q, hjk, hj, e⟩
    exact List.mem_map.2 ⟨q, List.mem_of_getElem? (i := j) (by rw [List.getElem?_take_of_lt hjk]; exact hj), e⟩
/-- Of a bidder whose name was seen another is the first. -/
theorem find_seen {l : List Bd} {k : Nat} {p : Bd} (hp : l[k]? = some p) : findL l p.name ≠ some k ↔ p.name ∈ names l k := by
  constructor
  · intro h
    refine Classical.byContradiction fun hn => h (find_eq hp fun j q hj hq e => hn (names_seen.2 ⟨j, q, hj, hq, e⟩))
  · intro h hf
    obtain ⟨j, q, hj, hq, e⟩ := names_seen.1 h
    obtain ⟨_, _, _, h3⟩ := find_some hf
    exact h3 j q hj hq e
theorem find_any (l : List Bd) {k : Nat} {p : Bd} (hp : l[k]? = some p) : ∃ j, findL l p.name = some j := by
  cases h : findL l p.name with
  | some j => exact ⟨j, rfl⟩
  | none =>
    exfalso
    have : ∀ (a : List Bd) (n : List UInt8), findL a n = none → ∀ q ∈ a, q.name ≠ n := by
      intro a n
      induction a with
      | nil => intro _ q hq; cases hq
      | cons x r ih =>
        intro ha q hq
        simp only [findL] at ha
        by_cases e : x.name = n
        · rw [if_pos e] at ha; cases ha
        · rw [if_neg e] at ha
          have hr : findL r n = none := by cases hh : findL r n with
            | none => rfl
            | some j => rw [hh] at ha; cases ha
          rcases List.mem_cons.1 hq with rfl | hq
          · exact e
          · exact ih hr q hq
    exact this l p.name h p (List.mem_of_getElem? hp) rfl
theorem bdsE_step {l : List Bd} {k : Nat} {p : Bd} (h : l[k]? = some p) (h0 : bdE (names l k) p = 0) : bdsE (names l k) (l.drop k) = bdsE (names l (k + 1)) (l.drop (k + 1)) := by
  obtain ⟨hk, rfl⟩ := List.getElem?_eq_some_iff.1 h
  rw [List.drop_eq_getElem_cons hk, bdsE_cons, if_pos h0, names_snoc h]
theorem bdsE_stop {l : List Bd} {k : Nat} {p : Bd} (h : l[k]? = some p) (h0 : bdE (names l k) p ≠ 0) : bdsE (names l k) (l.drop k) = bdE (names l k) p := by
  obtain ⟨hk, rfl⟩ := List.getElem?_eq_some_iff.1 h
  rw [List.drop_eq_getElem_cons hk, bdsE_cons, if_neg h0]
theorem bdsE_end {l : List Bd} {k : Nat} (h : l.length ≤ k) : bdsE (names l k) (l.drop k) = 0 := by rw [List.drop_of_length_le h]; rfl
theorem bdE_zero {seen : List (List UInt8)} {p : Bd} : bdE seen p = 0 ↔ nameB p.name = true ∧ p.name ∉ seen ∧ p.ok := by
  unfold bdE
  by_cases h1 : nameB p.name = false
  · rw [if_pos h1]; simp [h1]
  · rw [if_neg h1]
    by_cases h2 : p.name ∈ seen
    · rw [if_pos h2]; simp [h2]
    · rw [if_neg h2]
      by_cases h3 : p.ok
      · rw [if_pos h3]; simp [h2, h3]; simpa using h1
      · rw [if_neg h3]; simp [h3]
theorem bdsE_zero : ∀ {l : List Bd} {seen : List (List UInt8)}, bdsE seen l = 0 → ∀ (k : Nat) (p : Bd), l[k]? = some p → bdE (seen ++ names l k) p = 0
  | [], _, _, _, _, h => by simp at h
  | q :: r, seen, h0, k, p, h => by
    rw [bdsE_cons] at h0
    by_cases e : bdE seen q = 0
    · rw [if_pos e] at h0
      cases k with
      | zero =>
        obtain rfl : q = p := by simpa using h
        simpa [names] using e
      | succ k =>
        have := bdsE_zero h0 k p (by simpa using h)
        simpa [names, List.append_assoc] using this
    · rw [if_neg e] at h0; exact absurd h0 e
/-- The error of a list. -/
def chkL (l : List Bd) : Int := if l.length = 0 then 1 else if 8 < l.length then 3 else bdsE [] l
/-- A valid list. -/
structure Good (l : List Bd) : Prop where
  some_ : l.length ≠ 0
  few : l.length ≤ 8
  each : ∀ (k : Nat) (p : Bd), l[k]? = some p → nameB p.name = true ∧ p.ok
  apart : ∀ (i j : Nat) (p q : Bd), i < j → l[i]? = some p → l[j]? = some q → p.name ≠ q.name
theorem chk_good {l : List Bd} (h : chkL l = 0) : Good l := by
  unfold chkL at h
  by_cases h1 : l.length = 0
  · rw [if_pos h1] at h; cases h
  · rw [if_neg h1] at h
    by_cases h2 : 8 < l.length
    · rw [if_pos h2] at h; cases h
    · rw [if_neg h2] at h
      refine ⟨h1, by omega, fun k p hp => ?_, fun i j p q hij hp hq e => ?_⟩
      · have := bdE_zero.1 (bdsE_zero h k p hp)
        exact ⟨this.1, this.2.2⟩
      · have := (bdE_zero.1 (bdsE_zero h j q hq)).2.1
        refine this ?_
        rw [← e, List.nil_append]
        exact names_seen.2 ⟨i, p, hij, hp, rfl⟩
theorem Good.find {l : List Bd} (h : Good l) {k : Nat} {p : Bd} (hp : l[k]? = some p) : findL l p.name = some k :=
  find_eq hp fun j q hj hq => h.apart j k q p hj hq hp
/-- The indices, among the first k, of a class. -/
def classK (l : List Bd) (c : Int) : Nat → List Int
  | 0 => []
  | k + 1 => if (l[k]?.map (·.cls)) = some c then classK l c k ++ [(k : Int)] else classK l c k
theorem class_yes {l : List Bd} {c : Int} {k : Nat} {p : Bd} (hp : l[k]? = some p) (h : p.cls = c) : classK l c (k + 1) = classK l c k ++ [(k : Int)] := by
  rw [classK, hp, if_pos (by rw [Option.map_some, h])]
theorem class_no {l : List Bd} {c : Int} {k : Nat} {p : Bd} (hp : l[k]? = some p) (h : p.cls ≠ c) : classK l c (k + 1) = classK l c k := by
  rw [classK, hp, if_neg (by rw [Option.map_some]; intro e; injection e with e; exact h e)]
theorem class_len (l : List Bd) (c : Int) : ∀ k, (classK l c k).length ≤ k
  | 0 => Nat.le_refl _
  | k + 1 => by
    rw [classK]
    have := class_len l c k
    split
    · rw [List.length_append]; simp; exact this
    · omega
/-- Bit i of a number. -/
def shr (m : Int) (i : Nat) : Int := m / (2 ^ i : Nat)
def has (m : Int) (i : Nat) : Bool := decide (shr m i % 2 = 1)
theorem shr_zero (m : Int) : shr m 0 = m := by unfold shr; simp
theorem shr_succ (m : Int) (i : Nat) : shr m (i + 1) = shr m i / 2 := by
  unfold shr
  rw [Nat.pow_succ, Int.natCast_mul, ← Int.ediv_ediv_of_nonneg (Int.natCast_nonneg _)]
  rfl
theorem shr_nat (m i : Nat) : shr (m : Int) i = ((m / 2 ^ i : Nat) : Int) := by unfold shr; rw [← Int.natCast_ediv]
theorem has_nat (m i : Nat) : has (m : Int) i = decide (m / 2 ^ i % 2 = 1) := by
  unfold has
  rw [shr_nat]
  congr 1
  apply propext
  omega
/-- A number's range after shifting. -/
theorem shr_range {m : Int} (h : -9223372036854775808 ≤ m ∧ m ≤ 9223372036854775807) : ∀ i, -9223372036854775808 ≤ shr m i ∧ shr m i ≤ 9223372036854775807
  | 0 => by rw [shr_zero]; exact h
  | i + 1 => by rw [shr_succ]; have := shr_range h i; omega
/-- The names, among the first k, of the members. -/
def namesK (l : List Bd) (m : Int) : Nat → List (List UInt8)
  | 0 => []
  | k + 1 => if has m k then namesK l m k ++ (l[k]?.map (·.name)).toList else namesK l m k
theorem namesK_yes {l : List Bd} {m : Int} {k : Nat} {p : Bd} (hp : l[k]? = some p) (h : has m k = true) : namesK l m (k + 1) = namesK l m k ++ [p.name] := by
  rw [namesK, if_pos h, hp]; rfl
theorem namesK_no {l : List Bd} {m : Int} {k : Nat} (h : has m k = false) : namesK l m (k + 1) = namesK l m k := by
  rw [namesK, if_neg (by rw [h]; decide)]
theorem namesK_len (l : List Bd) (m : Int) : ∀ k, (namesK l m k).length ≤ k
  | 0 => Nat.le_refl _
  | k + 1 => by
    rw [namesK]
    have := namesK_len l m k
    split
    · rw [List.length_append]
      cases l[k]? <;> simp <;> omega
    · omega
def namesL (l : List Bd) (m : Int) : List (List UInt8) := namesK l m (min l.length 8)
/-- The set of the bidders with these names, and the error. -/
def memR (l : List Bd) : List (List UInt8) → Int → Int × Int
  | [], s => (s, 0)
  | n :: r, s => match findL l n with
    | none => (0, 6)
    | some k => if has s k then (0, 7) else memR l r (s + (2 ^ k : Nat))
def membersL (l : List Bd) (ns : List (List UInt8)) : Int × Int := if 8 < l.length then (0, 3) else memR l ns 0
theorem mem_nil (l : List Bd) (s : Int) : memR l [] s = (s, 0) := rfl
theorem mem_none {l : List Bd} {n : List UInt8} {r : List (List UInt8)} {s : Int} (h : findL l n = none) : memR l (n :: r) s = (0, 6) := by simp only [memR, h]
theorem mem_twice {l : List Bd} {n : List UInt8} {r : List (List UInt8)} {s : Int} {k : Nat} (h : findL l n = some k) (hs : has s k = true) : memR l (n :: r) s = (0, 7) := by simp only [memR, h, hs, if_true]
theorem mem_on {l : List Bd} {n : List UInt8} {r : List (List UInt8)} {s : Int} {k : Nat} (h : findL l n = some k) (hs : has s k = false) : memR l (n :: r) s = memR l r (s + (2 ^ k : Nat)) := by simp only [memR, h, hs]; rfl
theorem mem_append (l : List Bd) : ∀ (a b : List (List UInt8)) (s : Int), memR l (a ++ b) s = if (memR l a s).2 = 0 then memR l b (memR l a s).1 else memR l a s
  | [], b, s => by rw [mem_nil, if_pos rfl]; rfl
  | n :: r, b, s => by
    rw [List.cons_append]
    cases h : findL l n with
    | none => rw [mem_none h, mem_none h]; rfl
    | some k =>
      cases hs : has s k with
      | true => rw [mem_twice h hs, mem_twice h hs]; rfl
      | false => rw [mem_on h hs, mem_on h hs]; exact mem_append l r b _
/-- A set of the first eight stays one. -/
theorem has_add {s : Int} {k : Nat} (h0 : 0 ≤ s ∧ s ≤ 255) (hk : k < 8) (h : has s k = false) : 0 ≤ s + (2 ^ k : Nat) ∧ s + (2 ^ k : Nat) ≤ 255 := by
  have h1 : shr s k % 2 ≠ 1 := by simpa [has] using h
  have e : k = 0 ∨ k = 1 ∨ k = 2 ∨ k = 3 ∨ k = 4 ∨ k = 5 ∨ k = 6 ∨ k = 7 := by omega
  unfold shr at h1
  rcases e with rfl | rfl | rfl | rfl | rfl | rfl | rfl | rfl <;> simp at h1 ⊢ <;> omega
/-- A set's numbers: all of the first n. -/
def setsL (n : Int) : List Int := if 0 ≤ n ∧ n ≤ 8 then (List.range (2 ^ n.toNat)).map Int.ofNat else []
/-- The names of the members give back the set. -/
theorem back_step {l : List Bd} (h : Good l) (m : Nat) : ∀ k, k ≤ l.length → memR l (namesK l m k) 0 = (((m % 2 ^ k : Nat) : Int), 0)
  | 0, _ => by rw [Nat.pow_zero, Nat.mod_one]; rfl
  | k + 1, hk => by
    have ih := back_step h m k (by omega)
    have em : m % 2 ^ (k + 1) = m % 2 ^ k + 2 ^ k * (m / 2 ^ k % 2) := by rw [Nat.pow_succ]; exact Nat.mod_mul
    have hp : l[k]? = some l[k] := List.getElem?_eq_getElem (by omega)
    have hlow : has ((m % 2 ^ k : Nat) : Int) k = false := by
      rw [has_nat, Nat.div_eq_of_lt (Nat.mod_lt _ (Nat.two_pow_pos k))]; rfl
    cases hb : has (m : Int) k with
    | true =>
      rw [namesK_yes hp hb, mem_append, ih, if_pos rfl, mem_on (h.find hp) hlow, mem_nil]
      rw [has_nat] at hb
      have hb := of_decide_eq_true hb
      rw [em, hb, Nat.mul_one, Int.natCast_add]
    | false =>
      rw [namesK_no hb, ih]
      rw [has_nat] at hb
      have hb := of_decide_eq_false hb
      have : m / 2 ^ k % 2 = 0 := by omega
      rw [em, this, Nat.mul_zero, Nat.add_zero]
theorem back {l : List Bd} (h : Good l) {m : Int} (h0 : 0 ≤ m) (h1 : m < (2 ^ l.length : Nat)) : membersL l (namesL l m) = (m, 0) := by
  have hf := h.few
  unfold membersL namesL
  rw [if_neg (by omega), Nat.min_eq_left hf]
  obtain ⟨M, rfl⟩ := Int.eq_ofNat_of_zero_le h0
  have hM : M < 2 ^ l.length := by exact_mod_cast h1
  have := back_step h M l.length (Nat.le_refl _)
  rw [Nat.mod_eq_of_lt hM] at this
  exact this
end Go.Proofs.YtigfgeanofccgaaGreatDoor.MR
namespace Go.Proofs.YtigfgeanofccgaaGreatDoor.MR
theorem bdE_name {seen : List (List UInt8)} {p : Bd} (h : nameB p.name = false) : bdE seen p = 5 := if_pos h
theorem bdE_seen {seen : List (List UInt8)} {p : Bd} (h : nameB p.name = true) (h2 : p.name ∈ seen) : bdE seen p = 7 := by
  unfold bdE; rw [if_neg (by rw [h]; decide), if_pos h2]
theorem bdE_ok {seen : List (List UInt8)} {p : Bd} (h : nameB p.name = true) (h2 : p.name ∉ seen) (h3 : p.ok) : bdE seen p = 0 := by
  unfold bdE; rw [if_neg (by rw [h]; decide), if_neg h2, if_pos h3]
theorem bdE_range {seen : List (List UInt8)} {p : Bd} (h : nameB p.name = true) (h2 : p.name ∉ seen) (h3 : ¬ p.ok) : bdE seen p = 4 := by
  unfold bdE; rw [if_neg (by rw [h]; decide), if_neg h2, if_neg h3]
theorem none_all : ∀ {a : List Bd} {n : List UInt8}, findL a n = none → ∀ q ∈ a, q.name ≠ n
  | [], _, _, q, hq => by cases hq
  | x :: r, n, ha, q, hq => by
    simp only [findL] at ha
    by_cases e : x.name = n
    · rw [if_pos e] at ha; cases ha
    · rw [if_neg e] at ha
      have hr : findL r n = none := by cases hh : findL r n with
        | none => rfl
        | some j => rw [hh] at ha; cases ha
      rcases List.mem_cons.1 hq with rfl | hq
      · exact e
      · exact none_all hr q hq
theorem find_names {l : List Bd} {k : Nat} {m : List UInt8} : findL (l.take k) m = none ↔ m ∉ names l k := by
  constructor
  · intro h hm
    obtain ⟨q, hq, e⟩ := List.mem_map.1 hm
    exact none_all h q hq e
  · intro h
    exact find_none fun p hp e => h (List.mem_map.2 ⟨p, hp, e⟩)
/-- All up to the k-th are right. -/
def Upto (l : List Bd) (k : Nat) : Prop := bdsE [] l = bdsE (names l k) (l.drop k)
theorem Upto.start (l : List Bd) : Upto l 0 := rfl
theorem Upto.step {l : List Bd} {k : Nat} {p : Bd} (h : Upto l k) (hp : l[k]? = some p) (h0 : bdE (names l k) p = 0) : Upto l (k + 1) := by
  show bdsE [] l = _
  rw [← bdsE_step hp h0]; exact h
theorem Upto.stop {l : List Bd} {k : Nat} {p : Bd} (h : Upto l k) (hp : l[k]? = some p) (h0 : bdE (names l k) p ≠ 0) : bdsE [] l = bdE (names l k) p := by
  rw [← bdsE_stop hp h0]; exact h
theorem Upto.fin {l : List Bd} {k : Nat} (h : Upto l k) (hk : l.length ≤ k) : bdsE [] l = 0 := by
  rw [← bdsE_end hk]; exact h
theorem chk_short {l : List Bd} (h : l.length = 0) : chkL l = 1 := if_pos h
theorem chk_long {l : List Bd} (h : 8 < l.length) : chkL l = 3 := by unfold chkL; rw [if_neg (by omega), if_pos h]
theorem chk_mid {l : List Bd} (h0 : l.length ≠ 0) (h8 : ¬ 8 < l.length) : chkL l = bdsE [] l := by unfold chkL; rw [if_neg h0, if_neg h8]
theorem not_ok {p : Bd} (ho : ¬ p.ok) : p.cls < 0 ∨ (¬ p.cls < 0 ∧ 4 < p.cls) ∨ (¬ p.cls < 0 ∧ ¬ 4 < p.cls ∧ p.budget < 0) ∨ (¬ p.cls < 0 ∧ ¬ 4 < p.cls ∧ ¬ p.budget < 0 ∧ 1000000 < p.budget) ∨
    (¬ p.cls < 0 ∧ ¬ 4 < p.cls ∧ ¬ p.budget < 0 ∧ ¬ 1000000 < p.budget ∧ p.points < 0) ∨ (¬ p.cls < 0 ∧ ¬ 4 < p.cls ∧ ¬ p.budget < 0 ∧ ¬ 1000000 < p.budget ∧ ¬ p.points < 0 ∧ 24000 < p.points) := by
  unfold Bd.ok at ho
  omega
end Go.Proofs.YtigfgeanofccgaaGreatDoor.MR
