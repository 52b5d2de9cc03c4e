/- MathA, MathP, joined: no claim of its own. -/
import Derived.Test.YtbllnkhbahenkaaGreatDoorMaths
import Derived.Lib.ItoaNum
namespace Go.Proofs.YtbllnkhbahenkaaGreatDoor.MA

/-- j comes before i: the greater remainder first, of equal ones the smaller index. -/
def before (r : Nat → Nat) (j i : Nat) : Bool := decide (r i < r j) || (decide (r j = r i) && decide (j < i))

theorem before_iff {r : Nat → Nat} {j i : Nat} : before r j i = true ↔ r i < r j ∨ (r j = r i ∧ j < i) := by
  simp [before]

theorem before_irrefl (r : Nat → Nat) (i : Nat) : before r i i = false := by simp [before]

theorem before_trans {r : Nat → Nat} {a b c : Nat} (h1 : before r a b = true) (h2 : before r b c = true) : before r a c = true := by
  rw [before_iff] at *; omega

theorem before_total {r : Nat → Nat} {a b : Nat} (h : a ≠ b) : before r a b = true ∨ before r b a = true := by
  rw [before_iff, before_iff]; omega

theorem before_asymm {r : Nat → Nat} {a b : Nat} (h1 : before r a b = true) : before r b a = false := by
  rw [Bool.eq_false_iff]; intro h2; rw [before_iff] at *; omega

/-- How many come before i. -/
def rank (r : Nat → Nat) (n i : Nat) : Nat := (List.range n).countP fun j => before r j i

theorem countP_lt {α : Type} {p q : α → Bool} (l : List α) (hpq : ∀ x ∈ l, p x = true → q x = true) (a : α) (ha : a ∈ l) (hp : p a = false) (hq : q a = true) : l.countP p < l.countP q := by
  induction l with
  | nil => cases ha
  | cons x t ih =>
    have hmono : t.countP p ≤ t.countP q := List.countP_mono_left fun y hy => hpq y (List.mem_cons_of_mem _ hy)
    rcases List.mem_cons.1 ha with h | h
    · subst h
      rw [List.countP_cons, List.countP_cons, hp, hq]; simp; omega
    · have := ih (fun y hy => hpq y (List.mem_cons_of_mem _ hy)) h
      have hx := hpq x List.mem_cons_self
      rw [List.countP_cons, List.countP_cons]
      by_cases e : p x = true
      · simp [e, hx e]; exact this
      · simp only [e, if_false, Bool.false_eq_true]; split <;> omega

theorem rank_lt {r : Nat → Nat} {n a b : Nat} (ha : a < n) (h : before r a b = true) : rank r n a < rank r n b :=
  countP_lt _ (fun _ _ hx => before_trans hx h) a (List.mem_range.2 ha) (before_irrefl r a) h

theorem rank_lt_iff {r : Nat → Nat} {n a b : Nat} (ha : a < n) (hb : b < n) : rank r n a < rank r n b ↔ before r a b = true := by
  constructor
  · intro h
    by_cases e : a = b
    · subst e; omega
    · rcases before_total (r := r) e with h1 | h1
      · exact h1
      · have := rank_lt (n := n) hb h1; omega
  · exact rank_lt ha

theorem rank_inj {r : Nat → Nat} {n a b : Nat} (ha : a < n) (hb : b < n) (h : rank r n a = rank r n b) : a = b := by
  by_cases e : a = b
  · exact e
  · rcases before_total (r := r) e with h1 | h1
    · have := rank_lt (n := n) ha h1; omega
    · have := rank_lt (n := n) hb h1; omega

/-- In a list in order, the element at place k has k before it. -/
theorem countP_sorted {α : Type} {lt : α → α → Bool} (hi : ∀ a, lt a a = false) (has : ∀ a b, lt a b = true → lt b a = false) :
    ∀ (l : List α), l.Pairwise (fun a b => lt a b = true) → ∀ (k : Nat) (hk : k < l.length), l.countP (fun j => lt j l[k]) = k := by
  intro l
  induction l with
  | nil => intro _ k hk; cases hk
  | cons x t ih =>
    intro hp k hk
    rw [List.pairwise_cons] at hp
    cases k with
    | zero =>
      rw [List.countP_cons]
      simp only [List.getElem_cons_zero, hi]
      have : t.countP (fun j => lt j x) = 0 := by
        rw [List.countP_eq_zero]; intro j hj
        simp [has x j (hp.1 j hj)]
      simp [this]
    | succ k =>
      have hk' : k < t.length := by simpa using hk
      rw [List.countP_cons]
      simp only [List.getElem_cons_succ]
      rw [ih hp.2 k hk', if_pos (hp.1 t[k] (List.getElem_mem hk'))]

/-- s is an order of the n indices: those that come before stand before. -/
structure Ord (r : Nat → Nat) (n : Nat) (s : List Nat) : Prop where
  perm : s.Perm (List.range n)
  sorted : s.Pairwise fun a b => before r a b = true

variable {r : Nat → Nat} {n : Nat} {s : List Nat}

theorem Ord.len (h : Ord r n s) : s.length = n := by rw [h.perm.length_eq, List.length_range]
theorem Ord.mem (h : Ord r n s) (i : Nat) : i ∈ s ↔ i < n := by rw [h.perm.mem_iff, List.mem_range]
theorem Ord.nodup (h : Ord r n s) : s.Nodup := h.perm.nodup_iff.2 List.nodup_range

theorem Ord.rank_at (h : Ord r n s) (k : Nat) (hk : k < s.length) : rank r n s[k] = k := by
  unfold rank
  rw [← h.perm.countP_eq]
  exact countP_sorted (before_irrefl r) (fun _ _ => before_asymm) s h.sorted k hk

theorem Ord.at_rank (h : Ord r n s) {i : Nat} (hi : i < n) : ∃ hk : rank r n i < s.length, s[rank r n i] = i := by
  obtain ⟨k, hk, e⟩ := List.getElem_of_mem ((h.mem i).2 hi)
  have := h.rank_at k hk
  rw [e] at this
  subst this
  exact ⟨hk, e⟩

theorem Ord.mem_take (h : Ord r n s) {i : Nat} (hi : i < n) (m : Nat) : i ∈ s.take m ↔ rank r n i < m := by
  rw [List.mem_take_iff_getElem]
  constructor
  · rintro ⟨k, hk, e⟩
    have := h.rank_at k (by omega)
    rw [e] at this; omega
  · intro hm
    obtain ⟨hk, e⟩ := h.at_rank hi
    exact ⟨_, by omega, e⟩

/-- The sum of the first k. -/
def S (f : Nat → Nat) : Nat → Nat
  | 0 => 0
  | k + 1 => S f k + f k

theorem S_congr {f g : Nat → Nat} : ∀ (k : Nat), (∀ i, i < k → f i = g i) → S f k = S g k
  | 0, _ => rfl
  | k + 1, h => by simp only [S]; rw [S_congr k fun i hi => h i (by omega), h k (by omega)]
theorem S_add (f g : Nat → Nat) : ∀ k, S (fun i => f i + g i) k = S f k + S g k
  | 0 => rfl
  | k + 1 => by simp only [S]; rw [S_add f g k]; omega
theorem S_mul (c : Nat) (f : Nat → Nat) : ∀ k, S (fun i => c * f i) k = c * S f k
  | 0 => rfl
  | k + 1 => by simp only [S]; rw [S_mul c f k, Nat.mul_add]
theorem S_le {f g : Nat → Nat} : ∀ (k : Nat), (∀ i, i < k → f i ≤ g i) → S f k ≤ S g k
  | 0, _ => Nat.le_refl _
  | k + 1, h => by
    simp only [S]
    have := S_le k fun i hi => h i (by omega)
    have := h k (by omega)
    omega
theorem S_const (c : Nat) : ∀ k, S (fun _ => c) k = k * c
  | 0 => by simp [S]
  | k + 1 => by simp only [S]; rw [S_const c k, Nat.add_mul]; omega
theorem S_ge (f : Nat → Nat) : ∀ (k i : Nat), i < k → f i ≤ S f k
  | 0, _, h => by omega
  | k + 1, i, h => by
    simp only [S]
    by_cases e : i = k
    · subst e; omega
    · have := S_ge f k i (by omega); omega
theorem S_mono (f : Nat → Nat) (a : Nat) : ∀ (b : Nat), a ≤ b → S f a ≤ S f b
  | 0, h => by have : a = 0 := by omega
               subst this; exact Nat.le_refl _
  | b + 1, h => by
    by_cases e : a = b + 1
    · subst e; exact Nat.le_refl _
    · have := S_mono f a b (by omega); simp only [S]; omega
theorem S_count (p : Nat → Bool) : ∀ k, S (fun i => if p i = true then 1 else 0) k = (List.range k).countP p
  | 0 => rfl
  | k + 1 => by
    simp only [S]
    rw [S_count p k, List.range_succ, List.countP_append, List.countP_cons, List.countP_nil]; omega

/-- There is an order. -/
theorem ord_of_mergeSort (r : Nat → Nat) (n : Nat) : Ord r n ((List.range n).mergeSort fun a b => !before r b a) := by
  have hp := List.mergeSort_perm (List.range n) fun a b => !before r b a
  refine ⟨hp, ?_⟩
  have hs := List.pairwise_mergeSort (le := fun a b => !before r b a) (fun a b c h1 h2 => ?_) (fun a b => ?_) (List.range n)
  · have hn : ((List.range n).mergeSort fun a b => !before r b a).Pairwise (· ≠ ·) := hp.nodup_iff.2 List.nodup_range
    refine (List.Pairwise.and hs hn).imp ?_
    rintro a b ⟨h1, h2⟩
    rcases before_total (r := r) h2 with h | h
    · exact h
    · simp [h] at h1
  · simp only [Bool.not_eq_true', Bool.eq_false_iff, ne_eq, before_iff] at *; omega
  · rw [Bool.or_eq_true]
    by_cases e : before r b a = true
    · right; simp [before_asymm e]
    · left; simp [e]

theorem count_rank (r : Nat → Nat) (n m : Nat) (hm : m ≤ n) : (List.range n).countP (fun i => decide (rank r n i < m)) = m := by
  have h := ord_of_mergeSort r n
  generalize ((List.range n).mergeSort fun a b => !before r b a) = s at h
  rw [← h.perm.countP_eq]
  have e : s.map (rank r n) = List.range n := by
    apply List.ext_getElem
    · simp [h.len]
    · intro k h1 h2
      simp only [List.getElem_map, List.getElem_range]
      exact h.rank_at k (by simpa using h1)
  have : s.countP (fun i => decide (rank r n i < m)) = (s.map (rank r n)).countP (fun k => decide (k < m)) := by rw [List.countP_map]; rfl
  rw [this, e, ← S_count]
  have : ∀ k, S (fun i => if decide (i < m) = true then 1 else 0) k = min k m := by
    intro k
    induction k with
    | zero => simp [S]
    | succ k ih => simp only [S]; rw [ih]; simp only [decide_eq_true_eq]; split <;> omega
  rw [this]; omega

/-- A division by largest remainders: the total t, the weights w of sum W > 0. -/
structure Div (t : Nat) (w : Nat → Nat) (n W : Nat) : Prop where
  sum : S w n = W
  pos : 0 < W

def quo (t : Nat) (w : Nat → Nat) (W i : Nat) : Nat := t * w i / W
def rem (t : Nat) (w : Nat → Nat) (W i : Nat) : Nat := t * w i % W
/-- What is missing once the whole parts are given. -/
def miss (t : Nat) (w : Nat → Nat) (n W : Nat) : Nat := t - S (quo t w W) n
/-- Part i. -/
def part (t : Nat) (w : Nat → Nat) (n W i : Nat) : Nat := quo t w W i + if rank (rem t w W) n i < miss t w n W then 1 else 0

variable {t : Nat} {w : Nat → Nat} {W : Nat}

theorem quo_rem (t : Nat) (w : Nat → Nat) (W i : Nat) : W * quo t w W i + rem t w W i = t * w i := Nat.div_add_mod _ _

theorem Div.whole (h : Div t w n W) : W * S (quo t w W) n + S (rem t w W) n = W * t := by
  rw [← S_mul, ← S_add, S_congr n fun i _ => quo_rem t w W i, S_mul, h.sum, Nat.mul_comm]
theorem Div.rem_lt (h : Div t w n W) (i : Nat) : rem t w W i < W := Nat.mod_lt _ h.pos
theorem Div.quo_le (h : Div t w n W) : S (quo t w W) n ≤ t := by
  have := h.whole
  exact Nat.le_of_mul_le_mul_left (by omega : W * S (quo t w W) n ≤ W * t) h.pos
theorem Div.missed (h : Div t w n W) : S (quo t w W) n + miss t w n W = t := by have := h.quo_le; unfold miss; omega
theorem Div.rems (h : Div t w n W) : S (rem t w W) n = W * miss t w n W := by
  have h1 := h.whole
  have h2 := h.missed
  have : W * t = W * S (quo t w W) n + W * miss t w n W := by rw [← Nat.mul_add, h2]
  omega
theorem Div.fewW (h : Div t w n W) : miss t w n W < n := by
  have h1 := h.rems
  have h2 : S (rem t w W) n ≤ n * (W - 1) := by rw [← S_const]; exact S_le n fun i _ => by have := h.rem_lt i; omega
  have hn : 0 < n := by
    rcases Nat.eq_zero_or_pos n with e | e
    · have := h.sum; have := h.pos; subst e; simp only [S] at *; omega
    · exact e
  have h3 : n * (W - 1) < n * W := Nat.mul_lt_mul_of_pos_left (by have := h.pos; omega) hn
  have h4 : W * miss t w n W < W * n := by rw [Nat.mul_comm W n]; omega
  exact Nat.lt_of_mul_lt_mul_left h4

/-- The parts add up to the total. -/
theorem Div.total (h : Div t w n W) : S (part t w n W) n = t := by
  have : S (part t w n W) n = S (quo t w W) n + S (fun i => if decide (rank (rem t w W) n i < miss t w n W) = true then 1 else 0) n := by
    rw [← S_add]; exact S_congr n fun i _ => by simp [part]
  rw [this, S_count, count_rank _ _ _ (Nat.le_of_lt h.fewW)]
  exact h.missed

/-- Who gets one more has a remainder. -/
theorem Div.given (h : Div t w n W) {i : Nat} (hr : rank (rem t w W) n i < miss t w n W) : 0 < rem t w W i := by
  rcases Nat.eq_zero_or_pos (rem t w W i) with e | e
  · exfalso
    have h1 : (List.range n).countP (fun j => decide (0 < rem t w W j)) ≤ rank (rem t w W) n i := by
      refine List.countP_mono_left fun j _ hj => ?_
      rw [before_iff]; simp at hj; omega
    have h2 : S (rem t w W) n ≤ S (fun j => (W - 1) * if decide (0 < rem t w W j) = true then 1 else 0) n := by
      refine S_le n fun j _ => ?_
      have := h.rem_lt j
      by_cases e : 0 < rem t w W j
      · simp [e]; omega
      · simp [e]; omega
    rw [S_mul, S_count, h.rems] at h2
    have hp := h.pos
    generalize hc : (List.range n).countP (fun j => decide (0 < rem t w W j)) = c at h1 h2
    generalize rank (rem t w W) n i = k at *
    have h3 : (W - 1) * c ≤ (W - 1) * (miss t w n W - 1) := Nat.mul_le_mul_left _ (by omega)
    have h4 : (W - 1) * (miss t w n W - 1) ≤ W * (miss t w n W - 1) := Nat.mul_le_mul_right _ (by omega)
    have h5 : W * (miss t w n W - 1) < W * miss t w n W := Nat.mul_lt_mul_of_pos_left (by omega) hp
    omega
  · exact e

/-- Part i differs from its share by less than one unit. -/
theorem Div.near (h : Div t w n W) (i : Nat) : part t w n W i * W < t * w i + W ∧ t * w i < part t w n W i * W + W := by
  have h1 := quo_rem t w W i
  have h2 := h.rem_lt i
  unfold part
  split
  · rename_i hr
    have := h.given hr
    rw [Nat.add_mul, Nat.mul_comm _ W]; omega
  · rw [Nat.add_zero, Nat.mul_comm _ W]; omega

/-- A greater weight never has a smaller part. -/
theorem Div.order {i k : Nat} (hi : i < n) (hw : w k < w i) : part t w n W k ≤ part t w n W i := by
  have h1 := quo_rem t w W i
  have h2 := quo_rem t w W k
  have hq : quo t w W k ≤ quo t w W i := Nat.div_le_div_right (Nat.mul_le_mul_left _ (Nat.le_of_lt hw))
  unfold part
  by_cases e : quo t w W k = quo t w W i
  · rw [e] at h2 ⊢
    by_cases h0 : t = 0
    · have : miss t w n W = 0 := by unfold miss; omega
      simp [this]
    · have h3 : t * w k < t * w i := Nat.mul_lt_mul_of_pos_left hw (by omega)
      have hb : before (rem t w W) i k = true := by rw [before_iff]; omega
      have := rank_lt (n := n) hi hb
      split <;> split <;> omega
  · split <;> split <;> omega

theorem Div.part_le (h : Div t w n W) {i : Nat} (hi : i < n) : part t w n W i ≤ t := by
  have := S_ge (part t w n W) n i hi
  rw [h.total] at this; exact this

/-- Part i once j units have been given on. -/
def partAt (t : Nat) (w : Nat → Nat) (n W j i : Nat) : Nat := quo t w W i + if rank (rem t w W) n i < j then 1 else 0

theorem partAt_zero (i : Nat) : partAt t w n W 0 i = quo t w W i := by simp [partAt]
theorem partAt_miss (i : Nat) : partAt t w n W (miss t w n W) i = part t w n W i := rfl

theorem partAt_same (h : Ord (rem t w W) n s) {j : Nat} (hj : j < s.length) : partAt t w n W (j + 1) s[j] = partAt t w n W j s[j] + 1 := by
  unfold partAt; rw [h.rank_at j hj]; simp
theorem partAt_rank {i j : Nat} (hr : rank (rem t w W) n i = j) : partAt t w n W (j + 1) i = partAt t w n W j i + 1 := by
  unfold partAt; rw [hr]; simp
theorem partAt_not {i j : Nat} (hr : rank (rem t w W) n i ≠ j) : partAt t w n W (j + 1) i = partAt t w n W j i := by
  unfold partAt; split <;> split <;> omega
theorem partAt_other (h : Ord (rem t w W) n s) {j i : Nat} (hj : j < s.length) (hi : i < n) (he : i ≠ s[j]) : partAt t w n W (j + 1) i = partAt t w n W j i :=
  partAt_not fun hr => by
    obtain ⟨_, e⟩ := h.at_rank hi
    simp only [hr] at e
    exact he e.symm
theorem partAt_le (h : Div t w n W) {i : Nat} (hi : i < n) {j : Nat} (hj : j ≤ miss t w n W) : partAt t w n W j i ≤ t := by
  have := h.part_le hi
  refine Nat.le_trans ?_ this
  unfold partAt part
  split <;> split <;> omega

/-- What remains of remainder i once j units have been given on: those that got one are out. -/
def restAt (t : Nat) (w : Nat → Nat) (n W j i : Nat) : Int := if rank (rem t w W) n i < j then -1 else (rem t w W i : Int)

theorem restAt_zero (i : Nat) : restAt t w n W 0 i = (rem t w W i : Int) := by simp [restAt]
theorem restAt_rank {i j : Nat} (hr : rank (rem t w W) n i = j) : restAt t w n W (j + 1) i = -1 := by unfold restAt; rw [hr]; simp
theorem restAt_not {i j : Nat} (hr : rank (rem t w W) n i ≠ j) : restAt t w n W (j + 1) i = restAt t w n W j i := by
  unfold restAt; split <;> split <;> first | rfl | omega
theorem restAt_lo (j i : Nat) : -1 ≤ restAt t w n W j i := by unfold restAt; split <;> omega
theorem restAt_hi (h : Div t w n W) (j i : Nat) : restAt t w n W j i < W := by have := h.rem_lt i; have := h.pos; unfold restAt; split <;> omega

/-- The search for the greatest: b is the first of the greatest of the first i. -/
def Best (f : Nat → Int) (i b : Nat) : Prop := (i = 0 ∧ b = 0) ∨ (b < i ∧ ∀ j, j < i → f j ≤ f b ∧ (j < b → f j < f b))

theorem best_start (f : Nat → Int) : Best f 0 0 := Or.inl ⟨rfl, rfl⟩
theorem best_turn {f : Nat → Int} {i b : Nat} (h : Best f i b) (hlt : f b < f i) : Best f (i + 1) i := by
  refine Or.inr ⟨by omega, fun j hj => ?_⟩
  rcases h with ⟨e, e'⟩ | ⟨hb, h⟩
  · subst e; subst e'; exact absurd hlt (by omega)
  · by_cases e : j = i
    · subst e; exact ⟨Int.le_refl _, fun h => absurd h (by omega)⟩
    · have := h j (by omega); exact ⟨by omega, fun _ => by omega⟩
theorem best_keep {f : Nat → Int} {i b : Nat} (h : Best f i b) (hle : ¬ f b < f i) : Best f (i + 1) b := by
  rcases h with ⟨e, e'⟩ | ⟨hb, h⟩
  · subst e; subst e'; refine Or.inr ⟨by omega, fun j hj => ?_⟩
    have : j = 0 := by omega
    subst this; exact ⟨Int.le_refl _, fun h => absurd h (by omega)⟩
  · refine Or.inr ⟨by omega, fun j hj => ?_⟩
    by_cases e : j = i
    · subst e; exact ⟨by omega, fun h => absurd h (by omega)⟩
    · exact h j (by omega)
theorem best_lt {f : Nat → Int} {i b : Nat} (h : Best f i b) (hi : 0 < i) : b < i := by
  rcases h with ⟨e, _⟩ | ⟨hb, _⟩ <;> omega

/-- What the search finds is the next in order. -/
theorem best_rank {k b : Nat} (hk : k < n) (h : Best (restAt t w n W k) n b) : rank (rem t w W) n b = k := by
  rcases h with ⟨e, _⟩ | ⟨hb, h⟩
  · omega
  have ho := ord_of_mergeSort (rem t w W) n
  generalize ((List.range n).mergeSort fun a b => !before (rem t w W) b a) = s at ho
  have hks : k < s.length := by rw [ho.len]; exact hk
  have hi : s[k] < n := (ho.mem _).1 (List.getElem_mem hks)
  have hr := ho.rank_at k hks
  generalize s[k] = x at hi hr
  have h1 := h x hi
  have ex : restAt t w n W k x = (rem t w W x : Int) := by unfold restAt; rw [if_neg (by omega)]
  rw [ex] at h1
  have hb' : ¬ rank (rem t w W) n b < k := by
    intro hc
    have : restAt t w n W k b = -1 := by unfold restAt; rw [if_pos hc]
    omega
  have eb : restAt t w n W k b = (rem t w W b : Int) := by unfold restAt; rw [if_neg hb']
  rw [eb] at h1
  by_cases e : rank (rem t w W) n b = k
  · exact e
  · have hlt : before (rem t w W) x b = true := (rank_lt_iff hi hb).1 (by omega)
    rw [before_iff] at hlt
    omega

end Go.Proofs.YtbllnkhbahenkaaGreatDoor.MA
namespace Go.Proofs.YtbllnkhbahenkaaGreatDoor
theorem isDig_ofNat {d : Nat} (h : d < 10) : isDig (UInt8.ofNat (48 + d)) ∧ (UInt8.ofNat (48 + d)).toNat = 48 + d := by
  have e : (UInt8.ofNat (48 + d)).toNat = 48 + d := by simp; omega
  exact ⟨⟨by omega, by omega⟩, e⟩
theorem text_one {d : Nat} (h : d < 10) : isText [UInt8.ofNat (48 + d)] d := by
  obtain ⟨h1, h2⟩ := isDig_ofNat h
  refine ⟨[UInt8.ofNat (48 + d)], rfl, by simp, by simpa using h1, ?_, by simp only [rv, h2]; omega⟩
  rcases Nat.eq_zero_or_pos d with e | e
  · right; subst e; rfl
  · left; right
    intro e2
    have : (UInt8.ofNat (48 + d)).toNat = 48 := by
      have : UInt8.ofNat (48 + d) = 48 := by simpa using e2
      rw [this]; rfl
    omega
theorem text_snoc {s : List UInt8} {a d : Nat} (h : isText s a) (ha : 0 < a) (hd : d < 10) : isText (s ++ [UInt8.ofNat (48 + d)]) (10 * a + d) := by
  obtain ⟨r, rfl, h0, hdg, ht, hv⟩ := h
  obtain ⟨h1, h2⟩ := isDig_ofNat hd
  refine ⟨UInt8.ofNat (48 + d) :: r, by simp, by simp, ?_, ?_, by simp only [rv, h2, hv]; omega⟩
  · intro c hc
    rcases List.mem_cons.1 hc with e | e
    · rw [e]; exact h1
    · exact hdg c e
  · left; right
    rcases ht with (ht | ht) | ht
    · exact absurd ht h0
    · rw [show (UInt8.ofNat (48 + d) :: r).length - 1 = (r.length - 1) + 1 by simp; omega, List.getD_cons_succ]; exact ht
    · subst ht; exact absurd hv.symm (by show ¬ a = 0; omega)
theorem decDigits_text : ∀ u : Nat, isText (Lib.decDigits u) u := by
  intro u
  induction u using Nat.strongRecOn with
  | _ u ih =>
    by_cases h : u < 10
    · rw [Lib.decDigits_one h]; exact text_one h
    · rw [Lib.decDigits, dif_neg h]
      have := text_snoc (ih (u / 10) (by omega)) (by omega : 0 < u / 10) (Nat.mod_lt u (by decide : 0 < 10))
      rwa [show 10 * (u / 10) + u % 10 = u by omega] at this
/-- What Parse answers. -/
noncomputable def parseA (l : List UInt8) : Int × Int := if parseErr l = 0 then (if decVal l ≤ 1000000 then ((decVal l : Int), 0) else (0, 4)) else (0, (parseErr l : Int))
theorem parseA_text {l : List UInt8} {a : Nat} (h : isText l a) (hl : l.length ≤ 600) : parseA l = if a ≤ 1000000 then ((a : Int), 0) else (0, 4) := by
  unfold parseA
  rw [if_pos (isText_ok l a h hl), isText_dec l a h]
theorem parseA_minus (l : List UInt8) (hl : l.length ≤ 500) : parseA (45 :: l) = (0, 2) := by
  have : parseErr (45 :: l) = 2 := parseErr_bad _ (by simp) (by simp; omega) (.inr fun h => by
    have := (h 45 (by simp)).1
    revert this; decide)
  unfold parseA
  rw [this, if_neg (by decide)]; rfl
theorem itoa_len (v : Int) (h0 : -9223372036854775808 ≤ v) (h1 : v ≤ 9223372036854775807) : (Lib.itoa v).length ≤ 21 := by
  unfold Lib.itoa
  split
  · have := isText_len _ _ 19 (decDigits_text v.natAbs) (by omega)
    simp; omega
  · have := isText_len _ _ 19 (decDigits_text v.toNat) (by omega)
    omega
theorem parseA_itoa (v : Int) (h0 : -9223372036854775808 ≤ v) (h1 : v ≤ 9223372036854775807) : parseA (Lib.itoa v) = if v < 0 then (0, 2) else if v ≤ 1000000 then (v, 0) else (0, 4) := by
  have hl := itoa_len v h0 h1
  by_cases h : v < 0
  · rw [if_pos h]
    unfold Lib.itoa at *
    rw [if_pos h] at *
    exact parseA_minus _ (by simp at hl; omega)
  · rw [if_neg h]
    unfold Lib.itoa at *
    rw [if_neg h] at *
    rw [parseA_text (decDigits_text v.toNat) (by omega)]
    have : (v.toNat : Int) = v := by omega
    by_cases h2 : v ≤ 1000000
    · rw [if_pos (by omega), if_pos h2, this]
    · rw [if_neg (by omega), if_neg h2]
end Go.Proofs.YtbllnkhbahenkaaGreatDoor
