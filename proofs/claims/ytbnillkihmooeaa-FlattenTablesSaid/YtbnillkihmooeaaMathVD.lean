/- Valid expressions, node by node; few nodes: the mathematics of chapter 13. No claim of its own. -/
import Derived.Test.YtbnillkihmooeaaJVM
import Derived.Test.YtbnillkihmooeaaJB
namespace Go.Proofs.Ytbnillkihmooeaa.VV
open MB (at_)
open ME (F Nd)
theorem roots_pre : ∀ {k : F} {n : Nd}, n ∈ k.roots → ∀ z ∈ n.pre, z ∈ k.pre
  | .nil, _, h => by simp [F.roots] at h
  | .cons o b v k r, n, h => by
    rw [F.roots] at h
    intro z hz
    rw [F.pre]
    rcases List.mem_cons.1 h with rfl | h
    · rw [Nd.pre] at hz
      rcases List.mem_cons.1 hz with rfl | hz
      · exact List.mem_cons_self
      · exact List.mem_cons_of_mem _ (List.mem_append_left _ hz)
    · exact List.mem_cons_of_mem _ (List.mem_append_right _ (roots_pre h z hz))
theorem roots_size : ∀ {k : F} {n : Nd}, n ∈ k.roots → n.size ≤ k.size
  | .nil, _, h => by simp [F.roots] at h
  | .cons o b v k r, n, h => by
    rw [F.roots] at h
    rw [F.size]
    rcases List.mem_cons.1 h with rfl | h
    · show k.size + 1 ≤ _; omega
    · have := roots_size h; omega
theorem tot_le {b : List Int} (h : ∀ j, j < 6 → at_ b j ≤ 0) (h0 : ∀ j, j < 6 → 0 ≤ at_ b j) : ∀ i, i ≤ 6 → totB b i = 0
  | 0, _ => rfl
  | i + 1, hi => by
    rw [totB, tot_le h h0 i (by omega)]
    have := h i (by omega); have := h0 i (by omega)
    have e : at_ b i = 0 := by omega
    rw [e]; unfold RowKit.wrap64; omega
theorem bu_of_ok {b : List Int} (hl : b.length = 6) (h : MB.okB b = true) : Bu b := ⟨hl, fun j hj => (okB_at h (by rw [hl]; exact hj)).1⟩
theorem ok_of_chk {b : List Int} (h : chk b = 0) : MB.okB b = true := by
  unfold chk at h
  by_cases e : MB.okB b = true
  · exact e
  · rw [if_neg e] at h; omega
/-- What a node of a valid expression is. -/
structure NodeOk (n : Nd) : Prop where
  v0 : 0 ≤ n.v
  v1 : n.v ≤ 1000000
  way : (n.o = 1 ∧ n.k.len = 0 ∧ MB.okB n.b = true) ∨ ((n.o = 2 ∨ n.o = 3) ∧ 1 ≤ n.k.len ∧ n.k.len ≤ 8) ∨ (n.o = 4 ∧ n.k.len = 1 ∧ MB.okB n.b = true) ∨ (n.o = 5 ∧ n.k.len = 1)
  asks : (n.o = 1 ∨ n.o = 4) → 1 ≤ totB n.b 6
theorem node_ok {n : Nd} (h : ME.nodeE n = 0) : NodeOk n := by
  unfold ME.nodeE at h
  by_cases hf : ME.formB n = false
  · rw [if_pos hf] at h; omega
  · rw [if_neg hf] at h
    by_cases hr : ME.rangeB n = false
    · rw [if_pos hr] at h; omega
    · have hf' : ME.formB n = true := by simpa using hf
      have hr' : ME.rangeB n = true := by simpa using hr
      clear h hf hr
      unfold ME.formB at hf'
      unfold ME.rangeB at hr'
      by_cases h1 : n.o = 1
      · rw [if_pos h1] at hf'
        rw [if_neg (by omega)] at hr'
        by_cases hv : n.v < 1 ∨ 1000000 < n.v
        · rw [if_pos hv] at hr'; cases hr'
        · rw [if_neg hv, decide_eq_false (show ¬ n.o = 5 by omega), Bool.false_or, Bool.and_eq_true, decide_eq_true_eq, decide_eq_true_eq] at hr'
          exact ⟨by omega, by omega, .inl ⟨h1, by simpa using hf', ok_of_chk hr'.1⟩, fun _ => hr'.2⟩
      · rw [if_neg h1] at hf'
        by_cases h2 : n.o = 2 ∨ n.o = 3
        · rw [if_pos h2] at hf'
          simp only [Bool.and_eq_true, decide_eq_true_eq] at hf'
          obtain ⟨⟨⟨a, b⟩, _⟩, d⟩ := hf'
          exact ⟨by omega, by omega, .inr (.inl ⟨h2, a, b⟩), fun g => by omega⟩
        · rw [if_neg h2] at hf' hr'
          by_cases hv : n.v < 1 ∨ 1000000 < n.v
          · rw [if_pos hv] at hr'; cases hr'
          · rw [if_neg hv] at hr'
            by_cases h4 : n.o = 4
            · rw [if_pos h4] at hf'
              rw [decide_eq_false (show ¬ n.o = 5 by omega), Bool.false_or, Bool.and_eq_true, decide_eq_true_eq, decide_eq_true_eq] at hr'
              exact ⟨by omega, by omega, .inr (.inr (.inl ⟨h4, by simpa using hf', ok_of_chk hr'.1⟩)), fun _ => hr'.2⟩
            · rw [if_neg h4] at hf'
              by_cases h5 : n.o = 5
              · rw [if_pos h5] at hf'
                simp only [Bool.and_eq_true, decide_eq_true_eq] at hf'
                exact ⟨by omega, by omega, .inr (.inr (.inr ⟨h5, hf'.1⟩)), fun g => by omega⟩
              · rw [if_neg h5] at hf'; cases hf'
theorem NodeOk.asksZ {n : Nd} (h : NodeOk n) : Asks n := fun g => by
  by_cases e : leB n.b Z = true
  · have hl := leB_iff.1 e
    have ho : MB.okB n.b = true := by
      rcases h.way with ⟨_, _, q⟩ | ⟨q, _⟩ | ⟨_, _, q⟩ | ⟨q, _⟩
      · exact q
      · omega
      · exact q
      · omega
    have h1 := h.asks g
    have ha : ∀ j, j < 6 → at_ n.b j ≤ 0 := fun j hj => by have := hl j hj; rwa [Z_at hj] at this
    have hb : ∀ j, j < 6 → 0 ≤ at_ n.b j := fun j hj => by
      by_cases hjl : j < n.b.length
      · exact (okB_at ho hjl).1
      · unfold at_; rw [List.getD_eq_getElem?_getD, List.getElem?_eq_none (by omega)]; exact Int.le_refl _
    rw [tot_le ha hb 6 (Nat.le_refl _)] at h1
    omega
  · simpa using e
/-- All nodes are valid. -/
def AllOk (n : Nd) : Prop := ∀ z ∈ n.pre, ME.nodeE z = 0
theorem AllOk.of {n : Nd} (h : ME.checkE n = 0) : AllOk n := (ME.checkE_zero.1 h).2.2.2
theorem AllOk.here {n : Nd} (h : AllOk n) : NodeOk n := node_ok (h n (by rw [Nd.pre]; exact List.mem_cons_self))
theorem AllOk.kid {n y : Nd} (h : AllOk n) (hy : y ∈ n.k.roots) : AllOk y := fun z hz => h z (by rw [Nd.pre]; exact List.mem_cons_of_mem _ (roots_pre hy z hz))
theorem AllOk.pos {n : Nd} (h : AllOk n) : 0 ≤ n.v ∧ ∀ z ∈ n.k.pre, 0 ≤ z.v := ⟨h.here.v0, fun z hz => (node_ok (h z (by rw [Nd.pre]; exact List.mem_cons_of_mem _ hz))).v0⟩
theorem AllOk.mono {n : Nd} (h : AllOk n) : Mono (valN n) := valN_mono h.pos.1 h.pos.2
theorem AllOk.z {n : Nd} (h : AllOk n) : valN n Z = 0 := valN_z ⟨h.here.asksZ, h.here.v0⟩ fun z hz => by
  have := node_ok (h z (by rw [Nd.pre]; exact List.mem_cons_of_mem _ hz))
  exact ⟨this.asksZ, this.v0⟩
/-- What Value answers. -/
def value (n : Nd) (b : List Int) : Int := if ME.checkE n = 0 ∧ chk b = 0 then valN n b else 0
theorem value_range {n : Nd} {b : List Int} (hl : b.length = 6) : 0 ≤ value n b ∧ value n b ≤ 1000000 := by
  unfold value
  split
  · rename_i h
    exact ⟨(AllOk.of h.1).mono.pos b (bu_of_ok hl (ok_of_chk h.2)), valN_max n b⟩
  · omega
/-! How many nodes, as the reference counts them. -/
def cntN : Nat → F → Int
  | _, .nil => 0
  | 0, .cons _ _ _ _ r => 1000 + cntN 0 r
  | f + 1, .cons _ _ _ k r => (if 20 < k.len then 1000 else 1 + cntN f k) + cntN (f + 1) r
def nodesN : Nat → Nd → Int
  | 0, _ => 1000
  | f + 1, n => if 20 < n.k.len then 1000 else 1 + cntN f n.k
theorem cnt_cons (f : Nat) (o : Int) (b : List Int) (v : Int) (k r : F) : cntN f (.cons o b v k r) = nodesN f ⟨o, b, v, k⟩ + cntN f r := by
  cases f with
  | zero => rfl
  | succ f => rfl
def capN : Nat → Int
  | 0 => 1000
  | f + 1 => 1 + 20 * capN f
theorem capN_ge : ∀ f, 1000 ≤ capN f
  | 0 => Int.le_refl _
  | f + 1 => by have := capN_ge f; rw [capN]; omega
theorem capN_mono : ∀ {f g : Nat}, f ≤ g → capN f ≤ capN g
  | f, 0, h => by obtain rfl : f = 0 := by omega
                  exact Int.le_refl _
  | f, g + 1, h => by
    by_cases e : f = g + 1
    · rw [e]; exact Int.le_refl _
    · have := capN_mono (f := f) (g := g) (by omega)
      have := capN_ge g
      rw [capN]; omega
theorem cnt_le : ∀ (f : Nat) (k : F), 0 ≤ cntN f k ∧ cntN f k ≤ k.len * capN f
  | f, .nil => by cases f <;> simp [cntN, F.len]
  | 0, .cons _ _ _ _ r => by
    have := cnt_le 0 r
    rw [cntN, F.len]
    push_cast
    rw [Int.add_mul]
    have e : capN 0 = 1000 := rfl
    rw [e] at this ⊢
    omega
  | f + 1, .cons _ _ _ k r => by
    have h1 := cnt_le f k
    have h2 := cnt_le (f + 1) r
    have h3 := capN_ge f
    rw [cntN, F.len]
    push_cast
    rw [Int.add_mul]
    have e : capN (f + 1) = 1 + 20 * capN f := rfl
    split
    · omega
    · rename_i h
      have hm : (k.len : Int) * capN f ≤ 20 * capN f := Int.mul_le_mul_of_nonneg_right (by omega) (by omega)
      omega
theorem nodes_le (f : Nat) (n : Nd) : 1 ≤ nodesN f n ∧ nodesN f n ≤ capN f := by
  cases f with
  | zero => exact ⟨show (1 : Int) ≤ 1000 by decide, Int.le_refl _⟩
  | succ f =>
    have h1 := cnt_le f n.k
    have h3 := capN_ge f
    have e : capN (f + 1) = 1 + 20 * capN f := rfl
    show 1 ≤ (if 20 < n.k.len then 1000 else 1 + cntN f n.k) ∧ (if 20 < n.k.len then 1000 else 1 + cntN f n.k) ≤ _
    split
    · omega
    · rename_i h
      have hm : (n.k.len : Int) * capN f ≤ 20 * capN f := Int.mul_le_mul_of_nonneg_right (by omega) (by omega)
      omega
theorem cnt_size : ∀ (f : Nat) (k : F), cntN f k ≤ 999 → (k.size : Int) = cntN f k
  | f, .nil, _ => by cases f <;> rfl
  | 0, .cons _ _ _ _ r, h => by have := cnt_le 0 r; rw [cntN] at h; omega
  | f + 1, .cons _ _ _ k r, h => by
    have h1 := cnt_le f k
    have h2 := cnt_le (f + 1) r
    rw [cntN] at h ⊢
    rw [F.size]
    push_cast
    split at h
    · omega
    · rename_i hk
      rw [if_neg hk]
      rw [cnt_size f k (by omega), cnt_size (f + 1) r (by omega)]
theorem nodes_size {f : Nat} {n : Nd} (h : nodesN f n ≤ 999) : (n.size : Int) = nodesN f n := by
  cases f with
  | zero => exact absurd (show (1000 : Int) ≤ 999 from h) (by decide)
  | succ f =>
    replace h : (if 20 < n.k.len then 1000 else 1 + cntN f n.k) ≤ 999 := h
    show _ = (if 20 < n.k.len then (1000 : Int) else 1 + cntN f n.k)
    split at h
    · omega
    · rename_i hk
      rw [if_neg hk]
      show ((n.k.size + 1 : Nat) : Int) = _
      have := cnt_size f n.k (by have := cnt_le f n.k; omega)
      push_cast
      omega
theorem capN_11 : capN 11 ≤ 300000000000000000 := by decide
def usesU (n : Nd) : Nat → Int
  | 0 => 0
  | i + 1 => usesU n i + if useN n i = true then 1 else 0
theorem usesU_le (n : Nd) : ∀ i, 0 ≤ usesU n i ∧ usesU n i ≤ i
  | 0 => ⟨Int.le_refl _, Int.le_refl _⟩
  | i + 1 => by have := usesU_le n i; rw [usesU]; split <;> push_cast <;> omega
def few (n : Nd) : Bool := decide (usesU n 6 ≤ 2) && decide (nodesN 11 n ≤ 14)
theorem few_size {n : Nd} (h : few n = true) : n.size ≤ 14 := by
  unfold few at h
  simp only [Bool.and_eq_true, decide_eq_true_eq] at h
  have := nodes_size (f := 11) (n := n) (by omega)
  omega
end Go.Proofs.Ytbnillkihmooeaa.VV
