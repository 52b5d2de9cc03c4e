/- Valid expressions, node by node; few nodes: the mathematics of chapter 13. No claim of its own. -/
import Derived.Test.YtjjpfpgjpmedmaaJVM
import Derived.Test.YtjjpfpgjpmedmaaJB
namespace Go.Proofs.Ytjjpfpgjpmedmaa.VV
open MB (at_)
open ME (F Nd)
theorem tot_le {b : List Int} (h : ∀ j, j < 6 → at_ b j ≤ 0) (h0 : ∀ j, j < 6 → 0 ≤ at_ b j) : ∀ i, i ≤ 6 → totB b i = 0
  | 0, _ => rfl
  | i + 1, hi => by
    rw [totB, tot_le h h0 i (by omega)]
    have := h i (by omega); have := h0 i (by omega)
    have e : at_ b i = 0 := by omega
    rw [e]; unfold RowKit.wrap64; omega
theorem bu_of_ok {b : List Int} (hl : b.length = 6) (h : MB.okB b = true) : Bu b := ⟨hl, fun j hj => (okB_at h (by rw [hl]; exact hj)).1⟩
theorem ok_of_chk {b : List Int} (h : chk b = 0) : MB.okB b = true := by
  unfold chk at h
  by_cases e : MB.okB b = true
  · exact e
  · rw [if_neg e] at h; omega
/-- What a node of a valid expression is. -/
structure NodeOk (n : Nd) : Prop where
  v0 : 0 ≤ n.v
  v1 : n.v ≤ 1000000
  way : (n.o = 1 ∧ n.k.len = 0 ∧ MB.okB n.b = true) ∨ ((n.o = 2 ∨ n.o = 3) ∧ 1 ≤ n.k.len ∧ n.k.len ≤ 8) ∨ (n.o = 4 ∧ n.k.len = 1 ∧ MB.okB n.b = true) ∨ (n.o = 5 ∧ n.k.len = 1)
  asks : (n.o = 1 ∨ n.o = 4) → 1 ≤ totB n.b 6
theorem node_ok {n : Nd} (h : ME.nodeE n = 0) : NodeOk n := by
  unfold ME.nodeE at h
  by_cases hf : ME.formB n = false
  · rw [if_pos hf] at h; omega
  · rw [if_neg hf] at h
    by_cases hr : ME.rangeB n = false
    · rw [if_pos hr] at h; omega
    · have hf' : ME.formB n = true := by simpa using hf
      have hr' : ME.rangeB n = true := by simpa using hr
      clear h hf hr
      unfold ME.formB at hf'
      unfold ME.rangeB at hr'
      by_cases h1 : n.o = 1
      · rw [if_pos h1] at hf'
        rw [if_neg (by omega)] at hr'
        by_cases hv : n.v < 1 ∨ 1000000 < n.v
        · rw [if_pos hv] at hr'; cases hr'
        · rw [if_neg hv, decide_eq_false (show ¬ n.o = 5 by omega), Bool.false_or, Bool.and_eq_true, decide_eq_true_eq, decide_eq_true_eq] at hr'
          exact ⟨by omega, by omega, .inl ⟨h1, by simpa using hf', ok_of_chk hr'.1⟩, fun _ => hr'.2⟩
      · rw [if_neg h1] at hf'
        by_cases h2 : n.o = 2 ∨ n.o = 3
        · rw [if_pos h2] at hf'
          simp only [Bool.and_eq_true, decide_eq_true_eq] at hf'
          obtain ⟨⟨⟨a, b⟩, _⟩, d⟩ := hf'
          exact ⟨by omega, by omega, .inr (.inl ⟨h2, a, b⟩), fun g => by omega⟩
        · rw [if_neg h2] at hf' hr'
          by_cases hv : n.v < 1 ∨ 1000000 < n.v
          · rw [if_pos hv] at hr'; cases hr'
          · rw [if_neg hv] at hr'
            by_cases h4 : n.o = 4
            · rw [if_pos h4] at hf'
              rw [decide_eq_false (show ¬ n.o = 5 by omega), Bool.false_or, Bool.and_eq_true, decide_eq_true_eq, decide_eq_true_eq] at hr'
              exact ⟨by omega, by omega, .inr (.inr (.inl ⟨h4, by simpa using hf', ok_of_chk hr'.1⟩)), fun _ => hr'.2⟩
            · rw [if_neg h4] at hf'
              by_cases h5 : n.o = 5
              · rw [if_pos h5] at hf'
                simp only [Bool.and_eq_true, decide_eq_true_eq] at hf'
                exact ⟨by omega, by omega, .inr (.inr (.inr ⟨h5, hf'.1⟩)), fun g => by omega⟩
              · rw [if_neg h5] at hf'; cases hf'
theorem NodeOk.asksZ {n : Nd} (h : NodeOk n) : Asks n := fun g => by
  by_cases e : leB n.b Z = true
  · have hl := leB_iff.1 e
    have ho : MB.okB n.b = true := by
      rcases h.way with ⟨_, _, q⟩ | ⟨q, _⟩ | ⟨_, _, q⟩ | ⟨q, _⟩
      · exact q
      · omega
      · exact q
      · omega
    have h1 := h.asks g
    have ha : ∀ j, j < 6 → at_ n.b j ≤ 0 := fun j hj => by have := hl j hj; rwa [Z_at hj] at this
    have hb : ∀ j, j < 6 → 0 ≤ at_ n.b j := fun j hj => by
      by_cases hjl : j < n.b.length
      · exact (okB_at ho hjl).1
      · unfold at_; rw [List.getD_eq_getElem?_getD, List.getElem?_eq_none (by omega)]; exact Int.le_refl _
    rw [tot_le ha hb 6 (Nat.le_refl _)] at h1
    omega
  · simpa using e
/-- All nodes are valid. -/
def AllOk (n : Nd) : Prop := ∀ z ∈ n.pre, ME.nodeE z = 0
theorem AllOk.of {n : Nd} (h : ME.checkE n = 0) : AllOk n := (ME.checkE_zero.1 h).2.2.2
theorem AllOk.here {n : Nd} (h : AllOk n) : NodeOk n := node_ok (h n (by rw [Nd.pre]; exact List.mem_cons_self))
theorem AllOk.pos {n : Nd} (h : AllOk n) : 0 ≤ n.v ∧ ∀ z ∈ n.k.pre, 0 ≤ z.v := ⟨h.here.v0, fun z hz => (node_ok (h z (by rw [Nd.pre]; exact List.mem_cons_of_mem _ hz))).v0⟩
theorem AllOk.mono {n : Nd} (h : AllOk n) : Mono (valN n) := valN_mono h.pos.1 h.pos.2
theorem AllOk.z {n : Nd} (h : AllOk n) : valN n Z = 0 := valN_z ⟨h.here.asksZ, h.here.v0⟩ fun z hz => by
  have := node_ok (h z (by rw [Nd.pre]; exact List.mem_cons_of_mem _ hz))
  exact ⟨this.asksZ, this.v0⟩
/-- What Value answers. -/
def value (n : Nd) (b : List Int) : Int := if ME.checkE n = 0 ∧ chk b = 0 then valN n b else 0
/-! How many nodes, as the reference counts them. -/
def cntN : Nat → F → Int
  | _, .nil => 0
  | 0, .cons _ _ _ _ r => 1000 + cntN 0 r
  | f + 1, .cons _ _ _ k r => (if 20 < k.len then 1000 else 1 + cntN f k) + cntN (f + 1) r
def nodesN : Nat → Nd → Int
  | 0, _ => 1000
  | f + 1, n => if 20 < n.k.len then 1000 else 1 + cntN f n.k
def usesU (n : Nd) : Nat → Int
  | 0 => 0
  | i + 1 => usesU n i + if useN n i = true then 1 else 0
def few (n : Nd) : Bool := decide (usesU n 6 ≤ 2) && decide (nodesN 11 n ≤ 14)
end Go.Proofs.Ytjjpfpgjpmedmaa.VV
