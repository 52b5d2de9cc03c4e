/- Tables in which greater bundles never have smaller values: the mathematics of chapter 13. No claim of its own. -/
import Derived.Test.YtbnillkihmooeaaMathVD
import Derived.Test.YtbnillkihmooeaaBRank
namespace Go.Proofs.Ytbnillkihmooeaa.VV
open MB (at_)
/-- Pairs that have been looked at. -/
def rowB (L s : List Int) (i : Nat) (j : Nat) : Bool := !(leB (at6 s i) (at6 s j)) || decide (L.getD i 0 ≤ L.getD j 0)
def pairsB (L s : List Int) (n : Nat) : Bool := (List.range n).all fun i => (List.range n).all fun j => rowB L s i j
def monoB (L s : List Int) : Bool := decide (cntB s ≠ 0) && decide ((L.length : Int) = cntB s) && pairsB L s (cnt s)
theorem pairsB_iff {L s : List Int} {n : Nat} : pairsB L s n = true ↔ ∀ i, i < n → ∀ j, j < n → rowB L s i j = true := by
  unfold pairsB
  rw [List.all_eq_true]
  constructor
  · intro h i hi j hj
    exact List.all_eq_true.1 (h i (List.mem_range.2 hi)) j (List.mem_range.2 hj)
  · intro h i hi
    rw [List.all_eq_true]
    exact fun j hj => h i (List.mem_range.1 hi) j (List.mem_range.1 hj)
theorem rowB_iff {L s : List Int} {i j : Nat} : rowB L s i j = true ↔ (Le (at6 s i) (at6 s j) → L.getD i 0 ≤ L.getD j 0) := by
  unfold rowB
  by_cases h : leB (at6 s i) (at6 s j) = true
  · rw [h]; simp [leB_iff.1 h]
  · have h' : leB (at6 s i) (at6 s j) = false := by simpa using h
    rw [h']
    simp only [Bool.not_false, Bool.true_or, true_iff]
    exact fun g => absurd (leB_iff.2 g) h
theorem below_rank {s : List Int} (hs : Bu s) {i k : Nat} (_hi : i < cnt s) : rank s (below (at6 s i) k) < cnt s ∧ at6 s (rank s (below (at6 s i) k)) = below (at6 s i) k := by
  obtain ⟨h1, h2⟩ := at6_bu hs i
  obtain ⟨h3, h4⟩ := below_bu h1 k
  exact ⟨rank_lt hs h3 (h4.trans h2), at_rank hs h3 (h4.trans h2)⟩
theorem pairs_units {L s : List Int} (hs : Bu s) : pairsB L s (cnt s) = true ↔ ∀ i, i < cnt s → ∀ k, k < 6 → L.getD (rank s (below (at6 s i) k)) 0 ≤ L.getD i 0 := by
  rw [pairsB_iff]
  constructor
  · intro h i hi k hk
    obtain ⟨h1, h2⟩ := below_rank hs (k := k) hi
    exact rowB_iff.1 (h _ h1 i hi) (by rw [h2]; exact (below_bu (at6_bu hs i).1 k).2)
  · intro h i hi j hj
    refine rowB_iff.2 fun hl => ?_
    have hu := unit_steps (s := s) (f := fun b => L.getD (rank s b) 0) (fun b hb hbs k hk => by
      have hr := rank_lt hs hb hbs
      have := h (rank s b) hr k hk
      rw [at_rank hs hb hbs] at this
      exact this) _ (at6 s i) (at6 s j) (at6_bu hs i).1 (at6_bu hs j).1 hl (at6_bu hs j).2 rfl
    rwa [rank_at hi, rank_at hj] at hu
theorem monoB_no1 {L s : List Int} (h : cntB s = 0) : monoB L s = false := by unfold monoB; rw [decide_eq_false (fun g => g h)]; rfl
theorem monoB_no2 {L s : List Int} (h : (L.length : Int) ≠ cntB s) : monoB L s = false := by unfold monoB; rw [decide_eq_false h, Bool.and_false]; rfl
theorem monoB_yes {L s : List Int} (h : cntB s ≠ 0) (h2 : (L.length : Int) = cntB s) : monoB L s = pairsB L s (cnt s) := by unfold monoB; rw [decide_eq_true h, decide_eq_true h2, Bool.true_and, Bool.true_and]
theorem monoB_bad {L s : List Int} (hs : Bu s) (h : cntB s ≠ 0) (h2 : (L.length : Int) = cntB s) {i k : Nat} (hi : i < cnt s) (hk : k < 6) (hb : ¬ L.getD (rank s (below (at6 s i) k)) 0 ≤ L.getD i 0) : monoB L s = false := by
  rw [monoB_yes h h2]
  by_cases e : pairsB L s (cnt s) = true
  · exact absurd ((pairs_units hs).1 e i hi k hk) hb
  · simpa using e
theorem monoB_good {L s : List Int} (hs : Bu s) (h : cntB s ≠ 0) (h2 : (L.length : Int) = cntB s) (hall : ∀ i, i < cnt s → ∀ k, k < 6 → L.getD (rank s (below (at6 s i) k)) 0 ≤ L.getD i 0) : monoB L s = true := by
  rw [monoB_yes h h2]; exact (pairs_units hs).2 hall
theorem rankB_in {s b : List Int} (hs : MB.okB s = true) (hl : s.length = 6) (hp : MB.P s 6 ≤ 1024) (hb : Bu b) (h : Le b s) : rankB s b = (rank s b : Nat) := by
  have hok : MB.okB b = true := by
    unfold MB.okB
    rw [List.all_eq_true]
    intro q hq
    obtain ⟨k, hk, rfl⟩ := List.getElem_of_mem hq
    have hk6 : k < 6 := by rw [← hb.len]; exact hk
    have e : b[k] = at_ b k := by unfold at_; rw [List.getD_eq_getElem?_getD, List.getElem?_eq_getElem hk]; rfl
    have h1 := hb.pos k hk6
    have h2 := h k hk6
    have h3 := okB_at hs (k := k) (by rw [hl]; exact hk6)
    rw [e]; simp; omega
  unfold rankB
  rw [if_pos]
  · rfl
  · unfold rankOk
    rw [hs, hok, decide_eq_true hp]
    exact (MB.withinB_iff b s 6).2 h
end Go.Proofs.Ytbnillkihmooeaa.VV
