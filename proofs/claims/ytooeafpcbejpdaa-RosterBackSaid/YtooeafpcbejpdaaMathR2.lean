/- More of chapter 9's mathematics. No claim of its own. -/
import Derived.Test.YtooeafpcbejpdaaMathR
namespace Go.Proofs.Ytooeafpcbejpdaa.MR
theorem bdE_name {seen : List (List UInt8)} {p : Bd} (h : nameB p.name = false) : bdE seen p = 5 := if_pos h
theorem bdE_seen {seen : List (List UInt8)} {p : Bd} (h : nameB p.name = true) (h2 : p.name ∈ seen) : bdE seen p = 7 := by
  unfold bdE; rw [if_neg (by rw [h]; decide), if_pos h2]
theorem bdE_ok {seen : List (List UInt8)} {p : Bd} (h : nameB p.name = true) (h2 : p.name ∉ seen) (h3 : p.ok) : bdE seen p = 0 := by
  unfold bdE; rw [if_neg (by rw [h]; decide), if_neg h2, if_pos h3]
theorem bdE_range {seen : List (List UInt8)} {p : Bd} (h : nameB p.name = true) (h2 : p.name ∉ seen) (h3 : ¬ p.ok) : bdE seen p = 4 := by
  unfold bdE; rw [if_neg (by rw [h]; decide), if_neg h2, if_neg h3]
theorem none_all : ∀ {a : List Bd} {n : List UInt8}, findL a n = none → ∀ q ∈ a, q.name ≠ n
  | [], _, _, q, hq => by cases hq
  | x :: r, n, ha, q, hq => by
    simp only [findL] at ha
    by_cases e : x.name = n
    · rw [if_pos e] at ha; cases ha
    · rw [if_neg e] at ha
      have hr : findL r n = none := by cases hh : findL r n with
        | none => rfl
        | some j => rw [hh] at ha; cases ha
      rcases List.mem_cons.1 hq with rfl | hq
      · exact e
      · exact none_all hr q hq
theorem find_names {l : List Bd} {k : Nat} {m : List UInt8} : findL (l.take k) m = none ↔ m ∉ names l k := by
  constructor
  · intro h hm
    obtain ⟨q, hq, e⟩ := List.mem_map.1 hm
    exact none_all h q hq e
  · intro h
    exact find_none fun p hp e => h (List.mem_map.2 ⟨p, hp, e⟩)
/-- All up to the k-th are right. -/
def Upto (l : List Bd) (k : Nat) : Prop := bdsE [] l = bdsE (names l k) (l.drop k)
theorem Upto.start (l : List Bd) : Upto l 0 := rfl
theorem Upto.step {l : List Bd} {k : Nat} {p : Bd} (h : Upto l k) (hp : l[k]? = some p) (h0 : bdE (names l k) p = 0) : Upto l (k + 1) := by
  show bdsE [] l = _
  rw [← bdsE_step hp h0]; exact h
theorem Upto.stop {l : List Bd} {k : Nat} {p : Bd} (h : Upto l k) (hp : l[k]? = some p) (h0 : bdE (names l k) p ≠ 0) : bdsE [] l = bdE (names l k) p := by
  rw [← bdsE_stop hp h0]; exact h
theorem Upto.fin {l : List Bd} {k : Nat} (h : Upto l k) (hk : l.length ≤ k) : bdsE [] l = 0 := by
  rw [← bdsE_end hk]; exact h
theorem chk_short {l : List Bd} (h : l.length = 0) : chkL l = 1 := if_pos h
theorem chk_long {l : List Bd} (h : 8 < l.length) : chkL l = 3 := by unfold chkL; rw [if_neg (by omega), if_pos h]
theorem chk_mid {l : List Bd} (h0 : l.length ≠ 0) (h8 : ¬ 8 < l.length) : chkL l = bdsE [] l := by unfold chkL; rw [if_neg h0, if_neg h8]
theorem not_ok {p : Bd} (ho : ¬ p.ok) : p.cls < 0 ∨ (¬ p.cls < 0 ∧ 4 < p.cls) ∨ (¬ p.cls < 0 ∧ ¬ 4 < p.cls ∧ p.budget < 0) ∨ (¬ p.cls < 0 ∧ ¬ 4 < p.cls ∧ ¬ p.budget < 0 ∧ 1000000 < p.budget) ∨
    (¬ p.cls < 0 ∧ ¬ 4 < p.cls ∧ ¬ p.budget < 0 ∧ ¬ 1000000 < p.budget ∧ p.points < 0) ∨ (¬ p.cls < 0 ∧ ¬ 4 < p.cls ∧ ¬ p.budget < 0 ∧ ¬ 1000000 < p.budget ∧ ¬ p.points < 0 ∧ 24000 < p.points) := by
  unfold Bd.ok at ho
  omega
end Go.Proofs.Ytooeafpcbejpdaa.MR
