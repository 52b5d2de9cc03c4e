/- Two fractions in variables, and contracts in the words of the statements of layer 2: no claim of its own. -/
import Derived.Test.YtbllnkhbahenkaaGreatDoorRAddF
namespace Go.Proofs.YtbllnkhbahenkaaGreatDoor
open Go.RowKit
theorem Fr.zero_iff (N : Int) (Q : Nat) : (Fr.ofInt N Q).p = 0 ↔ N = 0 ∨ Q = 0 ∧ False := by
  have e : (Fr.ofInt N Q).p = N.natAbs / Nat.gcd N.natAbs Q := rfl
  rw [e]
  constructor
  · intro h
    rcases Nat.eq_zero_or_pos N.natAbs with h0 | h0
    · exact .inl (Int.natAbs_eq_zero.1 h0)
    · have := Nat.div_pos (Nat.le_of_dvd h0 (Nat.gcd_dvd_left N.natAbs Q)) (Nat.gcd_pos_of_pos_left _ h0)
      omega
  · rintro (h | ⟨_, h⟩)
    · subst h; simp
    · exact h.elim
theorem sgn_ofInt (N : Int) (Q : Nat) : sgn (Fr.ofInt N Q).s (Fr.ofInt N Q).p = if N < 0 then -1 else if N = 0 then 0 else 1 := by
  unfold sgn
  by_cases h : N = 0
  · rw [if_pos ((Fr.zero_iff N Q).2 (.inl h)), if_neg (by omega), if_pos h]
  · rw [if_neg (fun g => ((Fr.zero_iff N Q).1 g).elim h (fun x => x.2))]
    have e : (Fr.ofInt N Q).s = (decide (N < 0) && decide (0 < N.natAbs)) := rfl
    have e2 : decide (0 < N.natAbs) = true := decide_eq_true (by omega)
    rw [e, e2, Bool.and_true]
    by_cases g : N < 0
    · rw [decide_eq_true g, if_pos g]; rfl
    · rw [decide_eq_false g, if_neg g, if_neg h]; rfl
/-- The order of two fractions. -/
def cmpFr (a b : Fr) : Int := sgn (Fr.add a (Fr.neg b)).s (Fr.add a (Fr.neg b)).p
theorem cmpFr_eq {a b : Fr} (hb : Fr.Ok b) : cmpFr a b = if a.n * b.q - b.n * a.q < 0 then -1 else if a.n * b.q - b.n * a.q = 0 then 0 else 1 := by
  unfold cmpFr Fr.add
  rw [sgn_ofInt, Fr.neg_n hb, show (Fr.neg b).q = b.q from rfl]
  have : a.n * (b.q : Int) + -b.n * (a.q : Int) = a.n * b.q - b.n * a.q := by rw [Int.neg_mul]; omega
  rw [this]
theorem sgn_range (s : Bool) (p : Nat) : -1 ≤ sgn s p ∧ sgn s p ≤ 1 := by
  unfold sgn
  split
  · omega
  · split <;> omega
theorem cmpI_range (a b : Nat) : -1 ≤ cmpI a b ∧ cmpI a b ≤ 1 := by
  unfold cmpI
  split
  · omega
  · split <;> omega
theorem cmp_cases {s s' : Bool} {p q p' q' : Nat} (ok' : Fr.Ok ⟨s', p', q'⟩) (hq : 0 < q) :
    (sgn s p < sgn s' p' → cmpFr ⟨s, p, q⟩ ⟨s', p', q'⟩ = -1) ∧ (sgn s' p' < sgn s p → cmpFr ⟨s, p, q⟩ ⟨s', p', q'⟩ = 1) ∧
    (sgn s p = sgn s' p' → sgn s p < 0 → cmpFr ⟨s, p, q⟩ ⟨s', p', q'⟩ = -cmpI (p * q') (p' * q)) ∧ (sgn s p = sgn s' p' → 0 ≤ sgn s p → cmpFr ⟨s, p, q⟩ ⟨s', p', q'⟩ = cmpI (p * q') (p' * q)) := by
  rw [cmpFr_eq ok']
  have hq' : 0 < q' := ok'.1
  have e1 : (Fr.n ⟨s, p, q⟩) * ((q' : Nat) : Int) = Fr.num s (p * q') := by rw [Fr.num_mul]; rfl
  have e2 : (Fr.n ⟨s', p', q'⟩) * ((q : Nat) : Int) = Fr.num s' (p' * q) := by rw [Fr.num_mul]; rfl
  have z1 : p = 0 ↔ p * q' = 0 := ⟨fun h => by rw [h, Nat.zero_mul], fun h => by rcases Nat.mul_eq_zero.1 h with h | h <;> omega⟩
  have z2 : p' = 0 ↔ p' * q = 0 := ⟨fun h => by rw [h, Nat.zero_mul], fun h => by rcases Nat.mul_eq_zero.1 h with h | h <;> omega⟩
  show (_ → (if (Fr.n ⟨s, p, q⟩) * ((q' : Nat) : Int) - (Fr.n ⟨s', p', q'⟩) * ((q : Nat) : Int) < 0 then (-1 : Int) else if (Fr.n ⟨s, p, q⟩) * ((q' : Nat) : Int) - (Fr.n ⟨s', p', q'⟩) * ((q : Nat) : Int) = 0 then 0 else 1) = -1) ∧ _
  rw [e1, e2]
  unfold sgn cmpI
  generalize p * q' = X at *
  generalize p' * q = Y at *
  clear e1 e2 ok' hq hq'
  cases s <;> cases s' <;> simp only [Fr.num_true, Fr.num_false, z1, z2, Bool.false_eq_true, if_false, if_true] <;> refine ⟨?_, ?_, ?_, ?_⟩ <;> intros <;> (repeat' split) <;> (repeat' split at *) <;> omega
theorem fcmpFr_any (s s' : Bool) (A B A' B' : Option Addr) (n c m d n' c' m' d' p q p' q' i : Nat) (xs ys xs' ys' : List Nat) (w : World) (hx : Num w A n c xs p) (hy : Num w B m d ys q) (hx' : Num w A' n' c' xs' p') (hy' : Num w B' m' d' ys' q') (pp : p < 4294967296 ^ i) (pq : q < 4294967296 ^ i) (pp' : p' < 4294967296 ^ i) (pq' : q' < 4294967296 ^ i) (hi : i ≤ 100000) (ok : Fr.Ok ⟨s, p, q⟩) (ok' : Fr.Ok ⟨s', p', q'⟩) :
    Calls Tryz.prog 22 #[.agg #[.bool s, .slice A n c, .slice B m d], .agg #[.bool s', .slice A' n' c', .slice B' m' d']] w (Gives (.int .i64 (cmpFr ⟨s, p, q⟩ ⟨s', p', q'⟩)) w) := by
  obtain ⟨k1, k2, k3, k4⟩ := cmp_cases (s := s) (p := p) ok' (show 0 < q from ok.1)
  by_cases h : sgn s p < sgn s' p'
  · rw [k1 h]; exact fcmp_lt s s' A B A' B' n c m d n' c' m' d' p p' i xs xs' w hx hx' pp pp' (by omega) _ _ rfl rfl h
  · by_cases h2 : sgn s' p' < sgn s p
    · rw [k2 h2]; exact fcmp_gt s s' A B A' B' n c m d n' c' m' d' p p' i xs xs' w hx hx' pp pp' (by omega) _ _ rfl rfl h2
    · have e : sgn s p = sgn s' p' := by omega
      by_cases h3 : sgn s p < 0
      · rw [k3 e h3]; exact fcmp_neg s s' A B A' B' n c m d n' c' m' d' p q p' q' i xs ys xs' ys' w hx hy hx' hy' pp pq pp' pq' hi _ rfl e.symm h3 _ rfl (cmpI_range _ _)
      · rw [k4 e (by omega)]; exact fcmp_pos s s' A B A' B' n c m d n' c' m' d' p q p' q' i xs ys xs' ys' w hx hy hx' hy' pp pq pp' pq' hi _ rfl e.symm (by omega) _ rfl
end Go.Proofs.YtbllnkhbahenkaaGreatDoor
