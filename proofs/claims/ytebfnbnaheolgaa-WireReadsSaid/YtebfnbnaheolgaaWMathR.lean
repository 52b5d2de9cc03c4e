/- What was read is an encoding: plain theorems, no claim of their own. -/
import Derived.Test.YtebfnbnaheolgaaWFracR
import Derived.Test.YtebfnbnaheolgaaWWalkTexts
namespace Go.Proofs.Ytebfnbnaheolgaa
open Go.RowKit
theorem uintS_back {l : List UInt8} {m x : Nat} {l' : List UInt8} (h : uintS l m = (x, l', 0)) : leb x ++ l' = l ∧ x ≤ m ∧ x < 18446744073709551616 := by
  have hm := uintS_le l m
  have hl := uintS_lt l m
  rw [h] at hm hl
  refine ⟨?_, hm, hl⟩
  obtain ⟨v, n, k, hd⟩ : ∃ v n k, decGo l 0 0 = (v, n, k) := ⟨_, _, _, rfl⟩
  by_cases hk : k = 0
  · subst hk
    by_cases hv : m < v
    · rw [uintS_most hd hv] at h; simp at h
    · rw [uintS_ok hd (by omega)] at h
      simp only [Prod.mk.injEq, and_true] at h
      obtain ⟨rfl, rfl⟩ := h
      obtain ⟨y, e1, _, _, e2, e3, _⟩ := decGo_back l 0 0 v n (by decide) hd
      rw [Nat.sub_zero] at e2
      have : v = y := by rw [e1]; simp
      rw [this, ← e2, List.take_append_drop]
  · rw [uintS_err hd hk] at h
    simp only [Prod.mk.injEq] at h
    exact absurd h.2.2 hk
theorem digS_back : ∀ (k : Nat) (l : List UInt8) (acc : List Nat) (xs : List Nat) (l' : List UInt8), digS k l acc = (xs, l', 0) → ∃ ds, xs = acc ++ ds ∧ ds.length = k ∧ ds.flatMap leb ++ l' = l
  | 0, l, acc, xs, l', h => by
    simp only [digS, Prod.mk.injEq, and_true] at h
    obtain ⟨rfl, rfl⟩ := h
    exact ⟨[], by simp, rfl, by simp⟩
  | k + 1, l, acc, xs, l', h => by
    rw [digS] at h
    obtain ⟨d, l1, e1, hu⟩ : ∃ d l1 e1, uintS l 4294967295 = (d, l1, e1) := ⟨_, _, _, rfl⟩
    rw [hu] at h
    by_cases he : e1 = 0
    · subst he
      rw [if_neg (fun h => h rfl)] at h
      obtain ⟨ds, h1, h2, h3⟩ := digS_back k l1 _ xs l' h
      obtain ⟨h4, _, _⟩ := uintS_back hu
      refine ⟨d :: ds, by rw [h1]; simp, by simp [h2], ?_⟩
      rw [List.flatMap_cons, List.append_assoc, h3, h4]
    · rw [if_pos he] at h
      simp only [Prod.mk.injEq] at h
      exact absurd h.2.2 he
theorem natS_back {l : List UInt8} {xs : List Nat} {l' : List UInt8} (h : natS l = (xs, l', 0)) : natEnc xs ++ l' = l := by
  obtain ⟨n, l1, e1, hu⟩ : ∃ n l1 e1, uintS l 2000 = (n, l1, e1) := ⟨_, _, _, rfl⟩
  unfold natS at h
  rw [hu] at h
  by_cases he : e1 = 0
  · subst he
    rw [if_neg (fun h => h rfl)] at h
    obtain ⟨ds, h1, h2, h3⟩ := digS_back _ _ _ _ _ h
    obtain ⟨h4, _, _⟩ := uintS_back hu
    rw [List.nil_append] at h1
    subst h1
    have h5 : xs.length = n := h2
    unfold natEnc
    rw [List.append_assoc, h3, h5, h4]
  · rw [if_pos he] at h
    simp only [Prod.mk.injEq] at h
    exact absurd h.2.2 he
theorem natS2_back {l : List UInt8} {e : Nat} {xs : List Nat} {l' : List UInt8} (h : natS2 (l, e) = (xs, l', 0)) : e = 0 ∧ natEnc xs ++ l' = l := by
  unfold natS2 at h
  by_cases he : e = 0
  · subst he
    rw [if_neg (fun h => h rfl)] at h
    exact ⟨rfl, natS_back h⟩
  · rw [if_pos he] at h
    simp only [Prod.mk.injEq] at h
    exact absurd h.2.2 he
theorem fracS_back {l : List UInt8} {s : Bool} {xs ys : List Nat} {l' : List UInt8} (h : fracS l = (s, xs, ys, l', 0)) : fracEnc s xs ys ++ l' = l := by
  obtain ⟨x0, l1, e1, h0⟩ : ∃ x0 l1 e1, uintS l 1 = (x0, l1, e1) := ⟨_, _, _, rfl⟩
  obtain ⟨us, l2, e2, h1⟩ : ∃ us l2 e2, natS2 (l1, e1) = (us, l2, e2) := ⟨_, _, _, rfl⟩
  obtain ⟨vs, l3, e3, h2⟩ : ∃ vs l3 e3, natS2 (l2, e2) = (vs, l3, e3) := ⟨_, _, _, rfl⟩
  simp only [fracS, h0, h1, h2, Prod.mk.injEq] at h
  obtain ⟨rfl, rfl, rfl, rfl, rfl⟩ := h
  obtain ⟨rfl, q2⟩ := natS2_back h2
  obtain ⟨rfl, q1⟩ := natS2_back h1
  obtain ⟨q0, q3, _⟩ := uintS_back h0
  have hs : sg (decide (x0 = 1)) = x0 := by
    rcases Nat.eq_zero_or_pos x0 with h | h
    · subst h; rfl
    · have : x0 = 1 := by omega
      subst this; rfl
  unfold fracEnc
  rw [hs, List.append_assoc, List.append_assoc, q2, q1, q0]
theorem textS_back {l : List UInt8} {m : Int} {t l' : List UInt8} (h : textS l m = (t, l', 0)) : leb t.length ++ t ++ l' = l := by
  obtain ⟨n, l1, e1, hu⟩ : ∃ n l1 e1, uintS l m.toNat = (n, l1, e1) := ⟨_, _, _, rfl⟩
  unfold textS at h
  rw [hu] at h
  by_cases he : e1 = 0
  · subst he
    rw [if_neg (fun h => h rfl)] at h
    by_cases hm : m < 0
    · rw [if_pos hm] at h; simp at h
    · rw [if_neg hm] at h
      by_cases hl : l1.length < n
      · rw [if_pos hl] at h; simp at h
      · rw [if_neg hl] at h
        simp only [Prod.mk.injEq, and_true] at h
        obtain ⟨rfl, rfl⟩ := h
        obtain ⟨h4, _, _⟩ := uintS_back hu
        rw [List.length_take, Nat.min_eq_left (by omega), List.append_assoc, List.take_append_drop, h4]
  · rw [if_pos he] at h
    simp only [Prod.mk.injEq] at h
    exact absurd h.2.2 he
theorem textS_len {l : List UInt8} {m : Int} : (textS l m).1.length ≤ l.length ∧ (textS l m).2.1.length ≤ l.length := by
  have h := uintS_len l m.toNat
  unfold textS
  split
  · simp
  · split
    · simp
    · split
      · simp
      · simp only [List.length_take, List.length_drop]
        omega
theorem textS_dead {l : List UInt8} {m : Int} (h : (textS l m).2.2 ≠ 0) : (textS l m).2.1 = [] := by
  unfold textS at h ⊢
  split
  · rfl
  · rename_i h1
    rw [if_neg h1] at h
    split
    · rfl
    · rename_i h2
      rw [if_neg h2] at h
      split
      · rfl
      · rename_i h3
        rw [if_neg h3] at h
        exact absurd rfl h
end Go.Proofs.Ytebfnbnaheolgaa
