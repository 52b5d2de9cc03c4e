/- The parts of a total as lists: no claim of its own. -/
import Derived.Test.YtbllnkhbahenkaaDoorABase
namespace Go.Proofs.YtbllnkhbahenkaaDoor
open MA
def wN (ws : List Int) (i : Nat) : Nat := (ws.getD i 0).toNat
theorem all_at {ws : List Int} (h : ws.all okW = true) {i : Nat} (hi : i < ws.length) : 0 ≤ ws[i] ∧ ws[i] ≤ 1000000 := by
  have := List.all_eq_true.1 h _ (List.getElem_mem hi)
  simpa [okW] using this
theorem getD_at {ws : List Int} {i : Nat} (hi : i < ws.length) : ws.getD i 0 = ws[i] := by simp [List.getD_eq_getElem?_getD, hi]
theorem wN_cast {ws : List Int} (h : ws.all okW = true) {i : Nat} (hi : i < ws.length) : (wN ws i : Int) = ws.getD i 0 := by
  have := all_at h hi
  unfold wN; rw [getD_at hi]; omega
theorem wN_le {ws : List Int} (h : ws.all okW = true) (i : Nat) : wN ws i ≤ 1000000 := by
  rcases Nat.lt_or_ge i ws.length with hi | hi
  · have := all_at h hi
    unfold wN; rw [getD_at hi]; omega
  · unfold wN; rw [List.getD_eq_getElem?_getD, List.getElem?_eq_none hi]; decide
theorem S_sum {ws : List Int} (h : ws.all okW = true) : ∀ k, k ≤ ws.length → ((S (wN ws) k : Nat) : Int) = (ws.take k).sum
  | 0, _ => by simp [S]
  | k + 1, hk => by
    have hk' : k < ws.length := hk
    simp only [S]
    have e := wN_cast h hk'
    rw [List.take_succ_eq_append_getElem hk', List.sum_append, ← S_sum h k (by omega)]
    rw [getD_at hk'] at e
    push_cast
    simp; omega
/-- The weights are amounts, not all 0; the total is an amount. -/
structure ShareIn (t : Int) (ws : List Int) : Prop where
  t0 : 0 ≤ t
  t1 : t ≤ 1000000
  ok : ws.all okW = true
  ne : ws.sum ≠ 0
section
variable {t : Int} {ws : List Int}
theorem ShareIn.sumN (h : ShareIn t ws) : S (wN ws) ws.length = ws.sum.toNat ∧ 0 ≤ ws.sum := by
  have := S_sum h.ok ws.length (Nat.le_refl _)
  rw [List.take_length] at this
  omega
theorem ShareIn.div (h : ShareIn t ws) : Div t.toNat (wN ws) ws.length ws.sum.toNat := ⟨h.sumN.1, by have := h.sumN.2; have := h.ne; omega⟩
theorem ShareIn.sum_le (h : ShareIn t ws) (hl : ws.length ≤ 40) : ws.sum.toNat ≤ 40000000 := by
  rw [← h.sumN.1]
  have := S_le (f := wN ws) (g := fun _ => 1000000) ws.length fun i _ => wN_le h.ok i
  rw [S_const] at this
  omega
theorem ShareIn.pos (h : ShareIn t ws) : 0 < ws.length := by
  rcases Nat.eq_zero_or_pos ws.length with e | e
  · exact absurd (by rw [List.eq_nil_of_length_eq_zero e]; rfl) h.ne
  · exact e
end
/-- The parts once j units have been given on; the parts. -/
def partsAt (t : Int) (ws : List Int) (j : Nat) : List Int := (List.range ws.length).map fun i => (MA.partAt t.toNat (wN ws) ws.length ws.sum.toNat j i : Int)
def parts (t : Int) (ws : List Int) : List Int := partsAt t ws (miss t.toNat (wN ws) ws.length ws.sum.toNat)
theorem partsAt_len (t : Int) (ws : List Int) (j : Nat) : (partsAt t ws j).length = ws.length := by simp [partsAt]
theorem partsAt_get (t : Int) (ws : List Int) (j : Nat) {i : Nat} (hi : i < ws.length) : (partsAt t ws j).getD i 0 = (MA.partAt t.toNat (wN ws) ws.length ws.sum.toNat j i : Int) := by
  simp [partsAt, List.getD_eq_getElem?_getD, hi]
/-- What Share answers. -/
def shareR (t : Int) (ws : List Int) : List Int × Int := if chk t = 0 then (if (sumR ws).2 = 0 then (parts t ws, 0) else ([], (sumR ws).2)) else ([], 4)
theorem shareR_bad {t : Int} (ws : List Int) (h : chk t ≠ 0) : shareR t ws = ([], 4) := by unfold shareR; rw [if_neg h]
theorem shareR_sum {t : Int} {ws : List Int} (h : chk t = 0) {e : Int} (he : (sumR ws).2 = e) (hne : e ≠ 0) : shareR t ws = ([], e) := by
  unfold shareR; rw [if_pos h, if_neg (by rw [he]; exact hne), he]
theorem shareR_ok {t : Int} {ws : List Int} (h : ShareIn t ws) : shareR t ws = (parts t ws, 0) := by
  have h1 : sumR ws = (ws.sum, 0) := by unfold sumR; rw [if_pos h.ok, if_neg h.ne]
  unfold shareR; rw [if_pos (chk_ok h.t0 h.t1), if_pos (by rw [h1])]
theorem sumR_zero {ws : List Int} (h : (sumR ws).2 = 0) : ws.all okW = true ∧ ws.sum ≠ 0 ∧ sumR ws = (ws.sum, 0) := by
  unfold sumR at h ⊢
  split at h
  · rename_i ha
    rw [if_pos ha]
    split at h
    · exact absurd h (by decide)
    · rename_i hs
      exact ⟨ha, hs, by rw [if_neg hs]⟩
  · exact absurd h (by decide)
theorem sumR_snd (ws : List Int) : (sumR ws).2 = 0 ∨ (sumR ws).2 = 4 ∨ (sumR ws).2 = 6 := by
  unfold sumR; split
  · split
    · exact .inr (.inr rfl)
    · exact .inl rfl
  · exact .inr (.inl rfl)
theorem shareIn_of {t : Int} {ws : List Int} (h : chk t = 0) (hs : (sumR ws).2 = 0) : ShareIn t ws := by
  obtain ⟨h1, h2, _⟩ := sumR_zero hs
  unfold chk at h
  split at h
  · rename_i hh; exact ⟨hh.1, hh.2, h1, h2⟩
  · exact absurd h (by decide)
end Go.Proofs.YtbllnkhbahenkaaDoor
