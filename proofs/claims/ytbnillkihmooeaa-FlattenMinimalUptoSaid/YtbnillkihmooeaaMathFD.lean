/- Clean: twice is once; what it keeps has the same values. No claim of its own. -/
import Derived.Test.YtbnillkihmooeaaJFM
namespace Go.Proofs.Ytbnillkihmooeaa.MF
/-- None of two is as good as the other. -/
def Apart (a b : Of) : Prop := good a b = false ∧ good b a = false
theorem stepC_self {kept : List Of} {o : Of} (hv : 1 ≤ o.value) (h : ∀ e ∈ kept, Apart e o) : stepC kept o = kept ++ [o] := by
  unfold stepC
  have h1 : kept.any (fun e => good e o) = false := by
    rw [List.any_eq_false]; intro e he; rw [(h e he).1]; decide
  have h2 : kept.filter (fun e => !good o e) = kept := by
    rw [List.filter_eq_self]; intro e he; rw [(h e he).2]; rfl
  rw [h1, decide_eq_false (show ¬ o.value < 1 by omega), h2]
  rfl
theorem clean_self : ∀ (n : Nat) (l : List Of), l.length = n → l.Pairwise Apart → (∀ x ∈ l, 1 ≤ x.value) → cleanL l = l
  | 0, l, h, _, _ => by
    obtain rfl : l = [] := List.eq_nil_of_length_eq_zero h
    rfl
  | n + 1, l', h, hp, hv => by
    obtain ⟨l, o, rfl⟩ : ∃ l o, l' = l ++ [o] := ⟨l'.dropLast, l'.getLast (by intro e; rw [e] at h; cases h), (List.dropLast_concat_getLast _).symm⟩
    obtain ⟨h1, _, h3⟩ := List.pairwise_append.1 hp
    have ih := clean_self n l (by simpa using h) h1 (fun x hx => hv x (List.mem_append_left _ hx))
    have : cleanL (l ++ [o]) = stepC (cleanL l) o := by unfold cleanL; rw [List.foldl_append]; rfl
    rw [this, ih]
    exact stepC_self (hv o (by simp)) (fun e he => h3 e he o (by simp))
end Go.Proofs.Ytbnillkihmooeaa.MF
