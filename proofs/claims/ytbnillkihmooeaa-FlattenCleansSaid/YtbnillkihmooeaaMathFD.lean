/- Clean: twice is once; what it keeps has the same values. No claim of its own. -/
import Derived.Test.YtbnillkihmooeaaJFM
namespace Go.Proofs.Ytbnillkihmooeaa.MF
/-- None of two is as good as the other. -/
def Apart (a b : Of) : Prop := good a b = false ∧ good b a = false
theorem stepC_self {kept : List Of} {o : Of} (hv : 1 ≤ o.value) (h : ∀ e ∈ kept, Apart e o) : stepC kept o = kept ++ [o] := by
  unfold stepC
  have h1 : kept.any (fun e => good e o) = false := by
    rw [List.any_eq_false]; intro e he; rw [(h e he).1]; decide
  have h2 : kept.filter (fun e => !good o e) = kept := by
    rw [List.filter_eq_self]; intro e he; rw [(h e he).2]; rfl
  rw [h1, decide_eq_false (show ¬ o.value < 1 by omega), h2]
  rfl
theorem clean_self : ∀ (n : Nat) (l : List Of), l.length = n → l.Pairwise Apart → (∀ x ∈ l, 1 ≤ x.value) → cleanL l = l
  | 0, l, h, _, _ => by
    obtain rfl : l = [] := List.eq_nil_of_length_eq_zero h
    rfl
  | n + 1, l', h, hp, hv => by
    obtain ⟨l, o, rfl⟩ : ∃ l o, l' = l ++ [o] := ⟨l'.dropLast, l'.getLast (by intro e; rw [e] at h; cases h), (List.dropLast_concat_getLast _).symm⟩
    obtain ⟨h1, _, h3⟩ := List.pairwise_append.1 hp
    have ih := clean_self n l (by simpa using h) h1 (fun x hx => hv x (List.mem_append_left _ hx))
    have : cleanL (l ++ [o]) = stepC (cleanL l) o := by unfold cleanL; rw [List.foldl_append]; rfl
    rw [this, ih]
    exact stepC_self (hv o (by simp)) (fun e he => h3 e he o (by simp))
theorem clean_apart : ∀ (n : Nat) (l : List Of), l.length = n → (cleanL l).Pairwise Apart ∧ ∀ x ∈ cleanL l, 1 ≤ x.value
  | 0, l, h => by
    obtain rfl : l = [] := List.eq_nil_of_length_eq_zero h
    exact ⟨List.Pairwise.nil, fun x hx => by cases hx⟩
  | n + 1, l', h => by
    obtain ⟨l, o, rfl⟩ : ∃ l o, l' = l ++ [o] := ⟨l'.dropLast, l'.getLast (by intro e; rw [e] at h; cases h), (List.dropLast_concat_getLast _).symm⟩
    obtain ⟨h1, h2⟩ := clean_apart n l (by simpa using h)
    have e : cleanL (l ++ [o]) = stepC (cleanL l) o := by unfold cleanL; rw [List.foldl_append]; rfl
    rw [e]
    unfold stepC
    by_cases hc : (decide (o.value < 1) || (cleanL l).any fun e => good e o) = true
    · rw [if_pos hc]; exact ⟨h1, h2⟩
    · rw [if_neg hc]
      rw [Bool.or_eq_true, decide_eq_true_eq, List.any_eq_true] at hc
      constructor
      · refine List.pairwise_append.2 ⟨h1.sublist List.filter_sublist, List.pairwise_singleton _ _, fun a ha b hb => ?_⟩
        rw [List.mem_singleton.1 hb]
        obtain ⟨ha1, ha2⟩ := List.mem_filter.1 ha
        refine ⟨?_, by simpa using ha2⟩
        cases hg : good a o with
        | false => rfl
        | true => exact absurd (.inr ⟨a, ha1, hg⟩) hc
      · intro x hx
        rcases List.mem_append.1 hx with hx | hx
        · exact h2 x (List.mem_filter.1 hx).1
        · rw [List.mem_singleton.1 hx]
          by_cases hv : o.value < 1
          · exact absurd (.inl hv) hc
          · omega
theorem clean_twice (l : List Of) : cleanL (cleanL l) = cleanL l := clean_self _ _ rfl (clean_apart _ l rfl).1 (clean_apart _ l rfl).2
/-- The offers of a bidder. -/
def ofBid (z : Int) (l : List Of) : List Of := l.filter fun p => decide (p.bidder = z)
theorem clean_worth (l : List Of) (z : Int) (b : List Int) : VV.worth (stp (ofBid z (cleanL l))) b = VV.worth (stp (ofBid z l)) b := by
  obtain ⟨h1, h2⟩ := clean_ref l.length l rfl
  apply Int.le_antisymm
  · refine VV.worth_le (VV.worth_nonneg _ _) fun p hp hpb => ?_
    unfold stp at hp
    obtain ⟨q, hq, rfl⟩ := List.mem_map.1 hp
    obtain ⟨hq1, hq2⟩ := List.mem_filter.1 hq
    rw [h1] at hq1
    obtain ⟨i, _, _, hi⟩ := refC_mem.1 hq1
    refine VV.le_worth (s := (q.want, q.value)) ?_ hpb
    unfold stp
    exact List.mem_map.2 ⟨q, List.mem_filter.2 ⟨List.mem_of_getElem? hi, hq2⟩, rfl⟩
  · refine VV.worth_le (VV.worth_nonneg _ _) fun p hp hpb => ?_
    unfold stp at hp
    obtain ⟨q, hq, rfl⟩ := List.mem_map.1 hp
    obtain ⟨hq1, hq2⟩ := List.mem_filter.1 hq
    dsimp only at hpb ⊢
    by_cases hv : 1 ≤ q.value
    · obtain ⟨e, he, hg⟩ := h2 q hq1 hv
      obtain ⟨g1, g2, g3⟩ := good_iff.1 hg
      have := VV.le_worth (S := stp (ofBid z (cleanL l))) (s := (e.want, e.value)) (x := b) (by
        unfold stp
        refine List.mem_map.2 ⟨e, List.mem_filter.2 ⟨by rw [h1]; exact he, ?_⟩, rfl⟩
        rw [g1]; exact hq2) (g3.trans hpb)
      dsimp only at this
      omega
    · have := VV.worth_nonneg (stp (ofBid z (cleanL l))) b
      omega
theorem ofBid_yes {z : Int} {l : List Of} {k : Nat} {p : Of} (h : l[k]? = some p) (hz : p.bidder = z) : ofBid z (l.take (k + 1)) = ofBid z (l.take k) ++ [p] := by
  obtain ⟨hq, e⟩ := List.getElem?_eq_some_iff.1 h
  unfold ofBid
  rw [List.take_succ_eq_append_getElem hq, List.filter_append, e]
  simp [hz]
theorem ofBid_no {z : Int} {l : List Of} {k : Nat} {p : Of} (h : l[k]? = some p) (hz : p.bidder ≠ z) : ofBid z (l.take (k + 1)) = ofBid z (l.take k) := by
  obtain ⟨hq, e⟩ := List.getElem?_eq_some_iff.1 h
  unfold ofBid
  rw [List.take_succ_eq_append_getElem hq, List.filter_append, e]
  simp [hz]
theorem ofBid_len (z : Int) (l : List Of) (k : Nat) : (ofBid z (l.take k)).length ≤ k := by
  unfold ofBid
  exact Nat.le_trans (List.length_filter_le _ _) (List.length_take_le _ _)
end Go.Proofs.Ytbnillkihmooeaa.MF
