/- MathFT, MathFV, MathF, MathFC, joined: no claim of its own. -/
import Derived.Test.YtbnillkihmooeaaMathVD
import Derived.Test.YtbnillkihmooeaaJVM
namespace Go.Proofs.Ytbnillkihmooeaa.VV
open MB (at_)
/-- The greatest value of what is within a bundle; of what is within it and another one. -/
def upT (f : List Int → Int) (b : List Int) : Int := supL ((all b).map f)
def subT (f : List Int → Int) (b : List Int) : Int := supL (((all b).filter fun d => d ≠ b).map f)
theorem le_upT {f : List Int → Int} {b d : List Int} (hb : Bu b) (hd : Bu d) (h : Le d b) : f d ≤ upT f b := le_supL (List.mem_map.2 ⟨d, (all_mem hb).2 ⟨hd, h⟩, rfl⟩)
theorem le_subT {f : List Int → Int} {b d : List Int} (hb : Bu b) (hd : Bu d) (h : Le d b) (hne : d ≠ b) : f d ≤ subT f b :=
  le_supL (List.mem_map.2 ⟨d, List.mem_filter.2 ⟨(all_mem hb).2 ⟨hd, h⟩, by simpa using hne⟩, rfl⟩)
theorem upT_le {f : List Int → Int} {b : List Int} {m : Int} (hb : Bu b) (h0 : 0 ≤ m) (h : ∀ d, Bu d → Le d b → f d ≤ m) : upT f b ≤ m := supL_le h0 fun v hv => by
  obtain ⟨d, hd, rfl⟩ := List.mem_map.1 hv
  exact h d ((all_mem hb).1 hd).1 ((all_mem hb).1 hd).2
theorem subT_le {f : List Int → Int} {b : List Int} {m : Int} (hb : Bu b) (h0 : 0 ≤ m) (h : ∀ d, Bu d → Le d b → d ≠ b → f d ≤ m) : subT f b ≤ m := supL_le h0 fun v hv => by
  obtain ⟨d, hd, rfl⟩ := List.mem_map.1 hv
  obtain ⟨h1, h2⟩ := List.mem_filter.1 hd
  exact h d ((all_mem hb).1 h1).1 ((all_mem hb).1 h1).2 (by simpa using h2)
theorem upT_nonneg (f : List Int → Int) (b : List Int) : 0 ≤ upT f b := supL_nonneg _
theorem subT_nonneg (f : List Int → Int) (b : List Int) : 0 ≤ subT f b := supL_nonneg _
/-- What the program keeps: the value, or what lies below. -/
theorem upT_sub {f : List Int → Int} {b : List Int} (hb : Bu b) : upT f b = max (f b) (subT f b) := by
  have h1 := le_upT (f := f) hb hb (Le.refl b)
  have h2 : subT f b ≤ upT f b := subT_le hb (upT_nonneg f b) fun d hd hl _ => le_upT hb hd hl
  have h3 : upT f b ≤ max (f b) (subT f b) := upT_le hb (by have := subT_nonneg f b; omega) fun d hd hl => by
    by_cases e : d = b
    · rw [e]; omega
    · have := le_subT (f := f) hb hd hl e; omega
  omega
theorem below_at {b : List Int} {k j : Nat} (hj : j < 6) : at_ (below b k) j = if j = k then max 0 (at_ b j - 1) else at_ b j := by unfold below; rw [six_at _ hj]
/-- The first i units less. -/
def mbT (g : List Int → Int) (b : List Int) : Nat → Int
  | 0 => 0
  | i + 1 => if 0 < at_ b i then max (mbT g b i) (g (below b i)) else mbT g b i
theorem mbT_nonneg (g : List Int → Int) (b : List Int) : ∀ i, 0 ≤ mbT g b i
  | 0 => Int.le_refl _
  | i + 1 => by
    have := mbT_nonneg g b i
    unfold mbT
    split <;> omega
theorem le_mbT {g : List Int → Int} {b : List Int} {k : Nat} (hk : 0 < at_ b k) : ∀ {i : Nat}, k < i → g (below b k) ≤ mbT g b i
  | 0, h => absurd h (Nat.not_lt_zero _)
  | i + 1, h => by
    unfold mbT
    by_cases e : k = i
    · subst e; rw [if_pos hk]; omega
    · have := le_mbT (g := g) hk (i := i) (by omega)
      split <;> omega
theorem mbT_le {g : List Int → Int} {b : List Int} {m : Int} (h0 : 0 ≤ m) (h : ∀ k, k < 6 → 0 < at_ b k → g (below b k) ≤ m) : ∀ i, i ≤ 6 → mbT g b i ≤ m
  | 0, _ => h0
  | i + 1, hi => by
    have h1 := mbT_le h0 h i (by omega)
    unfold mbT
    split
    · rename_i hp
      have := h i (by omega) hp
      omega
    · exact h1
theorem le_below {b d : List Int} (hd : Bu d) (h : Le d b) {k : Nat} (_hk : k < 6) (hlt : at_ d k < at_ b k) : Le d (below b k) := fun j hj => by
  rw [below_at hj]
  have h1 := h j hj
  have h2 := hd.pos j hj
  by_cases e : j = k
  · rw [if_pos e]; subst e; omega
  · rw [if_neg e]; exact h1
/-- The program's way. -/
theorem subT_mb {f : List Int → Int} {b : List Int} (hb : Bu b) : subT f b = mbT (upT f) b 6 := by
  apply Int.le_antisymm
  · refine subT_le hb (mbT_nonneg _ _ _) fun d hd hl hne => ?_
    obtain ⟨k, hk, hlt⟩ : ∃ k, k < 6 ∧ at_ d k < at_ b k := by
      by_cases hq : ∃ k, k < 6 ∧ at_ d k < at_ b k
      · exact hq
      · refine absurd (MB.ext6 hd.len hb.len fun j hj => ?_) hne
        have h1 := hl j hj
        have h2 : ¬ at_ d j < at_ b j := fun h => hq ⟨j, hj, h⟩
        omega
    have h1 := le_upT (f := f) (below_bu hb k).1 hd (le_below hd hl hk hlt)
    have h2 := le_mbT (g := upT f) (b := b) (k := k) (by have := hd.pos k hk; omega) (i := 6) hk
    omega
  · refine mbT_le (subT_nonneg _ _) (fun k hk hp => upT_le (below_bu hb k).1 (subT_nonneg _ _) fun d hd hl => ?_) 6 (Nat.le_refl _)
    refine le_subT hb hd (hl.trans (below_bu hb k).2) fun e => ?_
    have := hl k hk
    rw [below_at hk, if_pos rfl, e] at this
    omega
end Go.Proofs.Ytbnillkihmooeaa.VV
namespace Go.Proofs.Ytbnillkihmooeaa.VV
open MB (at_)
end Go.Proofs.Ytbnillkihmooeaa.VV
namespace Go.Proofs.Ytbnillkihmooeaa.MF
/-- An offer. -/
structure Of where
  bidder : Int
  b0 : Int
  b1 : Int
  b2 : Int
  b3 : Int
  b4 : Int
  b5 : Int
  value : Int
  deriving DecidableEq
def Of.want (p : Of) : List Int := [p.b0, p.b1, p.b2, p.b3, p.b4, p.b5]
/-- The offers as steps. -/
def stp (L : List Of) : VV.St := L.map fun p => (p.want, p.value)
theorem stp_at {L : List Of} {k : Nat} {p : Of} (h : L[k]? = some p) : (stp L)[k]? = some (p.want, p.value) := by unfold stp; rw [List.getElem?_map, h]; rfl
/-- An offer is as good as another one: of the same bidder, at least as much for no other units. -/
def good (a b : Of) : Bool := decide (a.bidder = b.bidder) && decide (b.value ≤ a.value) && VV.leB a.want b.want
end Go.Proofs.Ytbnillkihmooeaa.MF
namespace Go.Proofs.Ytbnillkihmooeaa.MF
theorem good_iff {a b : Of} : good a b = true ↔ a.bidder = b.bidder ∧ b.value ≤ a.value ∧ VV.Le a.want b.want := by
  unfold good
  rw [Bool.and_eq_true, Bool.and_eq_true, decide_eq_true_eq, decide_eq_true_eq, VV.leB_iff, and_assoc]
theorem good_refl (a : Of) : good a a = true := good_iff.2 ⟨rfl, Int.le_refl _, VV.Le.refl _⟩
theorem good_trans {a b c : Of} (h : good a b = true) (h2 : good b c = true) : good a c = true := by
  obtain ⟨p1, p2, p3⟩ := good_iff.1 h
  obtain ⟨q1, q2, q3⟩ := good_iff.1 h2
  exact good_iff.2 ⟨p1.trans q1, by omega, p3.trans q3⟩
theorem good_anti {a b : Of} (h : good a b = true) (h2 : good b a = true) : a = b := by
  obtain ⟨p1, p2, p3⟩ := good_iff.1 h
  obtain ⟨_, q2, q3⟩ := good_iff.1 h2
  obtain ⟨ai, a0, a1, a2, a3, a4, a5, av⟩ := a
  obtain ⟨bi, b0, b1, b2, b3, b4, b5, bv⟩ := b
  have e : ∀ j, j < 6 → MB.at_ [a0, a1, a2, a3, a4, a5] j = MB.at_ [b0, b1, b2, b3, b4, b5] j := fun j hj => Int.le_antisymm (p3 j hj) (q3 j hj)
  have e2 := MB.ext6 (a := [a0, a1, a2, a3, a4, a5]) (b := [b0, b1, b2, b3, b4, b5]) rfl rfl e
  injection e2 with z0 e2
  injection e2 with z1 e2
  injection e2 with z2 e2
  injection e2 with z3 e2
  injection e2 with z4 e2
  injection e2 with z5 _
  dsimp only at p1 p2 q2
  subst p1 z0 z1 z2 z3 z4 z5
  have : av = bv := by omega
  rw [this]
/-- One offer more. -/
def stepC (kept : List Of) (o : Of) : List Of := if decide (o.value < 1) || kept.any (fun e => good e o) then kept else (kept.filter fun e => !good o e) ++ [o]
def cleanL (l : List Of) : List Of := l.foldl stepC []
/-- The offer at i is dominated by the one at k. -/
def dom (l : List Of) (i k : Nat) : Prop := i ≠ k ∧ ∃ a b, l[i]? = some a ∧ l[k]? = some b ∧ good b a = true ∧ (a ≠ b ∨ k < i)
def Keep (l : List Of) (i : Nat) : Prop := ∃ a, l[i]? = some a ∧ 1 ≤ a.value ∧ ∀ k, ¬ dom l i k
theorem get_snoc {l : List Of} {o a : Of} {i : Nat} (h : (l ++ [o])[i]? = some a) : (i < l.length ∧ l[i]? = some a) ∨ (i = l.length ∧ a = o) := by
  by_cases hi : i < l.length
  · rw [List.getElem?_append_left hi] at h; exact .inl ⟨hi, h⟩
  · rw [List.getElem?_append_right (by omega)] at h
    have hz : i - l.length = 0 := by
      have := (List.getElem?_eq_some_iff.1 h).1
      simp at this; omega
    rw [hz] at h
    exact .inr ⟨by omega, by simpa using h.symm⟩
theorem get_old {l : List Of} {o a : Of} {i : Nat} (h : l[i]? = some a) : (l ++ [o])[i]? = some a := by
  rw [List.getElem?_append_left (List.getElem?_eq_some_iff.1 h).1]; exact h
theorem get_new (l : List Of) (o : Of) : (l ++ [o])[l.length]? = some o := by simp
theorem dom_old {l : List Of} {o : Of} {i k : Nat} (hi : i < l.length) (hk : k < l.length) : dom (l ++ [o]) i k ↔ dom l i k := by
  unfold dom
  rw [List.getElem?_append_left hi, List.getElem?_append_left hk]
/-- An old offer stays kept, where the new one does not dominate it. -/
theorem keep_old {l : List Of} {o a : Of} {i : Nat} (ha : l[i]? = some a) : Keep (l ++ [o]) i ↔ Keep l i ∧ ¬ (good o a = true ∧ a ≠ o) := by
  have hi := (List.getElem?_eq_some_iff.1 ha).1
  constructor
  · rintro ⟨a', h1, h2, h3⟩
    rw [List.getElem?_append_left hi, ha] at h1
    injection h1 with h1
    subst h1
    refine ⟨⟨a, ha, h2, fun k hd => ?_⟩, fun hg => h3 l.length ⟨by omega, a, o, get_old ha, get_new l o, hg.1, .inl hg.2⟩⟩
    obtain ⟨_, _, b, _, hb, _⟩ := id hd
    exact h3 k ((dom_old hi (List.getElem?_eq_some_iff.1 hb).1).2 hd)
  · rintro ⟨⟨a', h1, h2, h3⟩, h4⟩
    rw [ha] at h1
    injection h1 with h1
    subst h1
    refine ⟨a, get_old ha, h2, fun k hd => ?_⟩
    obtain ⟨hne, a', b, e1, e2, hg, hq⟩ := id hd
    rw [get_old ha] at e1
    injection e1 with e1
    subst e1
    rcases get_snoc e2 with ⟨hk, _⟩ | ⟨rfl, rfl⟩
    · exact h3 k ((dom_old hi hk).1 hd)
    · exact h4 ⟨hg, hq.resolve_right (by omega)⟩
/-- The new one is kept, where nothing as good came before. -/
theorem keep_new {l : List Of} {o : Of} : Keep (l ++ [o]) l.length ↔ 1 ≤ o.value ∧ ∀ e ∈ l, ¬ good e o = true := by
  constructor
  · rintro ⟨a, h1, h2, h3⟩
    rw [get_new] at h1
    injection h1 with h1
    subst h1
    refine ⟨h2, fun e he hg => ?_⟩
    obtain ⟨k, hk⟩ := List.mem_iff_getElem?.1 he
    have := (List.getElem?_eq_some_iff.1 hk).1
    exact h3 k ⟨by omega, o, e, get_new l o, get_old hk, hg, .inr this⟩
  · rintro ⟨h1, h2⟩
    refine ⟨o, get_new l o, h1, fun k hd => ?_⟩
    obtain ⟨hne, a, b, e1, e2, hg, _⟩ := hd
    rw [get_new] at e1
    injection e1 with e1
    subst e1
    rcases get_snoc e2 with ⟨_, hb⟩ | ⟨hk, _⟩
    · exact h2 b (List.mem_of_getElem? hb) hg
    · exact hne hk.symm
theorem fm_congr {α β : Type} {f g : α → Option β} : ∀ {l : List α}, (∀ x ∈ l, f x = g x) → l.filterMap f = l.filterMap g
  | [], _ => rfl
  | x :: _r, h => by rw [List.filterMap_cons, List.filterMap_cons, h x List.mem_cons_self, fm_congr fun y hy => h y (List.mem_cons_of_mem _ hy)]
open Classical in
/-- What the reference keeps of the first n offers. -/
noncomputable def refC (l : List Of) (n : Nat) : List Of := (List.range n).filterMap fun i => if Keep l i then l[i]? else none
theorem refC_mem {l : List Of} {n : Nat} {e : Of} : e ∈ refC l n ↔ ∃ i, i < n ∧ Keep l i ∧ l[i]? = some e := by
  unfold refC
  rw [List.mem_filterMap]
  constructor
  · rintro ⟨i, hi, h⟩
    split at h
    · rename_i hk; exact ⟨i, List.mem_range.1 hi, hk, h⟩
    · cases h
  · rintro ⟨i, hi, hk, h⟩
    exact ⟨i, List.mem_range.2 hi, by rw [if_pos hk]; exact h⟩
theorem refC_pos {l : List Of} {n : Nat} {e : Of} (h : e ∈ refC l n) : 1 ≤ e.value := by
  obtain ⟨i, _, ⟨a, h1, h2, _⟩, h3⟩ := refC_mem.1 h
  rw [h3] at h1; injection h1 with h1; rw [h1]; exact h2
open Classical in
theorem refC_snoc (l : List Of) (o : Of) : refC (l ++ [o]) (l ++ [o]).length = ((refC l l.length).filter fun e => !(good o e && decide (e ≠ o))) ++ (if Keep (l ++ [o]) l.length then [o] else []) := by
  have e0 : (l ++ [o]).length = l.length + 1 := by simp
  rw [e0]
  unfold refC
  rw [List.range_succ, List.filterMap_append, List.filter_filterMap]
  congr 1
  · apply fm_congr
    intro i hi
    have hi' := List.mem_range.1 hi
    have ha : l[i]? = some l[i] := List.getElem?_eq_getElem hi'
    rw [get_old ha, ha]
    by_cases h1 : Keep l i
    · rw [if_pos h1]
      by_cases h2 : good o l[i] = true ∧ l[i] ≠ o
      · rw [if_neg (fun h => ((keep_old ha).1 h).2 h2)]
        have : (good o l[i] && decide (l[i] ≠ o)) = true := by rw [h2.1, decide_eq_true h2.2]; rfl
        simp only [Option.filter, this, Bool.not_true, Bool.false_eq_true, if_false]
      · rw [if_pos ((keep_old ha).2 ⟨h1, h2⟩)]
        have : (good o l[i] && decide (l[i] ≠ o)) = false := by
          cases hg : good o l[i] with
          | false => rfl
          | true => simp only [Bool.true_and, decide_eq_false_iff_not]; exact fun hne => h2 ⟨hg, hne⟩
        simp only [Option.filter, this, Bool.not_false, if_true]
    · rw [if_neg h1, if_neg (fun h => h1 ((keep_old ha).1 h).1)]; rfl
  · by_cases h : Keep (l ++ [o]) l.length
    · rw [if_pos h]; simp [h]
    · rw [if_neg h]; simp [h]
/-- The program keeps what the reference keeps; what goes has one as good that stays. -/
theorem clean_ref : ∀ (n : Nat) (l : List Of), l.length = n → cleanL l = refC l l.length ∧ ∀ x ∈ l, 1 ≤ x.value → ∃ e ∈ refC l l.length, good e x = true
  | 0, l, h => by
    obtain rfl : l = [] := List.eq_nil_of_length_eq_zero h
    exact ⟨rfl, fun x hx => by cases hx⟩
  | n + 1, l', h => by
    obtain ⟨l, o, rfl⟩ : ∃ l o, l' = l ++ [o] := ⟨l'.dropLast, l'.getLast (by intro e; rw [e] at h; cases h), (List.dropLast_concat_getLast _).symm⟩
    obtain ⟨h1, h2⟩ := clean_ref n l (by simpa using h)
    have hc : cleanL (l ++ [o]) = stepC (cleanL l) o := by unfold cleanL; rw [List.foldl_append]; rfl
    rw [hc, h1, refC_snoc]
    by_cases hv : o.value < 1
    · have hk : ¬ Keep (l ++ [o]) l.length := fun h => by have := (keep_new.1 h).1; omega
      have hf : (refC l l.length).filter (fun e => !(good o e && decide (e ≠ o))) = refC l l.length := by
        rw [List.filter_eq_self]
        intro e he
        have := refC_pos he
        have : good o e = false := by
          cases hg : good o e with
          | false => rfl
          | true => have := (good_iff.1 hg).2.1; omega
        rw [this]; rfl
      rw [if_neg hk, hf, List.append_nil]
      refine ⟨by unfold stepC; rw [if_pos (by simp [hv])], fun x hx hx1 => ?_⟩
      rcases List.mem_append.1 hx with hx | hx
      · exact h2 x hx hx1
      · rw [List.mem_singleton.1 hx] at hx1; omega
    · by_cases ha : ∃ e ∈ refC l l.length, good e o = true
      · obtain ⟨e, he, hg⟩ := ha
        obtain ⟨k, hkn, hkk, hke⟩ := refC_mem.1 he
        have hk : ¬ Keep (l ++ [o]) l.length := fun h => (keep_new.1 h).2 e (List.mem_of_getElem? hke) hg
        have hf : (refC l l.length).filter (fun e => !(good o e && decide (e ≠ o))) = refC l l.length := by
          rw [List.filter_eq_self]
          intro x hx
          obtain ⟨i, hin, ⟨a, hia, _, hnd⟩, hix⟩ := refC_mem.1 hx
          have hn : ¬ (good o x = true ∧ x ≠ o) := fun q => by
            by_cases ex : x = e
            · exact q.2 (good_anti (by rw [ex]; exact hg) q.1)
            · refine hnd k ⟨fun eik => ?_, x, e, hix, hke, good_trans hg q.1, .inl ex⟩
              rw [eik, hke] at hix
              injection hix with hix
              exact ex hix.symm
          cases hgx : good o x with
          | false => rfl
          | true => simp only [Bool.true_and, Bool.not_eq_true', decide_eq_false_iff_not]; exact fun hne => hn ⟨hgx, hne⟩
        rw [if_neg hk, hf, List.append_nil]
        refine ⟨by unfold stepC; rw [if_pos (by rw [Bool.or_eq_true, List.any_eq_true]; exact .inr ⟨e, he, hg⟩)], fun x hx hx1 => ?_⟩
        rcases List.mem_append.1 hx with hx | hx
        · exact h2 x hx hx1
        · rw [List.mem_singleton.1 hx]; exact ⟨e, he, hg⟩
      · have hk : Keep (l ++ [o]) l.length := keep_new.2 ⟨by omega, fun e he hg => by
          obtain ⟨e', he', hg'⟩ := h2 e he (by have := (good_iff.1 hg).2.1; omega)
          exact ha ⟨e', he', good_trans hg' hg⟩⟩
        have hf : (refC l l.length).filter (fun e => !(good o e && decide (e ≠ o))) = (refC l l.length).filter (fun e => !good o e) := by
          apply List.filter_congr
          intro e he
          have : decide (e ≠ o) = true := decide_eq_true (fun q => ha ⟨e, he, by rw [q]; exact good_refl o⟩)
          rw [this, Bool.and_true]
        rw [if_pos hk, hf]
        refine ⟨by
          unfold stepC
          rw [if_neg]
          rw [Bool.or_eq_true, decide_eq_true_eq, List.any_eq_true]
          exact fun q => q.elim hv fun ⟨e, he, hg⟩ => ha ⟨e, he, hg⟩, fun x hx hx1 => ?_⟩
        rcases List.mem_append.1 hx with hx | hx
        · obtain ⟨e, he, hg⟩ := h2 x hx hx1
          by_cases hr : good o e = true
          · exact ⟨o, List.mem_append_right _ (List.mem_singleton.2 rfl), good_trans hr hg⟩
          · exact ⟨e, List.mem_append_left _ (List.mem_filter.2 ⟨he, by simpa using hr⟩), hg⟩
        · rw [List.mem_singleton.1 hx]
          exact ⟨o, List.mem_append_right _ (List.mem_singleton.2 rfl), good_refl o⟩
end Go.Proofs.Ytbnillkihmooeaa.MF
