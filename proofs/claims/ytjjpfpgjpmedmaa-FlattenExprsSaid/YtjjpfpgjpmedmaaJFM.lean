/- MathFT, MathFV, MathF, MathFC, MathFD, joined: no claim of its own. -/
import Derived.Test.YtjjpfpgjpmedmaaMathVD
import Derived.Test.YtjjpfpgjpmedmaaJVM
namespace Go.Proofs.Ytjjpfpgjpmedmaa.VV
open MB (at_)
/-- The greatest value of what is within a bundle; of what is within it and another one. -/
def upT (f : List Int → Int) (b : List Int) : Int := supL ((all b).map f)
def subT (f : List Int → Int) (b : List Int) : Int := supL (((all b).filter fun d => d ≠ b).map f)
theorem le_upT {f : List Int → Int} {b d : List Int} (hb : Bu b) (hd : Bu d) (h : Le d b) : f d ≤ upT f b := le_supL (List.mem_map.2 ⟨d, (all_mem hb).2 ⟨hd, h⟩, rfl⟩)
theorem le_subT {f : List Int → Int} {b d : List Int} (hb : Bu b) (hd : Bu d) (h : Le d b) (hne : d ≠ b) : f d ≤ subT f b :=
  le_supL (List.mem_map.2 ⟨d, List.mem_filter.2 ⟨(all_mem hb).2 ⟨hd, h⟩, by simpa using hne⟩, rfl⟩)
theorem upT_le {f : List Int → Int} {b : List Int} {m : Int} (hb : Bu b) (h0 : 0 ≤ m) (h : ∀ d, Bu d → Le d b → f d ≤ m) : upT f b ≤ m := supL_le h0 fun v hv => by
  obtain ⟨d, hd, rfl⟩ := List.mem_map.1 hv
  exact h d ((all_mem hb).1 hd).1 ((all_mem hb).1 hd).2
theorem subT_le {f : List Int → Int} {b : List Int} {m : Int} (hb : Bu b) (h0 : 0 ≤ m) (h : ∀ d, Bu d → Le d b → d ≠ b → f d ≤ m) : subT f b ≤ m := supL_le h0 fun v hv => by
  obtain ⟨d, hd, rfl⟩ := List.mem_map.1 hv
  obtain ⟨h1, h2⟩ := List.mem_filter.1 hd
  exact h d ((all_mem hb).1 h1).1 ((all_mem hb).1 h1).2 (by simpa using h2)
theorem upT_nonneg (f : List Int → Int) (b : List Int) : 0 ≤ upT f b := supL_nonneg _
theorem subT_nonneg (f : List Int → Int) (b : List Int) : 0 ≤ subT f b := supL_nonneg _
/-- What the program keeps: the value, or what lies below. -/
theorem upT_sub {f : List Int → Int} {b : List Int} (hb : Bu b) : upT f b = max (f b) (subT f b) := by
  have h1 := le_upT (f := f) hb hb (Le.refl b)
  have h2 : subT f b ≤ upT f b := subT_le hb (upT_nonneg f b) fun d hd hl _ => le_upT hb hd hl
  have h3 : upT f b ≤ max (f b) (subT f b) := upT_le hb (by have := subT_nonneg f b; omega) fun d hd hl => by
    by_cases e : d = b
    · rw [e]; omega
    · have := le_subT (f := f) hb hd hl e; omega
  omega
theorem below_at {b : List Int} {k j : Nat} (hj : j < 6) : at_ (below b k) j = if j = k then max 0 (at_ b j - 1) else at_ b j := by unfold below; rw [six_at _ hj]
/-- The first i units less. -/
def mbT (g : List Int → Int) (b : List Int) : Nat → Int
  | 0 => 0
  | i + 1 => if 0 < at_ b i then max (mbT g b i) (g (below b i)) else mbT g b i
theorem mbT_nonneg (g : List Int → Int) (b : List Int) : ∀ i, 0 ≤ mbT g b i
  | 0 => Int.le_refl _
  | i + 1 => by
    have := mbT_nonneg g b i
    unfold mbT
    split <;> omega
theorem le_mbT {g : List Int → Int} {b : List Int} {k : Nat} (hk : 0 < at_ b k) : ∀ {i : Nat}, k < i → g (below b k) ≤ mbT g b i
  | 0, h => absurd h (Nat.not_lt_zero _)
  | i + 1, h => by
    unfold mbT
    by_cases e : k = i
    · subst e; rw [if_pos hk]; omega
    · have := le_mbT (g := g) hk (i := i) (by omega)
      split <;> omega
theorem mbT_le {g : List Int → Int} {b : List Int} {m : Int} (h0 : 0 ≤ m) (h : ∀ k, k < 6 → 0 < at_ b k → g (below b k) ≤ m) : ∀ i, i ≤ 6 → mbT g b i ≤ m
  | 0, _ => h0
  | i + 1, hi => by
    have h1 := mbT_le h0 h i (by omega)
    unfold mbT
    split
    · rename_i hp
      have := h i (by omega) hp
      omega
    · exact h1
theorem le_below {b d : List Int} (hd : Bu d) (h : Le d b) {k : Nat} (_hk : k < 6) (hlt : at_ d k < at_ b k) : Le d (below b k) := fun j hj => by
  rw [below_at hj]
  have h1 := h j hj
  have h2 := hd.pos j hj
  by_cases e : j = k
  · rw [if_pos e]; subst e; omega
  · rw [if_neg e]; exact h1
/-- The program's way. -/
theorem subT_mb {f : List Int → Int} {b : List Int} (hb : Bu b) : subT f b = mbT (upT f) b 6 := by
  apply Int.le_antisymm
  · refine subT_le hb (mbT_nonneg _ _ _) fun d hd hl hne => ?_
    obtain ⟨k, hk, hlt⟩ : ∃ k, k < 6 ∧ at_ d k < at_ b k := by
      by_cases hq : ∃ k, k < 6 ∧ at_ d k < at_ b k
      · exact hq
      · refine absurd (MB.ext6 hd.len hb.len fun j hj => ?_) hne
        have h1 := hl j hj
        have h2 : ¬ at_ d j < at_ b j := fun h => hq ⟨j, hj, h⟩
        omega
    have h1 := le_upT (f := f) (below_bu hb k).1 hd (le_below hd hl hk hlt)
    have h2 := le_mbT (g := upT f) (b := b) (k := k) (by have := hd.pos k hk; omega) (i := 6) hk
    omega
  · refine mbT_le (subT_nonneg _ _) (fun k hk hp => upT_le (below_bu hb k).1 (subT_nonneg _ _) fun d hd hl => ?_) 6 (Nat.le_refl _)
    refine le_subT hb hd (hl.trans (below_bu hb k).2) fun e => ?_
    have := hl k hk
    rw [below_at hk, if_pos rfl, e] at this
    omega
end Go.Proofs.Ytjjpfpgjpmedmaa.VV
namespace Go.Proofs.Ytjjpfpgjpmedmaa.VV
open MB (at_)
end Go.Proofs.Ytjjpfpgjpmedmaa.VV
namespace Go.Proofs.Ytjjpfpgjpmedmaa.MF
/-- An offer. -/
structure Of where
  bidder : Int
  b0 : Int
  b1 : Int
  b2 : Int
  b3 : Int
  b4 : Int
  b5 : Int
  value : Int
  deriving DecidableEq
def Of.want (p : Of) : List Int := [p.b0, p.b1, p.b2, p.b3, p.b4, p.b5]
/-- The offers as steps. -/
def stp (L : List Of) : VV.St := L.map fun p => (p.want, p.value)
theorem stp_at {L : List Of} {k : Nat} {p : Of} (h : L[k]? = some p) : (stp L)[k]? = some (p.want, p.value) := by unfold stp; rw [List.getElem?_map, h]; rfl
/-- An offer is as good as another one: of the same bidder, at least as much for no other units. -/
def good (a b : Of) : Bool := decide (a.bidder = b.bidder) && decide (b.value ≤ a.value) && VV.leB a.want b.want
end Go.Proofs.Ytjjpfpgjpmedmaa.MF
namespace Go.Proofs.Ytjjpfpgjpmedmaa.MF
/-- One offer more. -/
def stepC (kept : List Of) (o : Of) : List Of := if decide (o.value < 1) || kept.any (fun e => good e o) then kept else (kept.filter fun e => !good o e) ++ [o]
def cleanL (l : List Of) : List Of := l.foldl stepC []
end Go.Proofs.Ytjjpfpgjpmedmaa.MF
namespace Go.Proofs.Ytjjpfpgjpmedmaa.MF
end Go.Proofs.Ytjjpfpgjpmedmaa.MF
