/- MathDS, DW7, DPr, DMax, joined: no claim of its own. -/
import Derived.Test.YtjjpfpgjpmedmaaMathVF
import Derived.Test.YtjjpfpgjpmedmaaJFM
import Derived.Test.YtjjpfpgjpmedmaaJB
import Derived.Test.YtjjpfpgjpmedmaaBList
import Derived.Test.YtjjpfpgjpmedmaaMathVD
import Derived.Test.YtjjpfpgjpmedmaaJBA
import Derived.Test.YtjjpfpgjpmedmaaJJ
import Derived.Test.YtjjpfpgjpmedmaaBCmp
import Derived.BigQuiet
import Derived.Test.YtjjpfpgjpmedmaaVTab
import Derived.Test.YtjjpfpgjpmedmaaVWorth
import Derived.Deep.RegionHeld3
import Derived.Deep.DeepCutAuto
namespace Go.Proofs.Ytjjpfpgjpmedmaa.MD
open MB (at_)
/-- An offer that counts. -/
def cnts (p : MF.Of) : Bool := decide (1 ≤ p.value) && (decide (p.value ≤ 1000000) && MB.okB p.want)
def cntL (L : List MF.Of) : List MF.Of := L.filter cnts
/-- Valid prices. -/
def prB (p : List Int) : Bool := inR 0 1000000 p
def val (L : List MF.Of) (b : List Int) : Int := VV.worth (MF.stp (cntL L)) b
def utl (L : List MF.Of) (p b : List Int) : Int := val L b - cstB p b 6
/-- What Utility answers. -/
def utE (L : List MF.Of) (p b : List Int) : Int := if MB.okB b = true ∧ prB p = true then utl L p b else 0
/-- A bundle with a number: a worth, or an option. -/
structure W7 where
  b0 : Int
  b1 : Int
  b2 : Int
  b3 : Int
  b4 : Int
  b5 : Int
  v : Int
  deriving DecidableEq
def W7.want (x : W7) : List Int := [x.b0, x.b1, x.b2, x.b3, x.b4, x.b5]
def w7 (b : List Int) (v : Int) : W7 := ⟨at_ b 0, at_ b 1, at_ b 2, at_ b 3, at_ b 4, at_ b 5, v⟩
theorem w7_want {b : List Int} {v : Int} (h : b.length = 6) : (w7 b v).want = b := by
  obtain ⟨x0, x1, x2, x3, x4, x5, rfl⟩ := Go.Proofs.Ytjjpfpgjpmedmaa.six h
  rfl
def worths (L : List MF.Of) (s : List Int) : List W7 := (listB s).map fun b => w7 b (val L b)
def opt1 (p : List Int) (x : W7) : W7 := { x with v := x.v - cstB p x.want 6 }
def options (W : List W7) (p : List Int) : List W7 := if prB p = true then W.map (opt1 p) else []
/-- A worth in bounds. -/
def WOk (x : W7) : Prop := MB.okB x.want = true ∧ 0 ≤ x.v ∧ x.v ≤ 1000000
def mstep (m x : W7) : W7 := if m.v < x.v then x else m
def bst : List W7 → List Int × Int
  | [] => (VV.Z, 0)
  | x :: r => ((r.foldl mstep x).want, (r.foldl mstep x).v)
def dem (O : List W7) : List (List Int) := (O.filter fun x => decide (x.v = (bst O).2)).map W7.want
/-- Best's, Demand's, Path's answers. -/
def bestE (L : List MF.Of) (s p : List Int) : List Int × Int := bst (options (worths L s) p)
def demE (L : List MF.Of) (s p : List Int) : List (List Int) := dem (options (worths L s) p)
/-- The bundles in question. -/
def cand (s p : List Int) : List (List Int) := if prB p = true then listB s else []
theorem list_len {s : List Int} : ∀ b ∈ listB s, b.length = 6 := by
  intro b hb
  unfold listB at hb
  split at hb
  · split at hb
    · exact row_all s 6 _ (Nat.le_refl 6) b hb
    · cases hb
  · cases hb
theorem okd_le {b s : List Int} (hb : VV.Bu b) (hk : MB.okB s = true) (hl : VV.Le b s) (hs : s.length = 6) : MB.okB b = true := by
  unfold MB.okB
  rw [List.all_eq_true]
  intro q hq
  obtain ⟨i, hi, rfl⟩ := List.getElem_of_mem hq
  have hi6 : i < 6 := by rw [hb.len] at hi; exact hi
  have h1 := hb.pos i hi6
  have h2 := hl i hi6
  have h3 := okB_at hk (k := i) (by rw [hs]; exact hi6)
  have e : MB.at_ b i = b[i] := by unfold MB.at_; rw [List.getD_eq_getElem?_getD, List.getElem?_eq_getElem hi]; rfl
  rw [← e]
  simp
  omega
theorem list_in {s : List Int} (hs : s.length = 6) : ∀ b ∈ listB s, (VV.Bu b ∧ VV.Le b s) ∧ MB.okB b = true := by
  intro b hb
  unfold listB at hb
  split at hb
  · rename_i h1
    split at hb
    · have h2 := (VV.all_mem (VV.bu_of_ok hs h1)).1 hb
      exact ⟨h2, okd_le h2.1 h1 h2.2 hs⟩
    · cases hb
  · cases hb
theorem opts_eq {L : List MF.Of} {s p : List Int} : options (worths L s) p = (cand s p).map fun b => w7 b (utl L p b) := by
  unfold options cand
  split
  · unfold worths
    rw [List.map_map]
    apply List.map_congr_left
    intro b hb
    show opt1 p (w7 b (val L b)) = _
    unfold opt1
    rw [w7_want (list_len b hb)]
    rfl
  · rfl
/-- The first greatest one. -/
def tp (u : List Int → Int) (x : List Int) (r : List (List Int)) : List Int := r.foldl (fun m y => if u m < u y then y else m) x
theorem tp_snoc (u : List Int → Int) (x y : List Int) (r : List (List Int)) : tp u x (r ++ [y]) = if u (tp u x r) < u y then y else tp u x r := by
  unfold tp; rw [List.foldl_append]; rfl
theorem snocs {α : Type} {P : List α → Prop} (h0 : P []) (hs : ∀ r y, P r → P (r ++ [y])) (l : List α) : P l := by
  have key : ∀ m : List α, P m.reverse := by
    intro m
    induction m with
    | nil => exact h0
    | cons y r ih => rw [List.reverse_cons]; exact hs _ _ ih
  have := key l.reverse
  rwa [List.reverse_reverse] at this
theorem tp_max (u : List Int → Int) (x : List Int) (r : List (List Int)) : ∀ y ∈ x :: r, u y ≤ u (tp u x r) := by
  refine snocs (P := fun r => ∀ y ∈ x :: r, u y ≤ u (tp u x r)) ?_ ?_ r
  · intro y hy
    rw [List.mem_singleton] at hy
    rw [hy]; exact Int.le_refl _
  · intro r z ih y hy
    rw [tp_snoc]
    rw [← List.cons_append, List.mem_append, List.mem_singleton] at hy
    rcases hy with hy | rfl
    · have := ih y hy
      split <;> omega
    · split <;> omega
theorem tp_mem (u : List Int → Int) (x : List Int) (r : List (List Int)) : tp u x r ∈ x :: r := by
  refine snocs (P := fun r => tp u x r ∈ x :: r) ?_ ?_ r
  · exact List.mem_singleton.2 rfl
  · intro r z ih
    rw [tp_snoc, ← List.cons_append, List.mem_append, List.mem_singleton]
    split
    · exact .inr rfl
    · exact .inl ih
theorem filter_none {u : List Int → Int} {l : List (List Int)} {m : Int} (h : ∀ y ∈ l, u y < m) : l.filter (fun b => decide (u b = m)) = [] := by
  rw [List.filter_eq_nil_iff]
  intro y hy
  have := h y hy
  simp; omega
/-- The first of those that are as good as the best is the best. -/
theorem tp_first (u : List Int → Int) (x : List Int) (r : List (List Int)) : ∃ t, (x :: r).filter (fun b => decide (u b = u (tp u x r))) = tp u x r :: t := by
  refine snocs (P := fun r => ∃ t, (x :: r).filter (fun b => decide (u b = u (tp u x r))) = tp u x r :: t) ?_ ?_ r
  · exact ⟨[], by simp [tp]⟩
  · intro r z ⟨t, ih⟩
    rw [tp_snoc, ← List.cons_append, List.filter_append]
    split
    · rename_i h
      rw [filter_none (fun y hy => by have := tp_max u x r y hy; omega)]
      exact ⟨[], by simp⟩
    · exact ⟨t ++ _, by rw [ih]; rfl⟩
theorem fold_w7 (u : List Int → Int) (r : List (List Int)) : ∀ x, (r.map fun b => w7 b (u b)).foldl mstep (w7 x (u x)) = w7 (tp u x r) (u (tp u x r)) := by
  induction r with
  | nil => intro x; rfl
  | cons y r ih =>
    intro x
    rw [List.map_cons, List.foldl_cons]
    have : mstep (w7 x (u x)) (w7 y (u y)) = w7 (if u x < u y then y else x) (u (if u x < u y then y else x)) := by
      unfold mstep
      show (if u x < u y then _ else _) = _
      split <;> rfl
    rw [this, ih]
    rfl
theorem bst_map (u : List Int → Int) (x : List Int) (r : List (List Int)) (h6 : ∀ b ∈ x :: r, b.length = 6) : bst ((x :: r).map fun b => w7 b (u b)) = (tp u x r, u (tp u x r)) := by
  rw [List.map_cons]
  show (((r.map fun b => w7 b (u b)).foldl mstep (w7 x (u x))).want, ((r.map fun b => w7 b (u b)).foldl mstep (w7 x (u x))).v) = _
  rw [fold_w7, w7_want (h6 _ (tp_mem u x r))]
  rfl
theorem dem_map (u : List Int → Int) (l : List (List Int)) (h6 : ∀ b ∈ l, b.length = 6) (m : Int) (hm : (bst (l.map fun b => w7 b (u b))).2 = m) : dem (l.map fun b => w7 b (u b)) = l.filter fun b => decide (u b = m) := by
  unfold dem
  rw [hm]
  clear hm
  induction l with
  | nil => rfl
  | cons y r ih =>
    have e : (w7 y (u y)).v = u y := rfl
    rw [List.map_cons, List.filter_cons, List.filter_cons, e]
    have := ih (fun b hb => h6 b (List.mem_cons_of_mem _ hb))
    split
    · rw [List.map_cons, this, w7_want (h6 y List.mem_cons_self)]
    · exact this
/-- The reference's way: the greatest so far, and those that have it. -/
def rstep (u : List Int → Int) (q : Int × List (List Int)) (b : List Int) : Int × List (List Int) :=
  let q' := if q.1 < u b then (u b, []) else q
  if u b = q'.1 then (q'.1, q'.2 ++ [b]) else q'
def rrun (u : List Int → Int) (l : List (List Int)) : Int × List (List Int) := l.foldl (rstep u) (-1, [])
theorem rrun_snoc (u : List Int → Int) (l : List (List Int)) (b : List Int) : rrun u (l ++ [b]) = rstep u (rrun u l) b := by unfold rrun; rw [List.foldl_append]; rfl
def mxs (u : List Int → Int) (l : List (List Int)) : Int := l.foldl (fun m b => max m (u b)) (-1)
theorem mxs_snoc (u : List Int → Int) (l : List (List Int)) (b : List Int) : mxs u (l ++ [b]) = max (mxs u l) (u b) := by unfold mxs; rw [List.foldl_append]; rfl
theorem mxs_ge (u : List Int → Int) (l : List (List Int)) : ∀ y ∈ l, u y ≤ mxs u l := by
  refine snocs (P := fun l => ∀ y ∈ l, u y ≤ mxs u l) (fun y hy => by cases hy) ?_ l
  intro r z ih y hy
  rw [mxs_snoc]
  rw [List.mem_append, List.mem_singleton] at hy
  rcases hy with hy | rfl
  · have := ih y hy; omega
  · omega
theorem rrun_eq (u : List Int → Int) (l : List (List Int)) : rrun u l = (mxs u l, l.filter fun b => decide (u b = mxs u l)) := by
  refine snocs (P := fun l => rrun u l = (mxs u l, l.filter fun b => decide (u b = mxs u l))) rfl ?_ l
  intro r z ih
  rw [rrun_snoc, ih, mxs_snoc, List.filter_append]
  unfold rstep
  dsimp only
  by_cases h : mxs u r < u z
  · rw [if_pos h]
    dsimp only
    rw [if_pos rfl, show max (mxs u r) (u z) = u z from by omega, filter_none (fun y hy => by have := mxs_ge u r y hy; omega)]
    simp
  · rw [if_neg h]
    dsimp only
    rw [show max (mxs u r) (u z) = mxs u r from by omega]
    by_cases h2 : u z = mxs u r
    · rw [if_pos h2]; simp [h2]
    · rw [if_neg h2]; simp [h2]
theorem mxs_tp (u : List Int → Int) (x : List Int) (r : List (List Int)) : mxs u (x :: r) = max (-1) (u (tp u x r)) := by
  refine snocs (P := fun r => mxs u (x :: r) = max (-1) (u (tp u x r))) rfl ?_ r
  intro r z ih
  rw [← List.cons_append, mxs_snoc, ih, tp_snoc]
  split <;> omega
/-- What the reference's Demand answers. -/
def rdemE (L : List MF.Of) (s p : List Int) : List (List Int) := if prB p = true then (rrun (utE L p) (listB s)).2 else []
theorem prB_at {p : List Int} (h : prB p = true) {k : Nat} (hk : k < 6) (hl : p.length = 6) : 0 ≤ at_ p k ∧ at_ p k ≤ 1000000 := by
  have := List.all_eq_true.1 h (at_ p k) (by
    unfold MB.at_
    rw [List.getD_eq_getElem?_getD, List.getElem?_eq_getElem (by omega)]
    exact List.getElem_mem _)
  simpa using this
theorem mul_le4 {a b : Int} (ha : 0 ≤ a ∧ a ≤ 1000000) (hb : 0 ≤ b ∧ b ≤ 4) : 0 ≤ a * b ∧ a * b ≤ 4000000 := by
  refine ⟨Int.mul_nonneg ha.1 hb.1, ?_⟩
  have h1 : a * b ≤ a * 4 := Int.mul_le_mul_of_nonneg_left hb.2 ha.1
  omega
theorem cst_step {p b : List Int} (hp : prB p = true) (hb : MB.okB b = true) (lp : p.length = 6) (lb : b.length = 6) : ∀ k, k ≤ 6 → (0 ≤ cstB p b k ∧ cstB p b k ≤ 4000000 * k) ∧ (k < 6 → cstB p b (k + 1) = cstB p b k + at_ p k * at_ b k) := by
  have key : ∀ k, k < 6 → (0 ≤ cstB p b k ∧ cstB p b k ≤ 4000000 * k) → cstB p b (k + 1) = cstB p b k + at_ p k * at_ b k := by
    intro k hk hc
    have h1 := mul_le4 (prB_at hp hk lp) (okB_at hb (k := k) (by omega))
    show RowKit.wrap64 (cstB p b k + RowKit.wrap64 (at_ p k * at_ b k)) = _
    rw [show RowKit.wrap64 (at_ p k * at_ b k) = at_ p k * at_ b k from by unfold RowKit.wrap64; omega]
    unfold RowKit.wrap64
    omega
  intro k
  induction k with
  | zero => exact fun _ => ⟨⟨Int.le_refl _, Int.le_refl _⟩, fun h => key 0 h ⟨Int.le_refl _, Int.le_refl _⟩⟩
  | succ k ih =>
    intro hk
    have h0 := (ih (by omega)).1
    have h1 := mul_le4 (prB_at hp (k := k) (by omega) lp) (okB_at hb (k := k) (by omega))
    have h2 := key k (by omega) h0
    have h3 : 0 ≤ cstB p b (k + 1) ∧ cstB p b (k + 1) ≤ 4000000 * ((k + 1 : Nat) : Int) := by rw [h2]; omega
    exact ⟨h3, fun h => key (k + 1) h h3⟩
theorem cst_in {p b : List Int} (hp : prB p = true) (hb : MB.okB b = true) (lp : p.length = 6) (lb : b.length = 6) : 0 ≤ cstB p b 6 ∧ cstB p b 6 ≤ 24000000 := by
  have := (cst_step hp hb lp lb 6 (Nat.le_refl 6)).1
  omega
theorem val_in (L : List MF.Of) (b : List Int) : 0 ≤ val L b ∧ val L b ≤ 1000000 := by
  refine ⟨VV.worth_nonneg _ _, VV.worth_le (by decide) fun q hq _ => ?_⟩
  obtain ⟨o, ho, rfl⟩ := List.mem_map.1 hq
  have h1 := (List.mem_filter.1 ho).2
  unfold cnts at h1
  simp only [Bool.and_eq_true, decide_eq_true_eq] at h1
  exact h1.2.1
theorem z_ok : MB.okB VV.Z = true := rfl
theorem cst_z {p : List Int} (hp : prB p = true) (lp : p.length = 6) : cstB p VV.Z 6 = 0 := by
  have key : ∀ k, k ≤ 6 → cstB p VV.Z k = 0 := by
    intro k
    induction k with
    | zero => exact fun _ => rfl
    | succ k ih =>
      intro hk
      rw [(cst_step hp z_ok lp rfl k (by omega)).2 (by omega), ih (by omega), VV.Z_at (by omega)]
      simp
  exact key 6 (Nat.le_refl 6)
theorem utl_z {L : List MF.Of} {p : List Int} (hp : prB p = true) (lp : p.length = 6) : 0 ≤ utl L p VV.Z := by
  unfold utl
  rw [cst_z hp lp]
  have := (val_in L VV.Z).1
  omega
/-- The candidates: none, or the empty bundle first. -/
theorem list_cons (s : List Int) : listB s = [] ∨ ∃ r, listB s = VV.Z :: r := by
  unfold listB
  split
  · split
    · refine .inr ⟨((List.range' 1 (MB.P s 6 - 1)).map fun i => MB.pad (MB.D s 6 i)), ?_⟩
      have h := MB.P_pos s 6
      unfold MB.row
      obtain ⟨m, hm⟩ : ∃ m, MB.P s 6 = m + 1 := ⟨MB.P s 6 - 1, by omega⟩
      rw [hm, List.range_eq_range', List.range'_succ, List.map_cons, D_zero]
      rfl
    · exact .inl rfl
  · exact .inl rfl
theorem best_none {L : List MF.Of} {s p : List Int} (h : cand s p = []) : bestE L s p = (VV.Z, 0) ∧ demE L s p = [] := by
  unfold bestE demE
  rw [opts_eq, h]
  exact ⟨rfl, rfl⟩
theorem cand_yes {s p : List Int} (hp : prB p = true) : cand s p = listB s := if_pos hp
theorem best_some {L : List MF.Of} {s p : List Int} {r : List (List Int)} (hp : prB p = true) (h : listB s = VV.Z :: r) : bestE L s p = (tp (utl L p) VV.Z r, utl L p (tp (utl L p) VV.Z r)) ∧ demE L s p = (VV.Z :: r).filter (fun b => decide (utl L p b = utl L p (tp (utl L p) VV.Z r))) := by
  have h6 : ∀ b ∈ VV.Z :: r, b.length = 6 := h ▸ list_len
  have hb := bst_map (utl L p) VV.Z r h6
  unfold bestE demE
  rw [opts_eq, cand_yes hp, h]
  exact ⟨hb, dem_map _ _ h6 _ (by rw [hb])⟩
theorem utE_yes {L : List MF.Of} {p b : List Int} (hb : MB.okB b = true) (hp : prB p = true) : utE L p b = utl L p b := if_pos ⟨hb, hp⟩
theorem rrun_congr {u v : List Int → Int} : ∀ (l : List (List Int)), (∀ b ∈ l, u b = v b) → rrun u l = rrun v l := by
  intro l
  refine snocs (P := fun l => (∀ b ∈ l, u b = v b) → rrun u l = rrun v l) (fun _ => rfl) ?_ l
  intro r z ih h
  rw [rrun_snoc, rrun_snoc, ih (fun b hb => h b (List.mem_append_left _ hb))]
  unfold rstep
  rw [h z (by simp)]
/-- The reference's demand is the program's. -/
theorem rdem_eq {L : List MF.Of} {s p : List Int} (hs : s.length = 6) (lp : p.length = 6) : rdemE L s p = demE L s p := by
  unfold rdemE
  by_cases hp : prB p = true
  · rw [if_pos hp, rrun_congr (v := utl L p) _ (fun b hb => utE_yes (list_in hs b hb).2 hp), rrun_eq]
    rcases list_cons s with h | ⟨r, h⟩
    · rw [(best_none (L := L) (by rw [cand_yes hp]; exact h)).2, h]; rfl
    · rw [(best_some hp h).2, h]
      dsimp only
      rw [mxs_tp]
      have h0 := tp_max (utl L p) VV.Z r VV.Z List.mem_cons_self
      have h1 := utl_z (L := L) hp lp
      rw [show max (-1) (utl L p (tp (utl L p) VV.Z r)) = utl L p (tp (utl L p) VV.Z r) from by omega]
  · rw [if_neg hp, (best_none (L := L) (by unfold cand; exact if_neg hp)).2]
/-- What the reference's Best answers. -/
def rbestE (L : List MF.Of) (s p : List Int) : List Int × Int := match rdemE L s p with
  | [] => (VV.Z, 0)
  | b :: _ => (b, utE L p b)
theorem rbest_eq {L : List MF.Of} {s p : List Int} (hs : s.length = 6) (lp : p.length = 6) : rbestE L s p = bestE L s p := by
  unfold rbestE
  rw [rdem_eq hs lp]
  by_cases hp : prB p = true
  · rcases list_cons s with h | ⟨r, h⟩
    · have := best_none (L := L) (s := s) (p := p) (by rw [cand_yes hp]; exact h)
      rw [this.1, this.2]
    · obtain ⟨h1, h2⟩ := best_some (L := L) hp h
      obtain ⟨t, h3⟩ := tp_first (utl L p) VV.Z r
      rw [h1, h2, h3]
      dsimp only
      rw [utE_yes (list_in hs _ (h ▸ tp_mem (utl L p) VV.Z r)).2 hp]
  · have := best_none (L := L) (s := s) (p := p) (by unfold cand; exact if_neg hp)
    rw [this.1, this.2]
/-- What is demanded is a valid bundle within the supply. -/
theorem best_in {L : List MF.Of} {s p : List Int} (hs : s.length = 6) : (bestE L s p).1.length = 6 ∧ MB.okB (bestE L s p).1 = true := by
  by_cases hp : prB p = true
  · rcases list_cons s with h | ⟨r, h⟩
    · rw [(best_none (L := L) (s := s) (p := p) (by rw [cand_yes hp]; exact h)).1]; exact ⟨rfl, rfl⟩
    · rw [(best_some (L := L) hp h).1]
      have := list_in hs _ (h ▸ tp_mem (utl L p) VV.Z r)
      exact ⟨this.1.1.len, this.2⟩
  · rw [(best_none (L := L) (s := s) (p := p) (by unfold cand; exact if_neg hp)).1]; exact ⟨rfl, rfl⟩
/-- DemandsetOptimal's heart. -/
theorem optimal {L : List MF.Of} {s p : List Int} (hs : s.length = 6) (lp : p.length = 6) (hp : prB p = true) (hc : listB s ≠ []) : 0 ≤ (bestE L s p).2 ∧ utE L p (bestE L s p).1 = (bestE L s p).2 ∧ VV.Le (bestE L s p).1 s ∧ ∀ b ∈ listB s, utE L p b ≤ (bestE L s p).2 := by
  rcases list_cons s with h | ⟨r, h⟩
  · exact absurd h hc
  · rw [(best_some (L := L) hp h).1]
    have h1 := list_in hs _ (h ▸ tp_mem (utl L p) VV.Z r)
    have h2 := tp_max (utl L p) VV.Z r
    refine ⟨?_, utE_yes h1.2 hp, h1.1.2, fun b hb => ?_⟩
    · have := h2 VV.Z List.mem_cons_self
      have := utl_z (L := L) hp lp
      dsimp only; omega
    · rw [utE_yes (list_in hs b hb).2 hp]
      exact h2 b (h ▸ hb)
theorem at_set {p : List Int} {i k : Nat} {v : Int} (hi : i < p.length) : at_ (p.set i v) k = if k = i then v else at_ p k := by
  unfold MB.at_
  rw [List.getD_eq_getElem?_getD, List.getD_eq_getElem?_getD, List.getElem?_set]
  by_cases h : i = k
  · rw [if_pos h, if_pos (by omega), if_pos h.symm]; rfl
  · rw [if_neg h, if_neg (fun e => h e.symm)]
/-- One price more. -/
theorem cst_set {p b : List Int} {i : Nat} {v : Int} (hp : prB p = true) (hq : prB (p.set i v) = true) (hb : MB.okB b = true) (lp : p.length = 6) (lb : b.length = 6) (hi : i < 6) : cstB (p.set i v) b 6 = cstB p b 6 + (v - at_ p i) * at_ b i := by
  have lq : (p.set i v).length = 6 := by rw [List.length_set]; exact lp
  have key : ∀ k, k ≤ 6 → cstB (p.set i v) b k = cstB p b k + (if i < k then (v - at_ p i) * at_ b i else 0) := by
    intro k
    induction k with
    | zero => intro _; rw [if_neg (Nat.not_lt_zero _)]; rfl
    | succ k ih =>
      intro hk
      rw [(cst_step hq hb lq lb k (by omega)).2 (by omega), (cst_step hp hb lp lb k (by omega)).2 (by omega), ih (by omega), at_set (by omega)]
      by_cases e : k = i
      · subst e
        rw [if_pos rfl, if_neg (Nat.lt_irrefl _), if_pos (Nat.lt_succ_self _), Int.sub_mul]
        omega
      · rw [if_neg e]
        by_cases h : i < k
        · rw [if_pos h, if_pos (by omega)]; omega
        · rw [if_neg h, if_neg (by omega)]; omega
  rw [key 6 (Nat.le_refl 6), if_pos hi]
/-- DemandsetLaw's heart. -/
theorem law {L : List MF.Of} {s p : List Int} {i : Nat} {v : Int} (hs : s.length = 6) (lp : p.length = 6) (hp : prB p = true) (hq : prB (p.set i v) = true) (hi : i < 6) (hv : at_ p i < v) : at_ (bestE L s (p.set i v)).1 i ≤ at_ (bestE L s p).1 i := by
  rcases list_cons s with h | ⟨r, h⟩
  · rw [(best_none (L := L) (s := s) (p := p) (by rw [cand_yes hp]; exact h)).1, (best_none (L := L) (s := s) (p := p.set i v) (by rw [cand_yes hq]; exact h)).1]
    exact Int.le_refl _
  · rw [(best_some (L := L) hp h).1, (best_some (L := L) hq h).1]
    dsimp only
    have mb := tp_mem (utl L p) VV.Z r
    have mc := tp_mem (utl L (p.set i v)) VV.Z r
    have h1 := tp_max (utl L p) VV.Z r _ mc
    have h2 := tp_max (utl L (p.set i v)) VV.Z r _ mb
    have ib := list_in hs _ (h ▸ mb)
    have ic := list_in hs _ (h ▸ mc)
    generalize tp (utl L p) VV.Z r = b at *
    generalize tp (utl L (p.set i v)) VV.Z r = c at *
    unfold utl at h1 h2
    rw [cst_set hp hq ib.2 lp ib.1.1.len hi, cst_set hp hq ic.2 lp ic.1.1.len hi] at h2
    have hd : 0 < v - at_ p i := by omega
    generalize v - at_ p i = d at *
    apply Int.not_lt.1
    intro hlt
    have h3 : d * (at_ b i + 1) ≤ d * at_ c i := Int.mul_le_mul_of_nonneg_left (by omega) (by omega)
    rw [Int.mul_add] at h3
    omega
end Go.Proofs.Ytjjpfpgjpmedmaa.MD
namespace Go.Proofs.Ytjjpfpgjpmedmaa
open Go.RowKit
def cells_w7 (p : MD.W7) : List Value := [.int .i64 p.b0, .int .i64 p.b1, .int .i64 p.b2, .int .i64 p.b3, .int .i64 p.b4, .int .i64 p.b5, .int .i64 p.v]
def agg_w7 (p : MD.W7) : Value := .agg #[.int .i64 p.b0, .int .i64 p.b1, .int .i64 p.b2, .int .i64 p.b3, .int .i64 p.b4, .int .i64 p.b5, .int .i64 p.v]
def w7E : El MD.W7 where
  cells := cells_w7
  sz := 7
  fine p := (-9223372036854775808 ≤ p.b0 ∧ p.b0 ≤ 9223372036854775807) ∧ (-9223372036854775808 ≤ p.b1 ∧ p.b1 ≤ 9223372036854775807) ∧ (-9223372036854775808 ≤ p.b2 ∧ p.b2 ≤ 9223372036854775807) ∧ (-9223372036854775808 ≤ p.b3 ∧ p.b3 ≤ 9223372036854775807) ∧ (-9223372036854775808 ≤ p.b4 ∧ p.b4 ≤ 9223372036854775807) ∧ (-9223372036854775808 ≤ p.b5 ∧ p.b5 ≤ 9223372036854775807) ∧ (-9223372036854775808 ≤ p.v ∧ p.v ≤ 9223372036854775807)
  len _ _ := rfl
  one a u hu := by
    simp only [cells_w7, List.mem_cons, List.not_mem_nil, or_false] at hu
    rcases hu with rfl | rfl | rfl | rfl | rfl | rfl | rfl <;> rfl
  pos := by decide
/-- The k-th element's cells, as the walk spells them. -/
theorem w7_at {w : World} {A : Option Addr} {n c : Nat} {l : List MD.W7} (h : Lst w7E w A n c l) {k : Nat} (hk : k < n) : ∃ (ad : Addr) (p : MD.W7), A = some ad ∧ l[k]? = some p ∧ w7E.fine p ∧ ad.block < w.heap.size ∧
    w.cell? (ad.add (k * 7)) = some (.int .i64 p.b0) ∧
    w.cell? (⟨(ad.add (k * 7)).block, (ad.add (k * 7)).off + 1, none⟩) = some (.int .i64 p.b1) ∧
    w.cell? (⟨(ad.add (k * 7)).block, (ad.add (k * 7)).off + 2, none⟩) = some (.int .i64 p.b2) ∧
    w.cell? (⟨(ad.add (k * 7)).block, (ad.add (k * 7)).off + 3, none⟩) = some (.int .i64 p.b3) ∧
    w.cell? (⟨(ad.add (k * 7)).block, (ad.add (k * 7)).off + 4, none⟩) = some (.int .i64 p.b4) ∧
    w.cell? (⟨(ad.add (k * 7)).block, (ad.add (k * 7)).off + 5, none⟩) = some (.int .i64 p.b5) ∧
    w.cell? (⟨(ad.add (k * 7)).block, (ad.add (k * 7)).off + 6, none⟩) = some (.int .i64 p.v) := by
  obtain ⟨ad, p, e, hx, hf, hb, hc⟩ := h.at0 hk
  refine ⟨ad, p, e, hx, hf, hb, ?_, ?_, ?_, ?_, ?_, ?_, ?_⟩
  · have := hc 0 _ rfl; rwa [show ∀ a : Addr, a.add 0 = a from fun a => by unfold Addr.add; simp] at this
  · have := hc 1 _ rfl; exact this
  · have := hc 2 _ rfl; exact this
  · have := hc 3 _ rfl; exact this
  · have := hc 4 _ rfl; exact this
  · have := hc 5 _ rfl; exact this
  · have := hc 6 _ rfl; exact this
/-- A choice: prices and a bundle. -/
structure C12 where
  p0 : Int
  p1 : Int
  p2 : Int
  p3 : Int
  p4 : Int
  p5 : Int
  b0 : Int
  b1 : Int
  b2 : Int
  b3 : Int
  b4 : Int
  b5 : Int
  deriving DecidableEq
def cells_c12 (p : C12) : List Value := [.int .i64 p.p0, .int .i64 p.p1, .int .i64 p.p2, .int .i64 p.p3, .int .i64 p.p4, .int .i64 p.p5, .int .i64 p.b0, .int .i64 p.b1, .int .i64 p.b2, .int .i64 p.b3, .int .i64 p.b4, .int .i64 p.b5]
def c12E : El C12 where
  cells := cells_c12
  sz := 12
  fine _ := True
  len _ _ := rfl
  one a u hu := by
    simp only [cells_c12, List.mem_cons, List.not_mem_nil, or_false] at hu
    rcases hu with rfl | rfl | rfl | rfl | rfl | rfl | rfl | rfl | rfl | rfl | rfl | rfl <;> rfl
  pos := by decide
/-- The k-th element's cells, as the walk spells them. -/
theorem c12_at {w : World} {A : Option Addr} {n c : Nat} {l : List C12} (h : Lst c12E w A n c l) {k : Nat} (hk : k < n) : ∃ (ad : Addr) (p : C12), A = some ad ∧ l[k]? = some p ∧ c12E.fine p ∧ ad.block < w.heap.size ∧
    w.cell? (ad.add (k * 12)) = some (.int .i64 p.p0) ∧
    w.cell? (⟨(ad.add (k * 12)).block, (ad.add (k * 12)).off + 1, none⟩) = some (.int .i64 p.p1) ∧
    w.cell? (⟨(ad.add (k * 12)).block, (ad.add (k * 12)).off + 2, none⟩) = some (.int .i64 p.p2) ∧
    w.cell? (⟨(ad.add (k * 12)).block, (ad.add (k * 12)).off + 3, none⟩) = some (.int .i64 p.p3) ∧
    w.cell? (⟨(ad.add (k * 12)).block, (ad.add (k * 12)).off + 4, none⟩) = some (.int .i64 p.p4) ∧
    w.cell? (⟨(ad.add (k * 12)).block, (ad.add (k * 12)).off + 5, none⟩) = some (.int .i64 p.p5) ∧
    w.cell? (⟨(ad.add (k * 12)).block, (ad.add (k * 12)).off + 6, none⟩) = some (.int .i64 p.b0) ∧
    w.cell? (⟨(ad.add (k * 12)).block, (ad.add (k * 12)).off + 7, none⟩) = some (.int .i64 p.b1) ∧
    w.cell? (⟨(ad.add (k * 12)).block, (ad.add (k * 12)).off + 8, none⟩) = some (.int .i64 p.b2) ∧
    w.cell? (⟨(ad.add (k * 12)).block, (ad.add (k * 12)).off + 9, none⟩) = some (.int .i64 p.b3) ∧
    w.cell? (⟨(ad.add (k * 12)).block, (ad.add (k * 12)).off + 10, none⟩) = some (.int .i64 p.b4) ∧
    w.cell? (⟨(ad.add (k * 12)).block, (ad.add (k * 12)).off + 11, none⟩) = some (.int .i64 p.b5) := by
  obtain ⟨ad, p, e, hx, hf, hb, hc⟩ := h.at0 hk
  refine ⟨ad, p, e, hx, hf, hb, ?_, ?_, ?_, ?_, ?_, ?_, ?_, ?_, ?_, ?_, ?_, ?_⟩
  · have := hc 0 _ rfl; rwa [show ∀ a : Addr, a.add 0 = a from fun a => by unfold Addr.add; simp] at this
  · have := hc 1 _ rfl; exact this
  · have := hc 2 _ rfl; exact this
  · have := hc 3 _ rfl; exact this
  · have := hc 4 _ rfl; exact this
  · have := hc 5 _ rfl; exact this
  · have := hc 6 _ rfl; exact this
  · have := hc 7 _ rfl; exact this
  · have := hc 8 _ rfl; exact this
  · have := hc 9 _ rfl; exact this
  · have := hc 10 _ rfl; exact this
  · have := hc 11 _ rfl; exact this
def c12 (p b : List Int) : C12 := ⟨MB.at_ p 0, MB.at_ p 1, MB.at_ p 2, MB.at_ p 3, MB.at_ p 4, MB.at_ p 5, MB.at_ b 0, MB.at_ b 1, MB.at_ b 2, MB.at_ b 3, MB.at_ b 4, MB.at_ b 5⟩
/-- What Path answers. -/
def pathE (L : List MF.Of) (s : List Int) (ps : List (List Int)) : List C12 := ps.map fun p => c12 p (MD.bestE L s p).1
end Go.Proofs.Ytjjpfpgjpmedmaa
namespace Go.Proofs.Ytjjpfpgjpmedmaa
open Go.RowKit
attribute [local go_sem] Oper.semAt_some
theorem MD.pr_out (b : List Int) (k : Nat) (hk : k < b.length) (h : MB.at_ b k < 0 ∨ 1000000 < MB.at_ b k) : MD.prB b = false := out_at _ _ b k hk h
theorem MD.pr_all (b : List Int) (h : ∀ k, k < b.length → 0 ≤ MB.at_ b k ∧ MB.at_ b k ≤ 1000000) : MD.prB b = true := in_all _ _ b h
set_option maxRecDepth 100000 in
set_option maxHeartbeats 1000000 in
theorem rprices_any (a b c d e f : Int) (w : World) : Calls Try.prog 25 #[.agg #[.int .i64 a, .int .i64 b, .int .i64 c, .int .i64 d, .int .i64 e, .int .i64 f]] w (Gives (.bool (MD.prB [a, b, c, d, e, f])) w) := by
  obtain ⟨xs, hxs⟩ : ∃ xs, [a, b, c, d, e, f] = xs := ⟨_, rfl⟩
  have H1 := Lib.hid (BB.new w 39 a b c d e f)
  have HX := Lib.hid hxs
  rw [hxs] at H1
  clear hxs
  go_enter Try.func25, Try.ntmps25
  go_wp2
  go_loop [3] (fun i => ∃ k : Nat, k ≤ 6 ∧ i = .int .i64 k ∧ ∀ j, j < k → 0 ≤ MB.at_ xs j ∧ MB.at_ xs j ≤ 1000000) (fun i => 6 - (intOf i).toNat)
  case atStart => exact ⟨0, Nat.zero_le _, rfl, fun j hj => absurd hj (Nat.not_lt_zero _)⟩
  case round =>
    obtain ⟨k, hk, rfl, hall⟩ := hrel
    have HA := Lib.hid hall
    clear hall
    by_cases hlt : k < 6
    · have c1 := H1.out.cell hlt
      by_cases hb : 0 ≤ MB.at_ xs k ∧ MB.at_ xs k ≤ 1000000
      · obtain ⟨h1, h2⟩ := hb
        go_wp2
        go_round
        case rel => exact ⟨k + 1, by omega, by go_num, fun j hj => by
          rcases Nat.lt_or_ge j k with g | g
          · exact HA.out j g
          · have : j = k := by omega
            subst this; exact ⟨h1, h2⟩⟩
        case measure => simp [intOf]; omega
      · by_cases h1 : MB.at_ xs k < 0
        · clear hb
          go_wp2
          go_ret
          exact ⟨ret_bool (by rw [HX.out]; exact (MD.pr_out xs k (by rw [H1.out.2]; exact hlt) (.inl h1)).symm), below_new _ _⟩
        · have h2 : 1000000 < MB.at_ xs k := by omega
          clear hb
          go_wp2
          go_ret
          exact ⟨ret_bool (by rw [HX.out]; exact (MD.pr_out xs k (by rw [H1.out.2]; exact hlt) (.inr h2)).symm), below_new _ _⟩
    · go_wp2
      go_ret
      exact ⟨ret_bool (by rw [HX.out]; exact (MD.pr_all xs fun j hj => HA.out j (by have := H1.out.2; omega)).symm), below_new _ _⟩

set_option maxRecDepth 100000 in
set_option maxHeartbeats 1000000 in
theorem outside_any (x : Int) (R : Bool) (hR : R = decide (x < 0 ∨ 1000000 < x)) (w : World) : Calls Try.prog 75 #[.int .i64 x] w fun e w' => e = .returned (.bool R) ∧ w = w' := by
  by_cases h1 : x < 0
  · have HE : Hid (R = true) := Lib.hid (by rw [hR]; exact decide_eq_true (.inl h1))
    clear hR
    go_enter Try.func75, Try.ntmps75
    go_wp2
    go_ret
    exact ⟨ret_bool HE.out.symm, rfl⟩
  · by_cases h2 : 1000000 < x
    · have HE : Hid (R = true) := Lib.hid (by rw [hR]; exact decide_eq_true (.inr h2))
      clear hR
      go_enter Try.func75, Try.ntmps75
      go_wp2
      go_ret
      exact ⟨ret_bool HE.out.symm, rfl⟩
    · have HE : Hid (R = false) := Lib.hid (by rw [hR]; exact decide_eq_false (by omega))
      clear hR
      go_enter Try.func75, Try.ntmps75
      go_wp2
      go_ret
      exact ⟨ret_bool HE.out.symm, rfl⟩
set_option maxRecDepth 100000 in
set_option maxHeartbeats 1000000 in
theorem pindex_any (B : Nat) (T : TypeId) (xs : List Int) (w : World) (h1 : BB w B T xs) :
    Calls Try.prog 93 #[.slice (some ⟨B, 0, none⟩) 6 6, .func (.func 75) #[] #[]] w fun e w' => (∃ r : Int, e = .returned (.int .i64 r) ∧ decide (0 ≤ r) = !MD.prB xs) ∧ w = w' := by
  have G1 := Lib.hid h1
  clear h1
  go_enter Try.func93, Try.ntmps93
  go_wp2
  go_loop [8] (fun i => ∃ k : Nat, k ≤ 6 ∧ i = .int .i64 k ∧ ∀ j, j < k → 0 ≤ MB.at_ xs j ∧ MB.at_ xs j ≤ 1000000) (fun i => 6 - (intOf i).toNat)
  case atStart => exact ⟨0, Nat.zero_le _, rfl, fun j hj => absurd hj (Nat.not_lt_zero _)⟩
  case round =>
    obtain ⟨k, hk, rfl, hall⟩ := hrel
    have HA := Lib.hid hall
    clear hall
    by_cases hlt : k < 6
    · have c1 := G1.out.cell hlt
      have HC := Lib.hid (outside_any (MB.at_ xs k) _ rfl)
      by_cases hb : MB.at_ xs k < 0 ∨ 1000000 < MB.at_ xs k
      · rw [decide_eq_true hb] at HC
        have HE := Lib.hid (MD.pr_out xs k (by rw [G1.out.2]; exact hlt) hb)
        clear hb
        generalize MB.at_ xs k = x at *
        go_wp2_with fail
        refine (HC.out _).mono ?_
        rintro e w' ⟨rfl, rfl⟩
        clear HC c1
        go_wp2
        go_ret
        exact ⟨⟨k, rfl, by rw [HE.out]; simp⟩, rfl⟩
      · rw [decide_eq_false hb] at HC
        have HB := Lib.hid (show 0 ≤ MB.at_ xs k ∧ MB.at_ xs k ≤ 1000000 from by omega)
        have HA2 := Lib.hid (show ∀ j, j < k + 1 → 0 ≤ MB.at_ xs j ∧ MB.at_ xs j ≤ 1000000 from fun j hj => by
          rcases Nat.lt_or_ge j k with g | g
          · exact HA.out j g
          · have : j = k := by omega
            subst this; exact HB.out)
        clear hb HA HB
        generalize MB.at_ xs k = x at *
        go_wp2_with fail
        refine (HC.out _).mono ?_
        rintro e w' ⟨rfl, rfl⟩
        clear HC c1
        go_wp2
        go_round
        case rel => exact ⟨k + 1, by omega, by go_num, HA2.out⟩
        case measure => simp [intOf]; omega
    · obtain rfl : k = 6 := by omega
      have HE := Lib.hid (MD.pr_all xs fun j hj => HA.out j (by have := G1.out.2; omega))
      go_wp2
      go_ret
      exact ⟨⟨_, rfl, by rw [HE.out]; rfl⟩, rfl⟩
set_option maxRecDepth 100000 in
set_option maxHeartbeats 1000000 in
theorem pcontains_any (B : Nat) (T : TypeId) (xs : List Int) (w : World) (h1 : BB w B T xs) :
    Calls Try.prog 76 #[.slice (some ⟨B, 0, none⟩) 6 6, .func (.func 75) #[] #[]] w fun e w' => e = .returned (.bool (!MD.prB xs)) ∧ w = w' := by
  have HC := Lib.hid (pindex_any B T xs w h1)
  clear h1
  go_enter Try.func76, Try.ntmps76
  go_wp2_with fail
  refine HC.out.mono ?_
  rintro ev w2 ⟨⟨r, rfl, hr⟩, rfl⟩
  have HE := Lib.hid hr
  clear hr HC
  go_wp2
  go_ret
  exact ⟨by rw [← HE.out]; rfl, rfl⟩
set_option maxRecDepth 100000 in
set_option maxHeartbeats 1000000 in
theorem valid_any (a b c d e f : Int) (w : World) : Calls Try.prog 47 #[.agg #[.int .i64 a, .int .i64 b, .int .i64 c, .int .i64 d, .int .i64 e, .int .i64 f]] w (Gives (.bool (MD.prB [a, b, c, d, e, f])) w) := by
  have H1 := Lib.hid (BB.new w 39 a b c d e f)
  have HN := Lib.hid (below_new w (.cells #[.int .i64 a, .int .i64 b, .int .i64 c, .int .i64 d, .int .i64 e, .int .i64 f] 39))
  have HC := Lib.hid (pcontains_any _ _ _ _ H1.out)
  generalize MD.prB [a, b, c, d, e, f] = R at *
  go_enter Try.func47, Try.ntmps47
  go_upto_region 1 with (fail)
  generalize w.alloc (.cells #[.int .i64 a, .int .i64 b, .int .i64 c, .int .i64 d, .int .i64 e, .int .i64 f] 39) = W at *
  go_wp2_with fail
  refine HC.out.mono ?_
  rintro ev w2 ⟨rfl, rfl⟩
  clear HC
  go_wp2
  go_ret
  exact ⟨by simp, HN.out⟩
end Go.Proofs.Ytjjpfpgjpmedmaa
namespace Go.Proofs.Ytjjpfpgjpmedmaa
open Go.RowKit
attribute [local go_sem] Oper.semAt_some
theorem w7_cells {w : World} {ad : Addr} {n c k : Nat} {l : List MD.W7} (h : Lst w7E w (some ad) n c l) (hk : k < n) {p : MD.W7} (hp : l[k]? = some p) :
    w.cell? (ad.add (k * 7)) = some (.int .i64 p.b0) ∧ w.cell? (⟨(ad.add (k * 7)).block, (ad.add (k * 7)).off + 1, none⟩) = some (.int .i64 p.b1) ∧ w.cell? (⟨(ad.add (k * 7)).block, (ad.add (k * 7)).off + 2, none⟩) = some (.int .i64 p.b2) ∧ w.cell? (⟨(ad.add (k * 7)).block, (ad.add (k * 7)).off + 3, none⟩) = some (.int .i64 p.b3) ∧ w.cell? (⟨(ad.add (k * 7)).block, (ad.add (k * 7)).off + 4, none⟩) = some (.int .i64 p.b4) ∧ w.cell? (⟨(ad.add (k * 7)).block, (ad.add (k * 7)).off + 5, none⟩) = some (.int .i64 p.b5) ∧ w.cell? (⟨(ad.add (k * 7)).block, (ad.add (k * 7)).off + 6, none⟩) = some (.int .i64 p.v) := by
  obtain ⟨ad', p', e, hp', _, _, h0⟩ := w7_at h hk
  injection e with e
  rw [hp] at hp'
  injection hp' with hp'
  subst e hp'
  exact h0
theorem seven {w : World} {B : Nat} {T : TypeId} {v0 v1 v2 v3 v4 v5 v6 : Value} (h : Blk w B [v0, v1, v2, v3, v4, v5, v6] T) : w.cell? ⟨B, 0, none⟩ = some v0 ∧ w.cell? ⟨B, 1, none⟩ = some v1 ∧ w.cell? ⟨B, 2, none⟩ = some v2 ∧ w.cell? ⟨B, 3, none⟩ = some v3 ∧ w.cell? ⟨B, 4, none⟩ = some v4 ∧ w.cell? ⟨B, 5, none⟩ = some v5 ∧ w.cell? ⟨B, 6, none⟩ = some v6 :=
  ⟨h.cell rfl, h.cell rfl, h.cell rfl, h.cell rfl, h.cell rfl, h.cell rfl, h.cell rfl⟩
theorem free7 {w : World} {B : Nat} {T : TypeId} {cs : List Value} (h : Blk w B cs T) : w.frozen? ⟨B, 0, none⟩ = false ∧ w.frozen? ⟨B, 1, none⟩ = false ∧ w.frozen? ⟨B, 2, none⟩ = false ∧ w.frozen? ⟨B, 3, none⟩ = false ∧ w.frozen? ⟨B, 4, none⟩ = false ∧ w.frozen? ⟨B, 5, none⟩ = false ∧ w.frozen? ⟨B, 6, none⟩ = false :=
  ⟨h.frozen 0, h.frozen 1, h.frozen 2, h.frozen 3, h.frozen 4, h.frozen 5, h.frozen 6⟩
theorem Blk.seven {w : World} {B : Nat} {T : TypeId} {v0 v1 v2 v3 v4 v5 v6 : Value} (h : Blk w B [v0, v1, v2, v3, v4, v5, v6] T) (u0 u1 u2 u3 u4 u5 u6 : Value) : Blk (((((((w.setCell ⟨B, 0, none⟩ u0).setCell ⟨B, 1, none⟩ u1).setCell ⟨B, 2, none⟩ u2).setCell ⟨B, 3, none⟩ u3).setCell ⟨B, 4, none⟩ u4).setCell ⟨B, 5, none⟩ u5).setCell ⟨B, 6, none⟩ u6) B [u0, u1, u2, u3, u4, u5, u6] T :=
  ((((((h.set 0 u0).set 1 u1).set 2 u2).set 3 u3).set 4 u4).set 5 u5).set 6 u6
theorem blk_far {w : World} {B B' : Nat} {T : TypeId} {cs : List Value} (h : Blk w B' cs T) (hne : B' ≠ B) (u0 u1 u2 u3 u4 u5 u6 : Value) : Blk (((((((w.setCell ⟨B, 0, none⟩ u0).setCell ⟨B, 1, none⟩ u1).setCell ⟨B, 2, none⟩ u2).setCell ⟨B, 3, none⟩ u3).setCell ⟨B, 4, none⟩ u4).setCell ⟨B, 5, none⟩ u5).setCell ⟨B, 6, none⟩ u6) B' cs T :=
  ((((((h.other hne 0 u0).other hne 1 u1).other hne 2 u2).other hne 3 u3).other hne 4 u4).other hne 5 u5).other hne 6 u6
theorem blk_far6 {w : World} {B B' : Nat} {T : TypeId} {cs : List Value} (h : Blk w B' cs T) (hne : B' ≠ B) (u0 u1 u2 u3 u4 u5 : Value) : Blk ((((((w.setCell ⟨B, 0, none⟩ u0).setCell ⟨B, 1, none⟩ u1).setCell ⟨B, 2, none⟩ u2).setCell ⟨B, 3, none⟩ u3).setCell ⟨B, 4, none⟩ u4).setCell ⟨B, 5, none⟩ u5) B' cs T :=
  (((((h.other hne 0 u0).other hne 1 u1).other hne 2 u2).other hne 3 u3).other hne 4 u4).other hne 5 u5
theorem below_seven {w wr : World} {n : Nat} (h : Below n w wr) (B : Nat) (hB : n ≤ B) (u0 u1 u2 u3 u4 u5 u6 : Value) : Below n w (((((((wr.setCell ⟨B, 0, none⟩ u0).setCell ⟨B, 1, none⟩ u1).setCell ⟨B, 2, none⟩ u2).setCell ⟨B, 3, none⟩ u3).setCell ⟨B, 4, none⟩ u4).setCell ⟨B, 5, none⟩ u5).setCell ⟨B, 6, none⟩ u6) :=
  (below_six h B hB u0 u1 u2 u3 u4 u5).setCell (p := ⟨B, 6, none⟩) hB u6
set_option maxRecDepth 100000 in
theorem isNaN64_any (x : Int) (w : World) : Calls Try.prog 105 #[.int .i64 x] w fun e w' => e = .returned (.bool false) ∧ w = w' := by
  go_enter Try.func105, Try.ntmps105
  go_wp2
  go_ret
  exact ⟨by simp, rfl⟩
set_option maxRecDepth 100000 in
set_option maxHeartbeats 400000 in
theorem cmp64_any (x y : Int) (w : World) : Calls Try.prog 94 #[.int .i64 x, .int .i64 y] w fun e w' => e = .returned (.int .i64 (cmp3 x y)) ∧ w = w' := by
  by_cases h1 : x < y
  · have E : Hid (cmp3 x y = -1) := Lib.hid (if_pos h1)
    go_enter Try.func94, Try.ntmps94
    go_wp2_with (go_at_call 105; refine (isNaN64_any _ _).mono ?_; rintro e w' ⟨rfl, rfl⟩)
    go_ret
    exact ⟨by rw [E.out]; rfl, rfl⟩
  · by_cases h2 : y < x
    · have E : Hid (cmp3 x y = 1) := Lib.hid (by unfold cmp3; rw [if_neg h1, if_pos h2])
      go_enter Try.func94, Try.ntmps94
      go_wp2_with (go_at_call 105; refine (isNaN64_any _ _).mono ?_; rintro e w' ⟨rfl, rfl⟩)
      go_ret
      exact ⟨by rw [E.out]; rfl, rfl⟩
    · have E : Hid (cmp3 x y = 0) := Lib.hid (by unfold cmp3; rw [if_neg h1, if_neg h2])
      go_enter Try.func94, Try.ntmps94
      go_wp2_with (go_at_call 105; refine (isNaN64_any _ _).mono ?_; rintro e w' ⟨rfl, rfl⟩)
      go_ret
      exact ⟨by rw [E.out]; rfl, rfl⟩
set_option maxRecDepth 100000 in
set_option maxHeartbeats 1000000 in
theorem optcmp_any (x y : MD.W7) (w : World) : Calls Try.prog 79 #[agg_w7 x, agg_w7 y] w (Gives (.int .i64 (cmp3 x.v y.v)) w) := by
  obtain ⟨x0, x1, x2, x3, x4, x5, xv⟩ := x
  obtain ⟨y0, y1, y2, y3, y4, y5, yv⟩ := y
  change Calls Try.prog 79 #[.agg #[.int .i64 x0, .int .i64 x1, .int .i64 x2, .int .i64 x3, .int .i64 x4, .int .i64 x5, .int .i64 xv], .agg #[.int .i64 y0, .int .i64 y1, .int .i64 y2, .int .i64 y3, .int .i64 y4, .int .i64 y5, .int .i64 yv]] w (Gives (.int .i64 (cmp3 xv yv)) w)
  have HB := Lib.hid (below_two w (.cells #[.int .i64 x0, .int .i64 x1, .int .i64 x2, .int .i64 x3, .int .i64 x4, .int .i64 x5, .int .i64 xv] 81) (.cells #[.int .i64 y0, .int .i64 y1, .int .i64 y2, .int .i64 y3, .int .i64 y4, .int .i64 y5, .int .i64 yv] 81))
  have X0 := Lib.hid (show Blk _ w.heap.size _ _ from (Blk.new w #[.int .i64 x0, .int .i64 x1, .int .i64 x2, .int .i64 x3, .int .i64 x4, .int .i64 x5, .int .i64 xv] 81).keep (below_new _ (.cells #[.int .i64 y0, .int .i64 y1, .int .i64 y2, .int .i64 y3, .int .i64 y4, .int .i64 y5, .int .i64 yv] 81)))
  have Y0 := Lib.hid (Blk.new (w.alloc (.cells #[.int .i64 x0, .int .i64 x1, .int .i64 x2, .int .i64 x3, .int .i64 x4, .int .i64 x5, .int .i64 xv] 81)) #[.int .i64 y0, .int .i64 y1, .int .i64 y2, .int .i64 y3, .int .i64 y4, .int .i64 y5, .int .i64 yv] 81)
  rw [World.size_alloc] at Y0
  go_enter Try.func79, Try.ntmps79
  go_upto_region 1 with (fail)
  generalize (w.alloc (.cells #[.int .i64 x0, .int .i64 x1, .int .i64 x2, .int .i64 x3, .int .i64 x4, .int .i64 x5, .int .i64 xv] 81)).alloc (.cells #[.int .i64 y0, .int .i64 y1, .int .i64 y2, .int .i64 y3, .int .i64 y4, .int .i64 y5, .int .i64 yv] 81) = w1 at *
  obtain ⟨_, _, _, _, _, _, a6⟩ := seven X0.out
  obtain ⟨_, _, _, _, _, _, b6⟩ := seven Y0.out
  go_wp2_with (go_at_call 94; refine (cmp64_any _ _ _).mono ?_; rintro e w' ⟨rfl, rfl⟩)
  go_ret
  exact ⟨rfl, HB.out⟩
theorem mx_step {l : List MD.W7} {k : Nat} {x x0 : MD.W7} (h : l[k]? = some x) : (l.take (k + 1)).foldl MD.mstep x0 = if ((l.take k).foldl MD.mstep x0).v < x.v then x else (l.take k).foldl MD.mstep x0 := by
  rw [take_snoc' h, List.foldl_append]; rfl
set_option maxRecDepth 100000 in
set_option maxHeartbeats 4000000 in
theorem optmax_any (ad : Addr) (n c : Nat) (l : List MD.W7) (x0 : MD.W7) (h0 : l[0]? = some x0) (w : World) (hl : Lst w7E w (some ad) n c l) : Calls Try.prog 78 #[.slice (some ad) n c, .func (.func 79) #[] #[]] w (Gives (agg_w7 (l.foldl MD.mstep x0)) w) := by
  have HL := Lib.hid hl
  have hn := hl.few
  have hn0 : 0 < n := by
    have := (List.getElem?_eq_some_iff.1 h0).1
    rw [hl.len] at this; exact this
  obtain ⟨M0, hM0⟩ : ∃ F : List MD.W7 → MD.W7, F = fun T => T.foldl MD.mstep x0 := ⟨_, rfl⟩
  have HN : l.foldl MD.mstep x0 = M0 (l.take n) := by rw [hM0, ← hl.len, List.take_length]
  rw [HN]
  have HM1 := Lib.hid (show M0 (l.take 1) = x0 from by rw [hM0]; dsimp only; rw [mx_step h0]; show (if x0.v < x0.v then _ else x0) = x0; rw [if_neg (Int.lt_irrefl _)])
  have HST := Lib.hid (fun (k : Nat) (x : MD.W7) (h : l[k]? = some x) => (by rw [hM0]; exact mx_step h : M0 (l.take (k + 1)) = if (M0 (l.take k)).v < x.v then x else M0 (l.take k)))
  have eg : ∀ args w, (callFunc 79 args).run Try.prog w = .ok (.enter 79 args) w := enters_of Try.func79 (by kernel_rfl) rfl
  have hmo : Try.prog.follows .mixedOrders = true := by kernel_rfl
  clear hM0 HN hl
  obtain ⟨e0, e1, e2, e3, e4, e5, e6⟩ := w7_cells (HL.out.keep (below_new w (.cells #[.int .i64 0, .int .i64 0, .int .i64 0, .int .i64 0, .int .i64 0, .int .i64 0, .int .i64 0] 81))) hn0 h0
  have HX0 := Lib.hid h0
  rw [show ad.add (0 * 7) = ad from by unfold Addr.add; simp] at e0 e1 e2 e3 e4 e5 e6
  have hd1 : decide ((n : Int) < 1) = false := decide_eq_false (by omega)
  obtain ⟨y0, y1, y2, y3, y4, y5, yv⟩ := x0
  dsimp only at e0 e1 e2 e3 e4 e5 e6
  have R0 := Lib.hid (Blk.new w #[.int .i64 0, .int .i64 0, .int .i64 0, .int .i64 0, .int .i64 0, .int .i64 0, .int .i64 0] 81)
  have BB0 := Lib.hid (below_new w (.cells #[.int .i64 0, .int .i64 0, .int .i64 0, .int .i64 0, .int .i64 0, .int .i64 0, .int .i64 0] 81))
  have hz0 : (w.alloc (.cells #[.int .i64 0, .int .i64 0, .int .i64 0, .int .i64 0, .int .i64 0, .int .i64 0, .int .i64 0] 81)).heap.size = w.heap.size + 1 := by simp
  clear h0
  go_enter Try.func78, Try.ntmps78
  go_upto_region 4 with (fail)
  have nb := below_new (w.alloc (.cells #[.int .i64 0, .int .i64 0, .int .i64 0, .int .i64 0, .int .i64 0, .int .i64 0, .int .i64 0] 81)) (.cells #[.int .i64 y0, .int .i64 y1, .int .i64 y2, .int .i64 y3, .int .i64 y4, .int .i64 y5, .int .i64 yv] 81)
  have M1 := Lib.hid (Blk.new (w.alloc (.cells #[.int .i64 0, .int .i64 0, .int .i64 0, .int .i64 0, .int .i64 0, .int .i64 0, .int .i64 0] 81)) #[.int .i64 y0, .int .i64 y1, .int .i64 y2, .int .i64 y3, .int .i64 y4, .int .i64 y5, .int .i64 yv] 81)
  have R1 := Lib.hid (R0.out.keep nb)
  have B1 := Lib.hid (BB0.out.trans (nb.mono BB0.out.size))
  rw [hz0] at M1
  clear nb R0 BB0 hz0 e0 e1 e2 e3 e4 e5 e6
  generalize (w.alloc (.cells #[.int .i64 0, .int .i64 0, .int .i64 0, .int .i64 0, .int .i64 0, .int .i64 0, .int .i64 0] 81)).alloc (.cells #[.int .i64 y0, .int .i64 y1, .int .i64 y2, .int .i64 y3, .int .i64 y4, .int .i64 y5, .int .i64 yv] 81) = w1 at *
  go_wp2_with fail
  go_loopw [6] (fun i wr => ∃ k : Nat, k ≤ n ∧ 1 ≤ k ∧ i = .int .i64 k ∧ Blk wr (w.heap.size + 1) (cells_w7 (M0 (l.take k))) 81 ∧ Blk wr w.heap.size [.int .i64 0, .int .i64 0, .int .i64 0, .int .i64 0, .int .i64 0, .int .i64 0, .int .i64 0] 81 ∧ Below w.heap.size w wr) (fun i _ => n - (intOf i).toNat)
  case atStart => exact ⟨1, hn0, Nat.le_refl _, rfl, by rw [HM1.out]; exact M1.out, R1.out, B1.out⟩
  case round =>
    obtain ⟨k, hk, hk1, rfl, hm, hr, hbw⟩ := hrel
    have K := Lib.hid hm
    have R := Lib.hid hr
    have HB := Lib.hid hbw
    have hk1' : 1 ≤ k + 1 := by omega
    clear hm hr hbw M1 R1 B1 HM1
    by_cases hlt : k < n
    · obtain ⟨x, hx⟩ : ∃ x, l[k]? = some x := ⟨l[k]'(by rw [HL.out.len]; exact hlt), List.getElem?_eq_getElem _⟩
      have HS := Lib.hid (HST.out k x hx)
      have HX := Lib.hid hx
      clear hx
      obtain ⟨M', hM'⟩ : ∃ M', M' = M0 (l.take (k + 1)) := ⟨_, rfl⟩
      rw [← hM'] at HS
      have HRS := Lib.hid hM'.symm
      clear hM'
      generalize M0 (l.take k) = M at *
      obtain ⟨m0, m1, m2, m3, m4, m5, mv⟩ := M
      obtain ⟨x0, x1, x2, x3, x4, x5, xv⟩ := x
      go_upto_region 7 with (fail)
      have MY := Lib.hid (show Blk wr.drew (w.heap.size + 1) [.int .i64 m0, .int .i64 m1, .int .i64 m2, .int .i64 m3, .int .i64 m4, .int .i64 m5, .int .i64 mv] 81 from K.out.keep (below_drawn wr))
      have RY := Lib.hid (R.out.keep (below_drawn wr))
      have BY := Lib.hid (HB.out.trans ((below_drawn wr).mono HB.out.size))
      have LY := Lib.hid (HL.out.keep BY.out)
      clear K R HB
      refine wp_region_held_drew (S := fun w' => Lst w7E w' (some ad) n c l ∧ Blk w' (w.heap.size + 1) [.int .i64 m0, .int .i64 m1, .int .i64 m2, .int .i64 m3, .int .i64 m4, .int .i64 m5, .int .i64 mv] 81) hmo ⟨LY.out, MY.out⟩ (fun hHeld => ?_)
      generalize wr.drew = Y at *
      refine wpAnyH_take (i := 0) (oi := { dst := some 20, op := Op.move (Operand.tmp 1), type := 106, pos := "sort.go:115", after := #[], guard := none }) (v := ?_) rfl (by kernel_rfl) (by kernel_rfl) (by kernel_rfl) (fun _ _ _ h => h) (Or.inl ⟨by rfl, ?_⟩) (by assumption) ?_
      rotate_left
      · intro w hSw; (try dsimp only at hSw); obtain ⟨hLS, hMS⟩ := hSw; obtain ⟨e0, e1, e2, e3, e4, e5, e6⟩ := w7_cells hLS hlt HX.out; obtain ⟨m0', m1', m2', m3', m4', m5', m6'⟩ := seven hMS; dsimp only at e0 e1 e2 e3 e4 e5 e6; go_simp; try with_reducible rfl
      (try simp only [Act.put, List.setIfInBounds_toArray, List.set_cons_zero, List.set_cons_succ])
      refine wpAnyH_take (i := 1) (oi := { dst := some 21, op := Op.move (Operand.tmp 0), type := 76, pos := "sort.go:115", after := #[], guard := none }) (v := ?_) rfl (by kernel_rfl) (by kernel_rfl) (by kernel_rfl) (fun _ _ _ h => h) (Or.inl ⟨by rfl, ?_⟩) (by assumption) ?_
      rotate_left
      · intro w hSw; (try dsimp only at hSw); obtain ⟨hLS, hMS⟩ := hSw; obtain ⟨e0, e1, e2, e3, e4, e5, e6⟩ := w7_cells hLS hlt HX.out; obtain ⟨m0', m1', m2', m3', m4', m5', m6'⟩ := seven hMS; dsimp only at e0 e1 e2 e3 e4 e5 e6; go_simp; try with_reducible rfl
      (try simp only [Act.put, List.setIfInBounds_toArray, List.set_cons_zero, List.set_cons_succ])
      refine wpAnyH_take (i := 2) (oi := { dst := some 22, op := Op.move (Operand.tmp 6), type := 3, pos := "sort.go:115", after := #[], guard := none }) (v := ?_) rfl (by kernel_rfl) (by kernel_rfl) (by kernel_rfl) (fun _ _ _ h => h) (Or.inl ⟨by rfl, ?_⟩) (by assumption) ?_
      rotate_left
      · intro w hSw; (try dsimp only at hSw); obtain ⟨hLS, hMS⟩ := hSw; obtain ⟨e0, e1, e2, e3, e4, e5, e6⟩ := w7_cells hLS hlt HX.out; obtain ⟨m0', m1', m2', m3', m4', m5', m6'⟩ := seven hMS; dsimp only at e0 e1 e2 e3 e4 e5 e6; go_simp; try with_reducible rfl
      (try simp only [Act.put, List.setIfInBounds_toArray, List.set_cons_zero, List.set_cons_succ])
      refine wpAnyH_take (i := 3) (oi := { dst := some 23, op := Op.indexAddr 76 (Operand.tmp 21) (Operand.tmp 22), type := 0, pos := "sort.go:115", after := #[{ on := 1, ground := Ground.data }, { on := 2, ground := Ground.data }], guard := none }) (v := ?_) rfl (by kernel_rfl) (by kernel_rfl) (by kernel_rfl) (fun _ _ _ h => h) (Or.inl ⟨by rfl, ?_⟩) (by assumption) ?_
      rotate_left
      · intro w hSw; (try dsimp only at hSw); obtain ⟨hLS, hMS⟩ := hSw; obtain ⟨e0, e1, e2, e3, e4, e5, e6⟩ := w7_cells hLS hlt HX.out; obtain ⟨m0', m1', m2', m3', m4', m5', m6'⟩ := seven hMS; dsimp only at e0 e1 e2 e3 e4 e5 e6; go_simp; try with_reducible rfl
      (try simp only [Act.put, List.setIfInBounds_toArray, List.set_cons_zero, List.set_cons_succ])
      refine wpAnyH_take (i := 4) (oi := { dst := some 24, op := Op.load 81 (Operand.tmp 23), type := 81, pos := "sort.go:115", after := #[{ on := 3, ground := Ground.data }], guard := none }) (v := ?_) rfl (by kernel_rfl) (by kernel_rfl) (by kernel_rfl) (fun _ _ _ h => h) (Or.inl ⟨by rfl, ?_⟩) (by assumption) ?_
      rotate_left
      · intro w hSw; (try dsimp only at hSw); obtain ⟨hLS, hMS⟩ := hSw; obtain ⟨e0, e1, e2, e3, e4, e5, e6⟩ := w7_cells hLS hlt HX.out; obtain ⟨m0', m1', m2', m3', m4', m5', m6'⟩ := seven hMS; dsimp only at e0 e1 e2 e3 e4 e5 e6; go_simp; try with_reducible rfl
      (try simp only [Act.put, List.setIfInBounds_toArray, List.set_cons_zero, List.set_cons_succ])
      refine wpAnyH_take (i := 5) (oi := { dst := some 25, op := Op.load 81 (Operand.tmp 5), type := 81, pos := "sort.go:115", after := #[], guard := none }) (v := ?_) rfl (by kernel_rfl) (by kernel_rfl) (by kernel_rfl) (fun _ _ _ h => h) (Or.inl ⟨by rfl, ?_⟩) (by assumption) ?_
      rotate_left
      · intro w hSw; (try dsimp only at hSw); obtain ⟨hLS, hMS⟩ := hSw; obtain ⟨e0, e1, e2, e3, e4, e5, e6⟩ := w7_cells hLS hlt HX.out; obtain ⟨m0', m1', m2', m3', m4', m5', m6'⟩ := seven hMS; dsimp only at e0 e1 e2 e3 e4 e5 e6; go_simp; try with_reducible rfl
      (try simp only [Act.put, List.setIfInBounds_toArray, List.set_cons_zero, List.set_cons_succ])
      refine wpAnyH_ready (rs := [6]) (by kernel_rfl) (by simp) ?_
      refine AllReadyH.cons (o := { dst := some 26, op := Op.call { callee := Callee.value (Operand.tmp 20), args := #[Operand.tmp 24, Operand.tmp 25], argTypes := #[81, 81] }, type := 3, pos := "sort.go:115", after := #[{ on := 0, ground := Ground.data }, { on := 4, ground := Ground.data }, { on := 5, ground := Ground.data }], guard := none }) rfl (fun K hK => ?_) AllReadyH.nil
      go_simp
      refine (optcmp_any ⟨x0, x1, x2, x3, x4, x5, xv⟩ ⟨m0, m1, m2, m3, m4, m5, mv⟩ Y).mono ?_
      rintro ev v1 ⟨rfl, nb⟩
      have M2 := Lib.hid (MY.out.keep nb)
      have R2 := Lib.hid (RY.out.keep nb)
      have B2 := Lib.hid (BY.out.trans (nb.mono BY.out.size))
      have L2 := Lib.hid (LY.out.keep nb)
      clear nb MY BY LY RY
      refine hK.out _ _ ?_ (fun hHeld => ?_)
      · exact ⟨L2.out, M2.out⟩
      clear hK K
      refine wpAnyH_take (i := 7) (oi := { dst := some 27, op := Op.binOp BinOp.gtr 3 (Operand.tmp 26) (Operand.const (Value.int IntKind.i64 0)) 3, type := 4, pos := "sort.go:115", after := #[{ on := 6, ground := Ground.data }], guard := none }) (v := ?_) rfl (by kernel_rfl) (by kernel_rfl) (by kernel_rfl) (fun _ _ _ h => h) (Or.inl ⟨by rfl, ?_⟩) (by assumption) ?_
      rotate_left
      · intro w hSw; (try dsimp only at hSw); obtain ⟨hLS, hMS⟩ := hSw; obtain ⟨e0, e1, e2, e3, e4, e5, e6⟩ := w7_cells hLS hlt HX.out; obtain ⟨m0', m1', m2', m3', m4', m5', m6'⟩ := seven hMS; dsimp only at e0 e1 e2 e3 e4 e5 e6; go_simp; try with_reducible rfl
      (try simp only [Act.put, List.setIfInBounds_toArray, List.set_cons_zero, List.set_cons_succ])
      refine wpAnyH_done (by kernel_rfl) ?_ _
      clear hHeld
      have hlsz := Lib.hid L2.out
      by_cases hg : mv < xv
      · have hc : cmp3 xv mv = 1 := by unfold cmp3; rw [if_neg (by omega), if_pos hg]
        have HE := Lib.hid (HS.out.trans (if_pos hg))
        obtain ⟨e0, e1, e2, e3, e4, e5, e6⟩ := w7_cells L2.out hlt HX.out
        dsimp only at e0 e1 e2 e3 e4 e5 e6
        obtain ⟨g0, g1, g2, g3, g4, g5, g6⟩ := seven M2.out
        obtain ⟨f0, f1, f2, f3, f4, f5, f6⟩ := free7 M2.out
        rw [hc]
        clear HS hc hg
        go_upto_region 6 with (fail)
        have M3 := Lib.hid (M2.out.seven (.int .i64 x0) (.int .i64 x1) (.int .i64 x2) (.int .i64 x3) (.int .i64 x4) (.int .i64 x5) (.int .i64 xv))
        have R3 := Lib.hid (blk_far R2.out (show w.heap.size ≠ w.heap.size + 1 by omega) (.int .i64 x0) (.int .i64 x1) (.int .i64 x2) (.int .i64 x3) (.int .i64 x4) (.int .i64 x5) (.int .i64 xv))
        have B3 := Lib.hid (below_seven B2.out (w.heap.size + 1) (Nat.le_succ _) (.int .i64 x0) (.int .i64 x1) (.int .i64 x2) (.int .i64 x3) (.int .i64 x4) (.int .i64 x5) (.int .i64 xv))
        clear e0 e1 e2 e3 e4 e5 e6 f0 f1 f2 f3 f4 f5 f6 g0 g1 g2 g3 g4 g5 g6
        go_wp2
        go_roundw
        case rel => exact ⟨k + 1, by omega, hk1', by go_num, by rw [HRS.out, HE.out]; exact M3.out, R3.out, B3.out⟩
        case measure => simp [intOf]; omega
      · have hc : cmp3 xv mv = -1 ∨ cmp3 xv mv = 0 := by unfold cmp3; rw [if_neg hg]; split <;> simp
        have HE := Lib.hid (HS.out.trans (if_neg hg))
        rcases hc with hc | hc
        · rw [hc]
          clear HS hc hg
          go_wp2
          go_roundw
          case rel => exact ⟨k + 1, by omega, hk1', by go_num, by rw [HRS.out, HE.out]; exact M2.out, R2.out, B2.out⟩
          case measure => simp [intOf]; omega
        · rw [hc]
          clear HS hc hg
          go_wp2
          go_roundw
          case rel => exact ⟨k + 1, by omega, hk1', by go_num, by rw [HRS.out, HE.out]; exact M2.out, R2.out, B2.out⟩
          case measure => simp [intOf]; omega
    · obtain rfl : k = n := by omega
      generalize M0 (l.take k) = M at *
      obtain ⟨m0, m1, m2, m3, m4, m5, mv⟩ := M
      have K2 : Blk wr (w.heap.size + 1) [.int .i64 m0, .int .i64 m1, .int .i64 m2, .int .i64 m3, .int .i64 m4, .int .i64 m5, .int .i64 mv] 81 := K.out
      obtain ⟨g0, g1, g2, g3, g4, g5, g6⟩ := seven K2
      obtain ⟨z0, z1, z2, z3, z4, z5, z6⟩ := seven R.out
      obtain ⟨f0, f1, f2, f3, f4, f5, f6⟩ := free7 R.out
      have hz := R.out.lt
      have RR := R.out.seven (.int .i64 m0) (.int .i64 m1) (.int .i64 m2) (.int .i64 m3) (.int .i64 m4) (.int .i64 m5) (.int .i64 mv)
      obtain ⟨y0, y1, y2, y3, y4, y5, y6⟩ := seven RR
      have HBL := Lib.hid (below_seven HB.out w.heap.size (Nat.le_refl _) (.int .i64 m0) (.int .i64 m1) (.int .i64 m2) (.int .i64 m3) (.int .i64 m4) (.int .i64 m5) (.int .i64 mv))
      clear K2 RR
      go_wp2
      refine bodyPost_ret (v := agg_w7 ⟨m0, m1, m2, m3, m4, m5, mv⟩) (by unfold agg_w7; simp [results, Try.results78, go_sem, y0, y1, y2, y3, y4, y5, y6]) rfl ⟨rfl, HBL.out⟩
set_option maxRecDepth 100000 in
set_option maxHeartbeats 4000000 in
theorem best1_any (A : Option Addr) (n c : Nat) (l : List MD.W7) (w : World) (hl : Lst w7E w A n c l) : Calls Try.prog 52 #[.slice A n c] w (Gives (.tuple #[aggB (MD.bst l).1, .int .i64 (MD.bst l).2]) w) := by
  have HB0 := Lib.hid (below_new w (.cells #[.int .i64 0, .int .i64 0, .int .i64 0, .int .i64 0, .int .i64 0, .int .i64 0] 24))
  have R0 := Lib.hid (BB.new w 24 0 0 0 0 0 0)
  have HL := Lib.hid (hl.keep HB0.out)
  have hn := hl.few
  have hmo : Try.prog.follows .mixedOrders = true := by kernel_rfl
  have hlen := hl.len
  have hz0 : (w.alloc (.cells #[.int .i64 0, .int .i64 0, .int .i64 0, .int .i64 0, .int .i64 0, .int .i64 0] 24)).heap.size = w.heap.size + 1 := by simp
  have hA : 0 < n → ∃ ad, A = some ad := fun h => by obtain ⟨ad, _, e, _⟩ := w7_at hl h; exact ⟨ad, e⟩
  clear hl
  go_enter Try.func52, Try.ntmps52
  go_upto_region 1 with (fail)
  generalize w.alloc (.cells #[.int .i64 0, .int .i64 0, .int .i64 0, .int .i64 0, .int .i64 0, .int .i64 0] 24) = w1 at *
  cases l with
  | nil =>
    obtain rfl : 0 = n := hlen
    obtain ⟨z0, z1, z2, z3, z4, z5⟩ := cells6 R0.out
    obtain ⟨f0, f1, f2, f3, f4, f5⟩ := free6 R0.out
    obtain ⟨y0, y1, y2, y3, y4, y5⟩ := cells6 (R0.out.six 0 0 0 0 0 0)
    have HBL := Lib.hid (below_six HB0.out w.heap.size (Nat.le_refl _) (.int .i64 0) (.int .i64 0) (.int .i64 0) (.int .i64 0) (.int .i64 0) (.int .i64 0))
    have hz := R0.out.lt
    go_wp2
    refine bodyPost_ret (v := .tuple #[.agg #[.int .i64 0, .int .i64 0, .int .i64 0, .int .i64 0, .int .i64 0, .int .i64 0], .int .i64 0]) (by simp [results, Try.results52, go_sem, y0, y1, y2, y3, y4, y5]) rfl ⟨rfl, HBL.out⟩
  | cons x0 r =>
    have hn0 : 0 < n := by rw [← hlen]; exact Nat.succ_pos _
    obtain ⟨ad, rfl⟩ := hA hn0
    have hd : ((n : Int) == 0) = false := by rw [beq_eq_false_iff_ne]; omega
    have HM := Lib.hid (show ∀ w', Lst w7E w' (some ad) n c (x0 :: r) → Calls Try.prog 78 #[.slice (some ad) n c, .func (.func 79) #[] #[]] w' (Gives (agg_w7 ((x0 :: r).foldl MD.mstep x0)) w') from fun w' h => optmax_any ad n c (x0 :: r) x0 rfl w' h)
    have HE0 := Lib.hid (show MD.bst (x0 :: r) = (((x0 :: r).foldl MD.mstep x0).want, ((x0 :: r).foldl MD.mstep x0).v) from by
      show ((r.foldl MD.mstep x0).want, (r.foldl MD.mstep x0).v) = _
      rw [List.foldl_cons, show MD.mstep x0 x0 = x0 from by unfold MD.mstep; rw [if_neg (Int.lt_irrefl _)]])
    generalize (x0 :: r).foldl MD.mstep x0 = M at *
    obtain ⟨m0, m1, m2, m3, m4, m5, mv⟩ := M
    have HE := Lib.hid (show MD.bst (x0 :: r) = ([m0, m1, m2, m3, m4, m5], mv) from HE0.out)
    clear HE0 hlen hA
    unfold agg_w7 at HM
    dsimp only at HM
    go_wp2_with fail
    refine (HM.out _ HL.out).mono ?_
    rintro ev w3 ⟨rfl, nb⟩
    have R3 := Lib.hid (R0.out.keep nb R0.out.lt)
    have B3 := Lib.hid (HB0.out.trans (nb.mono HB0.out.size))
    have hlt3 := R3.out.lt
    clear nb R0 HB0 HL HM hd
    go_upto_region 4 with (fail)
    have nb := below_new w3 (.cells #[.int .i64 m0, .int .i64 m1, .int .i64 m2, .int .i64 m3, .int .i64 m4, .int .i64 m5, .int .i64 mv] 81)
    have MY := Lib.hid (show Blk _ w3.heap.size [.int .i64 m0, .int .i64 m1, .int .i64 m2, .int .i64 m3, .int .i64 m4, .int .i64 m5, .int .i64 mv] 81 from (Blk.new w3 #[.int .i64 m0, .int .i64 m1, .int .i64 m2, .int .i64 m3, .int .i64 m4, .int .i64 m5, .int .i64 mv] 81).keep (below_drawn _))
    have RY := Lib.hid (show BB _ w.heap.size _ _ from (R3.out.keep nb R3.out.lt).keep (below_drawn _) (Nat.lt_of_lt_of_le R3.out.lt nb.size))
    have BY := Lib.hid (show Below w.heap.size w (w3.alloc (.cells #[.int .i64 m0, .int .i64 m1, .int .i64 m2, .int .i64 m3, .int .i64 m4, .int .i64 m5, .int .i64 mv] 81)).drew from (B3.out.trans (nb.mono B3.out.size)).drew)
    clear nb R3 B3
    refine wp_region_held_drew (S := fun w' => Blk w' (w3.heap.size) [.int .i64 m0, .int .i64 m1, .int .i64 m2, .int .i64 m3, .int .i64 m4, .int .i64 m5, .int .i64 mv] 81) hmo MY.out (fun hHeld => ?_)
    generalize (w3.alloc (.cells #[.int .i64 m0, .int .i64 m1, .int .i64 m2, .int .i64 m3, .int .i64 m4, .int .i64 m5, .int .i64 mv] 81)).drew = Y at *
    refine wpAnyH_take (i := 0) (oi := { dst := some 11, op := Op.fieldAddr 81 (Operand.tmp 4) 0, type := 0, pos := "options.go:59", after := #[], guard := none }) (v := ?_) rfl (by kernel_rfl) (by kernel_rfl) (by kernel_rfl) (fun _ _ _ h => h) (Or.inl ⟨by rfl, ?_⟩) (by assumption) ?_
    rotate_left
    · intro w hSw; (try dsimp only at hSw); obtain ⟨g0, g1, g2, g3, g4, g5, g6⟩ := seven hSw; go_simp; try with_reducible rfl
    (try simp only [Act.put, List.setIfInBounds_toArray, List.set_cons_zero, List.set_cons_succ])
    refine wpAnyH_take (i := 1) (oi := { dst := some 12, op := Op.load 24 (Operand.tmp 11), type := 24, pos := "options.go:59", after := #[{ on := 0, ground := Ground.data }], guard := none }) (v := ?_) rfl (by kernel_rfl) (by kernel_rfl) (by kernel_rfl) (fun _ _ _ h => h) (Or.inl ⟨by rfl, ?_⟩) (by assumption) ?_
    rotate_left
    · intro w hSw; (try dsimp only at hSw); obtain ⟨g0, g1, g2, g3, g4, g5, g6⟩ := seven hSw; go_simp; try with_reducible rfl
    (try simp only [Act.put, List.setIfInBounds_toArray, List.set_cons_zero, List.set_cons_succ])
    refine wpAnyH_take (i := 2) (oi := { dst := some 13, op := Op.fieldAddr 81 (Operand.tmp 4) 1, type := 0, pos := "options.go:59", after := #[{ on := 4, ground := Ground.gcOnly Departure.lateStores }], guard := none }) (v := ?_) rfl (by kernel_rfl) (by kernel_rfl) (by kernel_rfl) (fun _ _ _ h => h) (Or.inl ⟨by rfl, ?_⟩) (by assumption) ?_
    rotate_left
    · intro w hSw; (try dsimp only at hSw); obtain ⟨g0, g1, g2, g3, g4, g5, g6⟩ := seven hSw; go_simp; try with_reducible rfl
    (try simp only [Act.put, List.setIfInBounds_toArray, List.set_cons_zero, List.set_cons_succ])
    refine wpAnyH_take (i := 3) (oi := { dst := some 14, op := Op.load 2 (Operand.tmp 13), type := 2, pos := "options.go:59", after := #[{ on := 2, ground := Ground.data }, { on := 4, ground := Ground.gcOnly Departure.lateStores }], guard := none }) (v := ?_) rfl (by kernel_rfl) (by kernel_rfl) (by kernel_rfl) (fun _ _ _ h => h) (Or.inl ⟨by rfl, ?_⟩) (by assumption) ?_
    rotate_left
    · intro w hSw; (try dsimp only at hSw); obtain ⟨g0, g1, g2, g3, g4, g5, g6⟩ := seven hSw; go_simp; try with_reducible rfl
    (try simp only [Act.put, List.setIfInBounds_toArray, List.set_cons_zero, List.set_cons_succ])
    refine wpAnyH_ready (rs := [4]) (by kernel_rfl) (by simp) ?_
    refine AllReadyH.cons (o := { dst := none, op := Op.store 24 (Operand.tmp 2) (Operand.tmp 12), type := 0, pos := "options.go:59", after := #[{ on := 1, ground := Ground.data }, { on := 0, ground := Ground.phase }, { on := 1, ground := Ground.phase }, { on := 2, ground := Ground.textOnly Departure.lateStores }, { on := 3, ground := Ground.textOnly Departure.lateStores }], guard := none }) rfl (fun K hK => ?_) AllReadyH.nil
    obtain ⟨f0, f1, f2, f3, f4, f5⟩ := free6 RY.out
    obtain ⟨z0, z1, z2, z3, z4, z5⟩ := cells6 RY.out
    go_simp
    have R5 := Lib.hid (RY.out.six m0 m1 m2 m3 m4 m5)
    have M5 := Lib.hid (blk_far6 MY.out (show w3.heap.size ≠ w.heap.size by omega) (.int .i64 m0) (.int .i64 m1) (.int .i64 m2) (.int .i64 m3) (.int .i64 m4) (.int .i64 m5))
    have B5 := Lib.hid (below_six BY.out w.heap.size (Nat.le_refl _) (.int .i64 m0) (.int .i64 m1) (.int .i64 m2) (.int .i64 m3) (.int .i64 m4) (.int .i64 m5))
    generalize ((((((Y.setCell ⟨w.heap.size, 0, none⟩ (.int .i64 m0)).setCell ⟨w.heap.size, 1, none⟩ (.int .i64 m1)).setCell ⟨w.heap.size, 2, none⟩ (.int .i64 m2)).setCell ⟨w.heap.size, 3, none⟩ (.int .i64 m3)).setCell ⟨w.heap.size, 4, none⟩ (.int .i64 m4)).setCell ⟨w.heap.size, 5, none⟩ (.int .i64 m5)) = w5 at *
    clear f0 f1 f2 f3 f4 f5 z0 z1 z2 z3 z4 z5 RY MY BY
    refine hK.out _ _ ?_ (fun hHeld => ?_)
    · exact M5.out
    clear hK K
    (try simp only [Act.put, List.setIfInBounds_toArray, List.set_cons_zero, List.set_cons_succ])
    refine wpAnyH_take (i := 5) (oi := { dst := some 3, op := Op.assign (Operand.tmp 14), type := 2, pos := "options.go:59", after := #[{ on := 3, ground := Ground.data }, { on := 4, ground := Ground.chain }, { on := 0, ground := Ground.phase }, { on := 1, ground := Ground.phase }, { on := 2, ground := Ground.phase }, { on := 3, ground := Ground.phase }, { on := 4, ground := Ground.phase }], guard := none }) (v := ?_) rfl (by kernel_rfl) (by kernel_rfl) (by kernel_rfl) (fun _ _ _ h => h) (Or.inl ⟨by rfl, ?_⟩) (by assumption) ?_
    rotate_left
    · intro w hSw; (try dsimp only at hSw); obtain ⟨g0, g1, g2, g3, g4, g5, g6⟩ := seven hSw; go_simp; try with_reducible rfl
    (try simp only [Act.put, List.setIfInBounds_toArray, List.set_cons_zero, List.set_cons_succ])
    refine wpAnyH_done (by kernel_rfl) ?_ _
    clear hHeld
    obtain ⟨z0, z1, z2, z3, z4, z5⟩ := cells6 R5.out
    have hz := R5.out.lt
    go_wp2
    refine bodyPost_ret (v := .tuple #[.agg #[.int .i64 m0, .int .i64 m1, .int .i64 m2, .int .i64 m3, .int .i64 m4, .int .i64 m5], .int .i64 mv]) (by simp [results, Try.results52, go_sem, z0, z1, z2, z3, z4, z5]) rfl ⟨by rw [HE.out]; rfl, B5.out⟩
end Go.Proofs.Ytjjpfpgjpmedmaa
