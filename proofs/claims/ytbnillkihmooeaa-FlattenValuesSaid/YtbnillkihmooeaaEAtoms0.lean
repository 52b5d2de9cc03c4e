/- Words for Atoms: no claim of its own. -/
import Derived.Test.YtbnillkihmooeaaECopy
namespace Go.Proofs.Ytbnillkihmooeaa
open Go.RowKit
open ME (F Nd)
def ntZ : NT := ⟨0, [0, 0, 0, 0, 0, 0], 0, none, 0, .nil⟩
theorem ntZ_cells : ntE.cells ntZ = [.int .i64 0, .int .i64 0, .int .i64 0, .int .i64 0, .int .i64 0, .int .i64 0, .int .i64 0, .int .i64 0, .slice none 0 0] := rfl
/-- The atoms so far. -/
def atomSt (s : List Nd) (n : Nd) : List Nd × Bool := (if n.o = 1 then s ++ [n] else s, true)
theorem atom_vis : ∀ (l s : List Nd), visL atomSt s l = (s ++ ME.atomsL l, true)
  | [], s => by simp [visL, ME.atomsL]
  | n :: r, s => by
    rw [visL_cons]
    show visL atomSt (if n.o = 1 then s ++ [n] else s) r = _
    rw [atom_vis r]
    unfold ME.atomsL
    by_cases h : n.o = 1
    · rw [if_pos h, List.filter_cons, if_pos (by simpa using h)]; simp
    · rw [if_neg h, List.filter_cons, if_neg (by simpa using h)]
/-- What lies while atoms are gathered. -/
structure AtS (w : World) (g0 : Nat) (D : Nat → Prop) (v : Value) (L : List NT) (wr : World) : Prop where
  own : OwnL ntE 26 wr (g0 + 1) v L
  ok : ∀ z ∈ L, z.Rk wr (fun k => g0 + 1 ≤ k ∧ v.ownBlock ≠ some k) ∧ z.Al
  kx : Kx D w wr
theorem grown_keep {wr w' : World} {r : Option Nat} (hg : wr.grownBy w' r) {z : NT} {ok ok' : Nat → Prop} (h : z.Rk wr ok) (hne : ∀ k, ok k → some k ≠ r) (hk : ∀ k, ok k → k < wr.heap.size → ok' k) : z.Rk w' ok' :=
  h.keep (fun k q hl => hg.block k hl (hne k q)) hg.size hk
theorem Kx.grown {D : Nat → Prop} {w wr w' : World} {r : Option Nat} (h : Kx D w wr) (hg : wr.grownBy w' r) (hr : ∀ k, r = some k → k < w.heap.size → D k) : Kx D w w' :=
  ⟨hg.os.trans h.os, hg.tape.trans h.tape, hg.output.trans h.output, Nat.le_trans h.size hg.size, fun k hk hd => (hg.block k (Nat.lt_of_lt_of_le hk h.size) (fun e => hd (hr k e.symm hk))).trans (h.block k hk hd)⟩
theorem grown_below {w w' : World} (hb : Below w.heap.size w w') : w.grownBy w' none := ⟨hb.os, hb.tape, hb.output, hb.size, fun k hk _ => hb.block k hk⟩
theorem grown_sets {w : World} {g : Nat} (vs : List Value) (o : Nat) : w.grownBy (sets w g o vs) (some g) := by
  obtain ⟨e1, e2, e3, e4⟩ := sets_same (g := g) vs w o
  exact ⟨e1, e2, e3, by rw [e4]; exact Nat.le_refl _, fun k _ hk => sets_far (fun e => hk (by rw [e])) vs w o⟩
theorem grown_set {w : World} {g : Nat} (v : Value) : w.grownBy (w.setCell ⟨g, 0, none⟩ v) (some g) :=
  ⟨rfl, rfl, rfl, by rw [World.size_setCell]; exact Nat.le_refl _, fun k _ hk => Below.heap_setCell w ⟨g, 0, none⟩ v k (fun e => hk (by rw [e]))⟩
section
variable {w wr w' : World} {g0 : Nat} {D : Nat → Prop} {v : Value} {L : List NT}
theorem AtS.keep (h : AtS w g0 D v L wr) (hb : Below wr.heap.size wr w') : AtS w g0 D v L w' :=
  ⟨h.own.keep hb, fun z hz => ⟨(h.ok z hz).1.below hb, (h.ok z hz).2⟩, h.kx.grown (grown_below hb) (fun _ e => by cases e)⟩
/-- One place more. -/
theorem AtS.app (h : AtS w g0 D v L wr) {g cap H : Nat} (hown : w'.ownsRow (g0 + 1) 26 9 (.slice (some ⟨g, 0, none⟩) (L.length + 1) cap) (L.length + 1) (ntE.all L ++ [.int .i64 0, .int .i64 0, .int .i64 0, .int .i64 0, .int .i64 0, .int .i64 0, .int .i64 0, .int .i64 0, .slice none 0 0])) (hg : wr.grownBy w' v.ownBlock) (hat : v.ownBlock = some g ∨ g = H) (hH : wr.heap.size = H) (hD : ∀ k, v.ownBlock = some k → D k) :
    OwnL ntE 26 w' (g0 + 1) (.slice (some ⟨g, 0, none⟩) (L.length + 1) cap) (L ++ [ntZ]) ∧ (∀ z ∈ L, z.Rk w' (fun k => g0 + 1 ≤ k ∧ k ≠ g) ∧ z.Al) ∧ Kx D w w' := by
  refine ⟨⟨?_, h.own.2.snoc rfl⟩, fun z hz => ⟨grown_keep hg (h.ok z hz).1 (fun k q e => q.2 e.symm) (fun k q hl => ⟨q.1, fun e => ?_⟩), (h.ok z hz).2⟩, h.kx.grown hg (fun k e _ => hD k e)⟩
  · have e : ntE.all (L ++ [ntZ]) = ntE.all L ++ [.int .i64 0, .int .i64 0, .int .i64 0, .int .i64 0, .int .i64 0, .int .i64 0, .int .i64 0, .int .i64 0, .slice none 0 0] := by rw [El.all_append, El.all_one, ntZ_cells]
    rw [e, List.length_append]
    exact hown
  · rcases hat with p | p
    · exact q.2 (by rw [p, e])
    · omega
/-- The new place filled. -/
theorem own_last {g cap : Nat} {y : NT} {u0 u1 u2 u3 u4 u5 u6 u7 u8 : Value} (h : OwnL ntE 26 wr (g0 + 1) (.slice (some ⟨g, 0, none⟩) (L.length + 1) cap) (L ++ [ntZ])) (hy : cellsE y.o y.b y.v y.A y.k.len y.c = [u0, u1, u2, u3, u4, u5, u6, u7, u8]) (h6 : y.b.length = 6) :
    OwnL ntE 26 (sets wr g (L.length * 9) [u0, u1, u2, u3, u4, u5, u6, u7, u8]) (g0 + 1) (.slice (some ⟨g, 0, none⟩) (L.length + 1) cap) (L ++ [y]) := by
  have hf : ntE.Fine L := fun z hz => h.2 z (List.mem_append_left _ hz)
  have hl : (ntE.all L).length = L.length * 9 := El.all_length hf
  have hyc : ntE.cells y = [u0, u1, u2, u3, u4, u5, u6, u7, u8] := hy
  refine ⟨?_, hf.snoc h6⟩
  obtain ⟨ho, hr⟩ := h
  rcases ho.2 with ⟨e, _⟩ | ⟨g', cp, cur, e, h1, h2, h3, h4, h5, h6'⟩
  · exact absurd e (fun q => by cases q)
  · have e3 := (Value.slice.inj e).2.2
    have e1 := (Addr.mk.inj (Option.some.inj (Value.slice.inj e).1)).1
    clear e
    subst e1 e3
    rw [List.length_append, List.length_singleton] at h3 h6' ⊢
    refine ⟨by rw [El.all_length (hf.snoc h6), List.length_append]; rfl, .inr ⟨g, cap, putL cur (L.length * 9) [u0, u1, u2, u3, u4, u5, u6, u7, u8], rfl, h1, sets_row _ wr _ cur h2, h3, h4, by rw [putL_size]; exact h5, ?_⟩⟩
    rw [El.all_append, El.all_one, hyc]
    have hsz : (L.length + 1) * ntE.sz ≤ cur.size := by rw [h5]; exact Nat.mul_le_mul_right _ h3
    have hsz' : (L.length + 1) * 9 ≤ cur.size := hsz
    apply List.ext_getElem?
    intro j
    rw [List.getElem?_take]
    by_cases hj : j < L.length * 9
    · have : j < (L.length + 1) * ntE.sz := by show j < (L.length + 1) * 9; omega
      rw [if_pos this, List.getElem?_append_left (by omega), Array.getElem?_toList, putL_low _ _ _ _ hj]
      have e2 := congrArg (fun l => l[j]?) h6'
      simp only [List.getElem?_take, if_pos this, El.all_append, Array.getElem?_toList] at e2
      rw [e2, List.getElem?_append_left (by omega)]
    · by_cases hj2 : j < (L.length + 1) * 9
      · have : j < (L.length + 1) * ntE.sz := hj2
        rw [if_pos this, List.getElem?_append_right (by omega), hl, Array.getElem?_toList]
        have e3 : j = L.length * 9 + (j - L.length * 9) := by omega
        rw [e3, putL_at _ _ _ _ (by simp only [List.length_cons, List.length_nil]; omega) (by simp only [List.length_cons, List.length_nil]; omega)]
        congr 1; omega
      · have : ¬ j < (L.length + 1) * ntE.sz := hj2
        rw [if_neg this, List.getElem?_append_right (by omega), hl, List.getElem?_eq_none (by simp only [List.length_cons, List.length_nil]; omega)]
/-- The new place's cells. -/
theorem own_cells {g cap : Nat} (h : OwnL ntE 26 wr (g0 + 1) (.slice (some ⟨g, 0, none⟩) (L.length + 1) cap) (L ++ [ntZ])) : (∀ i u, [.int .i64 0, .int .i64 0, .int .i64 0, .int .i64 0, .int .i64 0, .int .i64 0, .int .i64 0, .int .i64 0, .slice none 0 0][i]? = some u → wr.cell? ⟨g, L.length * 9 + i, none⟩ = some u) ∧ ∀ k, wr.frozen? ⟨g, k, none⟩ = false := by
  have hf : ntE.Fine L := fun z hz => h.2 z (List.mem_append_left _ hz)
  have hl : (ntE.all L).length = L.length * 9 := El.all_length hf
  obtain ⟨ho, hr⟩ := h
  rcases ho.2 with ⟨e, _⟩ | ⟨g', cp, cur, e, h1, h2, h3, h4, h5, h6'⟩
  · exact absurd e (fun q => by cases q)
  · have e1 := (Addr.mk.inj (Option.some.inj (Value.slice.inj e).1)).1
    clear e
    subst e1
    refine ⟨fun i u hu => ?_, fun k => frozen_of_row wr g k _ _ h2⟩
    rw [cell_of_row wr g _ _ _ _ h2]
    have e2 := congrArg (fun l => l[L.length * 9 + i]?) h6'
    have hi9 : i < 9 := (List.getElem?_eq_some_iff.1 hu).1
    have ha : (ntE.all (L ++ [ntZ]))[L.length * 9 + i]? = some u := by
      rw [El.all_append, El.all_one, ntZ_cells, List.getElem?_append_right (by omega), hl, show L.length * 9 + i - L.length * 9 = i by omega]
      exact hu
    simp only [List.getElem?_take, ha, Array.getElem?_toList] at e2
    split at e2
    · exact e2
    · cases e2
end
/-- The state of Atoms' step. -/
structure AtI (g0 : Nat) (s : List Nd) (v : Value) (L : List NT) (w : World) : Prop where
  var : V1 w g0 24 v
  own : OwnL ntE 26 w (g0 + 1) v L
  eq : L.map NT.n = s
  ok : ∀ z ∈ L, z.Rk w (fun k => g0 + 1 ≤ k ∧ v.ownBlock ≠ some k) ∧ z.Al
def InA (g0 : Nat) (s : List Nd) (D : Nat → Prop) (w : World) : Prop := ∃ v L, AtI g0 s v L w ∧ D = fun k => k = g0 ∨ v.ownBlock = some k
def canA (m : Nat) (s : List Nd) : Prop := s.length + m ≤ 2000000
end Go.Proofs.Ytbnillkihmooeaa
