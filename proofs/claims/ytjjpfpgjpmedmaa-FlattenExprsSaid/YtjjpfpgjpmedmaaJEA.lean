/- EApply, ECopy, EAtoms0, joined: no claim of its own. -/
import Derived.Test.YtjjpfpgjpmedmaaJK
import Derived.Deep.DeepCutAuto
import Derived.Shelf.Abstract
import Derived.Defers
import Derived.Recover
namespace Go.Proofs.Ytjjpfpgjpmedmaa
open Go.RowKit
open ME (F Nd)
/-- What lies while arguments are worked on. -/
structure AI {σ : Type} (I : σ → (Nat → Prop) → World → Prop) (D : Nat → Prop) (W : World) (g : Nat) (s : σ) (D1 : Nat → Prop) (wr : World) : Prop where
  inv : I s D1 wr
  kx : Kx (fun k => D k ∨ k = g) W wr
  sub : ∀ k, D1 k → D k ∨ W.heap.size ≤ k
  off : ¬ D g
  lt : g < W.heap.size
  low : ∀ k, D k → k < W.heap.size
section
variable {σ : Type} {I : σ → (Nat → Prop) → World → Prop} {D D1 D2 : Nat → Prop} {W wr w2 : World} {g : Nat} {s s2 : σ}
theorem AI.out (h : AI I D W g s D1 wr) : ¬ D1 g := fun q => (h.sub g q).elim h.off (fun q => by have := h.lt; omega)
theorem AI.call (h : AI I D W g s D1 wr) (k : VI I D1 wr s2 D2 w2) : AI I D W g s2 D2 w2 :=
  ⟨k.inv, ⟨k.kx.os.trans h.kx.os, k.kx.tape.trans h.kx.tape, k.kx.output.trans h.kx.output, Nat.le_trans h.kx.size k.kx.size, fun j hj hd => (k.kx.block j (Nat.lt_of_lt_of_le hj h.kx.size) (fun q => (h.sub j q).elim (fun q => hd (.inl q)) (fun q => by omega))).trans (h.kx.block j hj hd)⟩,
   fun j hj => (k.sub j hj).elim (h.sub j) (fun q => .inr (Nat.le_trans h.kx.size q)), h.off, h.lt, h.low⟩
theorem AI.put {nx : σ → σ} {F : FuncId} {lb : Array Value} {gm : Nd → Nd} (hA : Acts F lb I gm nx) (h : AI I D W g s D1 wr) (vs : List Value) (o : Nat) : AI I D W g s D1 (sets wr g o vs) := by
  obtain ⟨e1, e2, e3, e4⟩ := sets_same (g := g) vs wr o
  refine ⟨hA.keep _ _ _ _ h.inv (fun k hk => sets_far (fun e => h.out (by rw [← e]; exact hk)) vs wr o) (by rw [e4]; exact Nat.le_refl _), ⟨e1.trans h.kx.os, e2.trans h.kx.tape, e3.trans h.kx.output, by rw [e4]; exact h.kx.size, fun j hj hd => (sets_far (fun e => hd (.inr e)) vs wr o).trans (h.kx.block j hj hd)⟩, h.sub, h.off, h.lt, h.low⟩
end
theorem list9 (o x0 x1 x2 x3 x4 x5 v : Int) (A : Option Addr) (n c : Nat) : cellsE o [x0, x1, x2, x3, x4, x5] v A n c = [.int .i64 o, .int .i64 x0, .int .i64 x1, .int .i64 x2, .int .i64 x3, .int .i64 x4, .int .i64 x5, .int .i64 v, .slice A n c] := rfl
/-- The last step: the function's call and its answer. -/
theorem map_of {g : Nd → Nd} {o : Int} {b : List Int} {v : Int} {A : Option Addr} {c : Nat} {k k2 : FT} (A2 : Option Addr) (c2 : Nat) (h : k2.f = k.f.map g) : g (NT.n ⟨o, b, v, A2, c2, k2⟩) = ME.Nd.map g (NT.n ⟨o, b, v, A, c, k⟩) := by
  unfold ME.Nd.map NT.n
  rw [h]
theorem snoc_f (g : Nd → Nd) : ∀ (ys : List NT) (y : NT) (r : F), (FT.of ys).f.app (.cons y.o y.b y.v y.k.f r) = (FT.of (ys ++ [y])).f.app r
  | [], _, _ => rfl
  | z :: zs, y, r => by
    show ME.F.cons z.o z.b z.v z.k.f ((FT.of zs).f.app (.cons y.o y.b y.v y.k.f r)) = _
    rw [snoc_f g zs y r]; rfl
theorem app_nil : ∀ f : F, f.app .nil = f
  | .nil => rfl
  | .cons o b v k r => by show ME.F.cons o b v k (r.app .nil) = _; rw [app_nil r]
theorem Arg.rowAt {w : World} {g n : Nat} {ys : List NT} (h : Arg w g n ys) : RowAt w g := by
  obtain ⟨cur, h1, _⟩ := h.row
  exact ⟨cur, _, h1⟩
end Go.Proofs.Ytjjpfpgjpmedmaa
namespace Go.Proofs.Ytjjpfpgjpmedmaa
open Go.RowKit
open ME (F Nd)
/-- A function value that keeps no state. -/
def NoI (_ : Unit) (D : Nat → Prop) (_ : World) : Prop := D = fun _ => False
/-- What a call hands back: an expression in new memory. -/
def GivesX (w : World) (z : Nd) (e : Ending) (w' : World) : Prop := ∃ y : NT, e = .returned y.val ∧ y.n = z ∧ y.Rk w' (fun k => w.heap.size ≤ k) ∧ y.Al ∧ Below w.heap.size w w'
theorem below_of_no {w w' : World} {D : Nat → Prop} (h : Kx D w w') (hD : ∀ k, ¬ D k) : Below w.heap.size w w' := ⟨h.os, h.tape, h.output, h.size, fun k hk => h.block k hk (hD k)⟩
end Go.Proofs.Ytjjpfpgjpmedmaa
namespace Go.Proofs.Ytjjpfpgjpmedmaa
open Go.RowKit
open ME (F Nd)
def ntZ : NT := ⟨0, [0, 0, 0, 0, 0, 0], 0, none, 0, .nil⟩
theorem ntZ_cells : ntE.cells ntZ = [.int .i64 0, .int .i64 0, .int .i64 0, .int .i64 0, .int .i64 0, .int .i64 0, .int .i64 0, .int .i64 0, .slice none 0 0] := rfl
/-- What lies while atoms are gathered. -/
structure AtS (w : World) (g0 : Nat) (D : Nat → Prop) (v : Value) (L : List NT) (wr : World) : Prop where
  own : OwnL ntE 28 wr (g0 + 1) v L
  ok : ∀ z ∈ L, z.Rk wr (fun k => g0 + 1 ≤ k ∧ v.ownBlock ≠ some k) ∧ z.Al
  kx : Kx D w wr
theorem grown_keep {wr w' : World} {r : Option Nat} (hg : wr.grownBy w' r) {z : NT} {ok ok' : Nat → Prop} (h : z.Rk wr ok) (hne : ∀ k, ok k → some k ≠ r) (hk : ∀ k, ok k → k < wr.heap.size → ok' k) : z.Rk w' ok' :=
  h.keep (fun k q hl => hg.block k hl (hne k q)) hg.size hk
theorem Kx.grown {D : Nat → Prop} {w wr w' : World} {r : Option Nat} (h : Kx D w wr) (hg : wr.grownBy w' r) (hr : ∀ k, r = some k → k < w.heap.size → D k) : Kx D w w' :=
  ⟨hg.os.trans h.os, hg.tape.trans h.tape, hg.output.trans h.output, Nat.le_trans h.size hg.size, fun k hk hd => (hg.block k (Nat.lt_of_lt_of_le hk h.size) (fun e => hd (hr k e.symm hk))).trans (h.block k hk hd)⟩
theorem grown_below {w w' : World} (hb : Below w.heap.size w w') : w.grownBy w' none := ⟨hb.os, hb.tape, hb.output, hb.size, fun k hk _ => hb.block k hk⟩
section
variable {w wr w' : World} {g0 : Nat} {D : Nat → Prop} {v : Value} {L : List NT}
theorem AtS.keep (h : AtS w g0 D v L wr) (hb : Below wr.heap.size wr w') : AtS w g0 D v L w' :=
  ⟨h.own.keep hb, fun z hz => ⟨(h.ok z hz).1.below hb, (h.ok z hz).2⟩, h.kx.grown (grown_below hb) (fun _ e => by cases e)⟩
/-- One place more. -/
theorem AtS.app (h : AtS w g0 D v L wr) {g cap H : Nat} (hown : w'.ownsRow (g0 + 1) 28 9 (.slice (some ⟨g, 0, none⟩) (L.length + 1) cap) (L.length + 1) (ntE.all L ++ [.int .i64 0, .int .i64 0, .int .i64 0, .int .i64 0, .int .i64 0, .int .i64 0, .int .i64 0, .int .i64 0, .slice none 0 0])) (hg : wr.grownBy w' v.ownBlock) (hat : v.ownBlock = some g ∨ g = H) (hH : wr.heap.size = H) (hD : ∀ k, v.ownBlock = some k → D k) :
    OwnL ntE 28 w' (g0 + 1) (.slice (some ⟨g, 0, none⟩) (L.length + 1) cap) (L ++ [ntZ]) ∧ (∀ z ∈ L, z.Rk w' (fun k => g0 + 1 ≤ k ∧ k ≠ g) ∧ z.Al) ∧ Kx D w w' := by
  refine ⟨⟨?_, h.own.2.snoc rfl⟩, fun z hz => ⟨grown_keep hg (h.ok z hz).1 (fun k q e => q.2 e.symm) (fun k q hl => ⟨q.1, fun e => ?_⟩), (h.ok z hz).2⟩, h.kx.grown hg (fun k e _ => hD k e)⟩
  · have e : ntE.all (L ++ [ntZ]) = ntE.all L ++ [.int .i64 0, .int .i64 0, .int .i64 0, .int .i64 0, .int .i64 0, .int .i64 0, .int .i64 0, .int .i64 0, .slice none 0 0] := by rw [El.all_append, El.all_one, ntZ_cells]
    rw [e, List.length_append]
    exact hown
  · rcases hat with p | p
    · exact q.2 (by rw [p, e])
    · omega
/-- The new place filled. -/
theorem own_last {g cap : Nat} {y : NT} {u0 u1 u2 u3 u4 u5 u6 u7 u8 : Value} (h : OwnL ntE 28 wr (g0 + 1) (.slice (some ⟨g, 0, none⟩) (L.length + 1) cap) (L ++ [ntZ])) (hy : cellsE y.o y.b y.v y.A y.k.len y.c = [u0, u1, u2, u3, u4, u5, u6, u7, u8]) (h6 : y.b.length = 6) :
    OwnL ntE 28 (sets wr g (L.length * 9) [u0, u1, u2, u3, u4, u5, u6, u7, u8]) (g0 + 1) (.slice (some ⟨g, 0, none⟩) (L.length + 1) cap) (L ++ [y]) := by
  have hf : ntE.Fine L := fun z hz => h.2 z (List.mem_append_left _ hz)
  have hl : (ntE.all L).length = L.length * 9 := El.all_length hf
  have hyc : ntE.cells y = [u0, u1, u2, u3, u4, u5, u6, u7, u8] := hy
  refine ⟨?_, hf.snoc h6⟩
  obtain ⟨ho, hr⟩ := h
  rcases ho.2 with ⟨e, _⟩ | ⟨g', cp, cur, e, h1, h2, h3, h4, h5, h6'⟩
  · exact absurd e (fun q => by cases q)
  · have e3 := (Value.slice.inj e).2.2
    have e1 := (Addr.mk.inj (Option.some.inj (Value.slice.inj e).1)).1
    clear e
    subst e1 e3
    rw [List.length_append, List.length_singleton] at h3 h6' ⊢
    refine ⟨by rw [El.all_length (hf.snoc h6), List.length_append]; rfl, .inr ⟨g, cap, putL cur (L.length * 9) [u0, u1, u2, u3, u4, u5, u6, u7, u8], rfl, h1, sets_row _ wr _ cur h2, h3, h4, by rw [putL_size]; exact h5, ?_⟩⟩
    rw [El.all_append, El.all_one, hyc]
    have hsz : (L.length + 1) * ntE.sz ≤ cur.size := by rw [h5]; exact Nat.mul_le_mul_right _ h3
    have hsz' : (L.length + 1) * 9 ≤ cur.size := hsz
    apply List.ext_getElem?
    intro j
    rw [List.getElem?_take]
    by_cases hj : j < L.length * 9
    · have : j < (L.length + 1) * ntE.sz := by show j < (L.length + 1) * 9; omega
      rw [if_pos this, List.getElem?_append_left (by omega), Array.getElem?_toList, putL_low _ _ _ _ hj]
      have e2 := congrArg (fun l => l[j]?) h6'
      simp only [List.getElem?_take, if_pos this, El.all_append, Array.getElem?_toList] at e2
      rw [e2, List.getElem?_append_left (by omega)]
    · by_cases hj2 : j < (L.length + 1) * 9
      · have : j < (L.length + 1) * ntE.sz := hj2
        rw [if_pos this, List.getElem?_append_right (by omega), hl, Array.getElem?_toList]
        have e3 : j = L.length * 9 + (j - L.length * 9) := by omega
        rw [e3, putL_at _ _ _ _ (by simp only [List.length_cons, List.length_nil]; omega) (by simp only [List.length_cons, List.length_nil]; omega)]
        congr 1; omega
      · have : ¬ j < (L.length + 1) * ntE.sz := hj2
        rw [if_neg this, List.getElem?_append_right (by omega), hl, List.getElem?_eq_none (by simp only [List.length_cons, List.length_nil]; omega)]
/-- The new place's cells. -/
theorem own_cells {g cap : Nat} (h : OwnL ntE 28 wr (g0 + 1) (.slice (some ⟨g, 0, none⟩) (L.length + 1) cap) (L ++ [ntZ])) : (∀ i u, [.int .i64 0, .int .i64 0, .int .i64 0, .int .i64 0, .int .i64 0, .int .i64 0, .int .i64 0, .int .i64 0, .slice none 0 0][i]? = some u → wr.cell? ⟨g, L.length * 9 + i, none⟩ = some u) ∧ ∀ k, wr.frozen? ⟨g, k, none⟩ = false := by
  have hf : ntE.Fine L := fun z hz => h.2 z (List.mem_append_left _ hz)
  have hl : (ntE.all L).length = L.length * 9 := El.all_length hf
  obtain ⟨ho, hr⟩ := h
  rcases ho.2 with ⟨e, _⟩ | ⟨g', cp, cur, e, h1, h2, h3, h4, h5, h6'⟩
  · exact absurd e (fun q => by cases q)
  · have e1 := (Addr.mk.inj (Option.some.inj (Value.slice.inj e).1)).1
    clear e
    subst e1
    refine ⟨fun i u hu => ?_, fun k => frozen_of_row wr g k _ _ h2⟩
    rw [cell_of_row wr g _ _ _ _ h2]
    have e2 := congrArg (fun l => l[L.length * 9 + i]?) h6'
    have hi9 : i < 9 := (List.getElem?_eq_some_iff.1 hu).1
    have ha : (ntE.all (L ++ [ntZ]))[L.length * 9 + i]? = some u := by
      rw [El.all_append, El.all_one, ntZ_cells, List.getElem?_append_right (by omega), hl, show L.length * 9 + i - L.length * 9 = i by omega]
      exact hu
    simp only [List.getElem?_take, ha, Array.getElem?_toList] at e2
    split at e2
    · exact e2
    · cases e2
end
/-- The state of Atoms' step. -/
structure AtI (g0 : Nat) (s : List Nd) (v : Value) (L : List NT) (w : World) : Prop where
  var : V1 w g0 26 v
  own : OwnL ntE 28 w (g0 + 1) v L
  eq : L.map NT.n = s
  ok : ∀ z ∈ L, z.Rk w (fun k => g0 + 1 ≤ k ∧ v.ownBlock ≠ some k) ∧ z.Al
end Go.Proofs.Ytjjpfpgjpmedmaa
