/- EApply, PArg0, joined: no claim of its own. -/
import Derived.Test.YtcokplikmjegcaaGreatDoorJK
import Derived.Deep.DeepCutAuto
import Derived.Shelf.Abstract
import Derived.Test.YtcokplikmjegcaaGreatDoorPPart
import Derived.Test.YtcokplikmjegcaaGreatDoorJD
namespace Go.Proofs.YtcokplikmjegcaaGreatDoor
open Go.RowKit
open ME (F Nd)
/-- What lies while arguments are worked on. -/
structure AI {σ : Type} (I : σ → (Nat → Prop) → World → Prop) (D : Nat → Prop) (W : World) (g : Nat) (s : σ) (D1 : Nat → Prop) (wr : World) : Prop where
  inv : I s D1 wr
  kx : Kx (fun k => D k ∨ k = g) W wr
  sub : ∀ k, D1 k → D k ∨ W.heap.size ≤ k
  off : ¬ D g
  lt : g < W.heap.size
  low : ∀ k, D k → k < W.heap.size
section
variable {σ : Type} {I : σ → (Nat → Prop) → World → Prop} {D D1 D2 : Nat → Prop} {W wr w2 : World} {g : Nat} {s s2 : σ}
theorem AI.out (h : AI I D W g s D1 wr) : ¬ D1 g := fun q => (h.sub g q).elim h.off (fun q => by have := h.lt; omega)
theorem AI.call (h : AI I D W g s D1 wr) (k : VI I D1 wr s2 D2 w2) : AI I D W g s2 D2 w2 :=
  ⟨k.inv, ⟨k.kx.os.trans h.kx.os, k.kx.tape.trans h.kx.tape, k.kx.output.trans h.kx.output, Nat.le_trans h.kx.size k.kx.size, fun j hj hd => (k.kx.block j (Nat.lt_of_lt_of_le hj h.kx.size) (fun q => (h.sub j q).elim (fun q => hd (.inl q)) (fun q => by omega))).trans (h.kx.block j hj hd)⟩,
   fun j hj => (k.sub j hj).elim (h.sub j) (fun q => .inr (Nat.le_trans h.kx.size q)), h.off, h.lt, h.low⟩
theorem AI.put {nx : σ → σ} {F : FuncId} {lb : Array Value} {gm : Nd → Nd} (hA : Acts F lb I gm nx) (h : AI I D W g s D1 wr) (vs : List Value) (o : Nat) : AI I D W g s D1 (sets wr g o vs) := by
  obtain ⟨e1, e2, e3, e4⟩ := sets_same (g := g) vs wr o
  refine ⟨hA.keep _ _ _ _ h.inv (fun k hk => sets_far (fun e => h.out (by rw [← e]; exact hk)) vs wr o) (by rw [e4]; exact Nat.le_refl _), ⟨e1.trans h.kx.os, e2.trans h.kx.tape, e3.trans h.kx.output, by rw [e4]; exact h.kx.size, fun j hj hd => (sets_far (fun e => hd (.inr e)) vs wr o).trans (h.kx.block j hj hd)⟩, h.sub, h.off, h.lt, h.low⟩
end
theorem list9 (o x0 x1 x2 x3 x4 x5 v : Int) (A : Option Addr) (n c : Nat) : cellsE o [x0, x1, x2, x3, x4, x5] v A n c = [.int .i64 o, .int .i64 x0, .int .i64 x1, .int .i64 x2, .int .i64 x3, .int .i64 x4, .int .i64 x5, .int .i64 v, .slice A n c] := rfl
/-- The last step: the function's call and its answer. -/
theorem map_of {g : Nd → Nd} {o : Int} {b : List Int} {v : Int} {A : Option Addr} {c : Nat} {k k2 : FT} (A2 : Option Addr) (c2 : Nat) (h : k2.f = k.f.map g) : g (NT.n ⟨o, b, v, A2, c2, k2⟩) = ME.Nd.map g (NT.n ⟨o, b, v, A, c, k⟩) := by
  unfold ME.Nd.map NT.n
  rw [h]
theorem snoc_f (g : Nd → Nd) : ∀ (ys : List NT) (y : NT) (r : F), (FT.of ys).f.app (.cons y.o y.b y.v y.k.f r) = (FT.of (ys ++ [y])).f.app r
  | [], _, _ => rfl
  | z :: zs, y, r => by
    show ME.F.cons z.o z.b z.v z.k.f ((FT.of zs).f.app (.cons y.o y.b y.v y.k.f r)) = _
    rw [snoc_f g zs y r]; rfl
theorem app_nil : ∀ f : F, f.app .nil = f
  | .nil => rfl
  | .cons o b v k r => by show ME.F.cons o b v k (r.app .nil) = _; rw [app_nil r]
theorem Arg.rowAt {w : World} {g n : Nat} {ys : List NT} (h : Arg w g n ys) : RowAt w g := by
  obtain ⟨cur, h1, _⟩ := h.row
  exact ⟨cur, _, h1⟩
end Go.Proofs.YtcokplikmjegcaaGreatDoor
namespace Go.Proofs.YtcokplikmjegcaaGreatDoor
open Go.RowKit
open ME (F Nd)
open MC (Pr)
def ntZP : NT := ⟨0, [0, 0, 0, 0, 0, 0], 0, none, 0, .nil⟩
theorem ntZ_cellsP : ntE.cells ntZP = [.int .i64 0, .int .i64 0, .int .i64 0, .int .i64 0, .int .i64 0, .int .i64 0, .int .i64 0, .int .i64 0, .slice none 0 0] := rfl
theorem grown_keepP {wr w' : World} {r : Option Nat} (hg : wr.grownBy w' r) {z : NT} {ok ok' : Nat → Prop} (h : z.Ok wr ok) (hne : ∀ k, ok k → some k ≠ r) (hk : ∀ k, ok k → k < wr.heap.size → ok' k) : z.Ok w' ok' :=
  h.keep (fun k q hl => hg.block k hl (hne k q)) hg.size hk
theorem grown_setsP {w : World} {g : Nat} (vs : List Value) (o : Nat) : w.grownBy (sets w g o vs) (some g) := by
  obtain ⟨e1, e2, e3, e4⟩ := sets_same (g := g) vs w o
  exact ⟨e1, e2, e3, by rw [e4]; exact Nat.le_refl _, fun k _ hk => sets_far (fun e => hk (by rw [e])) vs w o⟩
section
variable {w wr w' : World} {g0 : Nat} {v : Value} {L : List NT}
/-- The new place filled. -/
theorem own_lastP {g cap : Nat} {y : NT} {u0 u1 u2 u3 u4 u5 u6 u7 u8 : Value} (h : OwnL ntE 27 wr (g0 + 1) (.slice (some ⟨g, 0, none⟩) (L.length + 1) cap) (L ++ [ntZP])) (hy : cellsE y.o y.b y.v y.A y.k.len y.c = [u0, u1, u2, u3, u4, u5, u6, u7, u8]) (h6 : y.b.length = 6) :
    OwnL ntE 27 (sets wr g (L.length * 9) [u0, u1, u2, u3, u4, u5, u6, u7, u8]) (g0 + 1) (.slice (some ⟨g, 0, none⟩) (L.length + 1) cap) (L ++ [y]) := by
  have hf : ntE.Fine L := fun z hz => h.2 z (List.mem_append_left _ hz)
  have hl : (ntE.all L).length = L.length * 9 := El.all_length hf
  have hyc : ntE.cells y = [u0, u1, u2, u3, u4, u5, u6, u7, u8] := hy
  refine ⟨?_, hf.snoc h6⟩
  obtain ⟨ho, hr⟩ := h
  rcases ho.2 with ⟨e, _⟩ | ⟨g', cp, cur, e, h1, h2, h3, h4, h5, h6'⟩
  · exact absurd e (fun q => by cases q)
  · have e3 := (Value.slice.inj e).2.2
    have e1 := (Addr.mk.inj (Option.some.inj (Value.slice.inj e).1)).1
    clear e
    subst e1 e3
    rw [List.length_append, List.length_singleton] at h3 h6' ⊢
    refine ⟨by rw [El.all_length (hf.snoc h6), List.length_append]; rfl, .inr ⟨g, cap, putL cur (L.length * 9) [u0, u1, u2, u3, u4, u5, u6, u7, u8], rfl, h1, sets_row _ wr _ cur h2, h3, h4, by rw [putL_size]; exact h5, ?_⟩⟩
    rw [El.all_append, El.all_one, hyc]
    have hsz : (L.length + 1) * ntE.sz ≤ cur.size := by rw [h5]; exact Nat.mul_le_mul_right _ h3
    have hsz' : (L.length + 1) * 9 ≤ cur.size := hsz
    apply List.ext_getElem?
    intro j
    rw [List.getElem?_take]
    by_cases hj : j < L.length * 9
    · have : j < (L.length + 1) * ntE.sz := by show j < (L.length + 1) * 9; omega
      rw [if_pos this, List.getElem?_append_left (by omega), Array.getElem?_toList, putL_low _ _ _ _ hj]
      have e2 := congrArg (fun l => l[j]?) h6'
      simp only [List.getElem?_take, if_pos this, El.all_append, Array.getElem?_toList] at e2
      rw [e2, List.getElem?_append_left (by omega)]
    · by_cases hj2 : j < (L.length + 1) * 9
      · have : j < (L.length + 1) * ntE.sz := hj2
        rw [if_pos this, List.getElem?_append_right (by omega), hl, Array.getElem?_toList]
        have e3 : j = L.length * 9 + (j - L.length * 9) := by omega
        rw [e3, putL_at _ _ _ _ (by simp only [List.length_cons, List.length_nil]; omega) (by simp only [List.length_cons, List.length_nil]; omega)]
        congr 1; omega
      · have : ¬ j < (L.length + 1) * ntE.sz := hj2
        rw [if_neg this, List.getElem?_append_right (by omega), hl, List.getElem?_eq_none (by simp only [List.length_cons, List.length_nil]; omega)]
/-- The new place's cells. -/
theorem own_cellsP {g cap : Nat} (h : OwnL ntE 27 wr (g0 + 1) (.slice (some ⟨g, 0, none⟩) (L.length + 1) cap) (L ++ [ntZP])) : (∀ i u, [.int .i64 0, .int .i64 0, .int .i64 0, .int .i64 0, .int .i64 0, .int .i64 0, .int .i64 0, .int .i64 0, .slice none 0 0][i]? = some u → wr.cell? ⟨g, L.length * 9 + i, none⟩ = some u) ∧ ∀ k, wr.frozen? ⟨g, k, none⟩ = false := by
  have hf : ntE.Fine L := fun z hz => h.2 z (List.mem_append_left _ hz)
  have hl : (ntE.all L).length = L.length * 9 := El.all_length hf
  obtain ⟨ho, hr⟩ := h
  rcases ho.2 with ⟨e, _⟩ | ⟨g', cp, cur, e, h1, h2, h3, h4, h5, h6'⟩
  · exact absurd e (fun q => by cases q)
  · have e1 := (Addr.mk.inj (Option.some.inj (Value.slice.inj e).1)).1
    clear e
    subst e1
    refine ⟨fun i u hu => ?_, fun k => frozen_of_row wr g k _ _ h2⟩
    rw [cell_of_row wr g _ _ _ _ h2]
    have e2 := congrArg (fun l => l[L.length * 9 + i]?) h6'
    have hi9 : i < 9 := (List.getElem?_eq_some_iff.1 hu).1
    have ha : (ntE.all (L ++ [ntZP]))[L.length * 9 + i]? = some u := by
      rw [El.all_append, El.all_one, ntZ_cellsP, List.getElem?_append_right (by omega), hl, show L.length * 9 + i - L.length * 9 = i by omega]
      exact hu
    simp only [List.getElem?_take, ha, Array.getElem?_toList] at e2
    split at e2
    · exact e2
    · cases e2
end

theorem own_c18 {w : World} {B g cap : Nat} {L : List NT} (h : OwnL ntE 27 w (B + 1) (.slice (some ⟨g, 0, none⟩) (L.length + 1) cap) (L ++ [ntZP])) :
    (w.cell? ⟨g, L.length * 9, none⟩ = some (.int .i64 0) ∧ w.cell? ⟨g, L.length * 9 + 1, none⟩ = some (.int .i64 0) ∧ w.cell? ⟨g, L.length * 9 + 2, none⟩ = some (.int .i64 0) ∧ w.cell? ⟨g, L.length * 9 + 3, none⟩ = some (.int .i64 0) ∧ w.cell? ⟨g, L.length * 9 + 4, none⟩ = some (.int .i64 0) ∧ w.cell? ⟨g, L.length * 9 + 5, none⟩ = some (.int .i64 0) ∧ w.cell? ⟨g, L.length * 9 + 6, none⟩ = some (.int .i64 0) ∧ w.cell? ⟨g, L.length * 9 + 7, none⟩ = some (.int .i64 0) ∧ w.cell? ⟨g, L.length * 9 + 8, none⟩ = some (.slice none 0 0)) ∧ (w.frozen? ⟨g, L.length * 9, none⟩ = false ∧ w.frozen? ⟨g, L.length * 9 + 1, none⟩ = false ∧ w.frozen? ⟨g, L.length * 9 + 2, none⟩ = false ∧ w.frozen? ⟨g, L.length * 9 + 3, none⟩ = false ∧ w.frozen? ⟨g, L.length * 9 + 4, none⟩ = false ∧ w.frozen? ⟨g, L.length * 9 + 5, none⟩ = false ∧ w.frozen? ⟨g, L.length * 9 + 6, none⟩ = false ∧ w.frozen? ⟨g, L.length * 9 + 7, none⟩ = false ∧ w.frozen? ⟨g, L.length * 9 + 8, none⟩ = false) := by
  obtain ⟨hcl, hfz⟩ := own_cellsP h
  exact ⟨⟨hcl 0 _ rfl, hcl 1 _ rfl, hcl 2 _ rfl, hcl 3 _ rfl, hcl 4 _ rfl, hcl 5 _ rfl, hcl 6 _ rfl, hcl 7 _ rfl, hcl 8 _ rfl⟩, ⟨hfz _, hfz _, hfz _, hfz _, hfz _, hfz _, hfz _, hfz _, hfz _⟩⟩
theorem SP.turn {bad : Nat → Prop} {w w' : World} {g : Nat} {ts : List Tk} {er : Int} {row : Option Nat} (h : SP bad w g ts er) (hg : w.grownBy w' row) (hr : ∀ k, row = some k → bad k ∧ k ≠ g) : SP bad w' g ts er := by
  cases row with
  | none => exact h.keep ⟨hg.os, hg.tape, hg.output, hg.size, fun k hk => hg.block k hk (by simp)⟩
  | some k =>
    obtain ⟨A, n, cp, hs, hi⟩ := h
    obtain ⟨h1, h2⟩ := hr k rfl
    exact ⟨A, n, cp, hs.other hg h1 (Ne.symm h2), hi⟩
theorem Mv.grow {N g : Nat} {w w' : World} (h : Mv N g g w w') : w.grownBy w' (some g) :=
  ⟨h.below.os, h.below.tape, h.below.output, h.below.size, fun k hk hne => h.rest k hk (fun e => hne (by rw [e])) (fun e => hne (by rw [e]))⟩
theorem Mv.turn {N g B : Nat} {w w1 w2 : World} {row : Option Nat} (h : Mv N g B w w1) (hg : w1.grownBy w2 row) (hNw : N ≤ w.heap.size) (hr : ∀ k, row = some k → N ≤ k ∧ (k = g ∨ k = B ∨ w.heap.size ≤ k)) : Mv N g B w w2 :=
  ⟨h.below.grown hg (Nat.le_trans hNw h.below.size) (fun k hk => (hr k hk).1), fun k h1 h2 h3 => (hg.block k (Nat.lt_of_lt_of_le h1 h.below.size) (fun e => by
    rcases (hr k e.symm).2 with q | q | q
    · exact h2 q
    · exact h3 q
    · omega)).trans (h.rest k h1 h2 h3)⟩
/-- Where arguments are read: the scanner, the expression, its own row of arguments. -/
structure PS (A : Option Addr) (n cp N g ge : Nat) (o x0 x1 x2 x3 x4 x5 v : Int) (vb vk : Value) (L : List NT) (ts : List Tk) (er : Int) (w wr : World) : Prop where
  sp : SP (fun k => g ≤ k) wr g ts er
  box : B9 wr ge (.int .i64 o) (.int .i64 x0) (.int .i64 x1) (.int .i64 x2) (.int .i64 x3) (.int .i64 x4) (.int .i64 x5) (.int .i64 v) vb
  own : OwnL ntE 27 wr (w.heap.size + 1) vk L
  ok : ∀ z ∈ L, z.Ok wr (fun k => w.heap.size + 1 ≤ k ∧ vk.ownBlock ≠ some k)
  px : wr.heap[w.heap.size]? = some (.cells #[.slice A n cp, .pointer (some ⟨g, 0, none⟩)] 60 (0, 0))
  mv : Mv N g ge w wr
section
variable {A : Option Addr} {n cp N g ge : Nat} {o x0 x1 x2 x3 x4 x5 v : Int} {vb vk : Value} {L : List NT} {ts ts' : List Tk} {er er' : Int} {w wr w' : World}
/-- A method of the scanner, or a call that reads on. -/
theorem PS.turn (h : PS A n cp N g ge o x0 x1 x2 x3 x4 x5 v vb vk L ts er w wr) (hg : wr.grownBy w' (some g)) (hs : SP (fun k => g ≤ k) w' g ts' er') (hN : N ≤ g) (hNw : N ≤ w.heap.size) (h1 : g < ge) (h2 : ge < w.heap.size) : PS A n cp N g ge o x0 x1 x2 x3 x4 x5 v vb vk L ts' er' w w' where
  sp := hs
  box := h.box.same (hg.block ge h.box.lt (fun e => by injection e with e; omega))
  own := ⟨h.own.1.kept hg (.inr (fun e => by have := (World.ownsRow.lt h.own.1 g e).1; omega)), h.own.2⟩
  ok := fun z hz => grown_keepP hg (h.ok z hz) (fun k q e => by injection e with e; omega) (fun k q _ => q)
  px := (hg.block _ (Array.getElem?_eq_some_iff.1 h.px).1 (fun e => by injection e with e; omega)).trans h.px
  mv := h.mv.turn hg hNw (fun k e => by injection e with e; subst e; exact ⟨hN, .inl rfl⟩)
theorem PS.keep (h : PS A n cp N g ge o x0 x1 x2 x3 x4 x5 v vb vk L ts er w wr) (hb : Below wr.heap.size wr w') (hNw : N ≤ w.heap.size) : PS A n cp N g ge o x0 x1 x2 x3 x4 x5 v vb vk L ts er w w' where
  sp := h.sp.keep hb
  box := h.box.keep hb
  own := h.own.keep hb
  ok := fun z hz => (h.ok z hz).below hb
  px := (hb.block _ (Array.getElem?_eq_some_iff.1 h.px).1).trans h.px
  mv := h.mv.quiet hb hNw
/-- One place more. -/
theorem PS.app {Av : Option Addr} {cv gg cap : Nat} (h : PS A n cp N g ge o x0 x1 x2 x3 x4 x5 v vb (.slice Av L.length cv) L ts er w wr) (hown : w'.ownsRow (w.heap.size + 1) 27 9 (.slice (some ⟨gg, 0, none⟩) (L.length + 1) cap) (L.length + 1) (ntE.all L ++ [.int .i64 0, .int .i64 0, .int .i64 0, .int .i64 0, .int .i64 0, .int .i64 0, .int .i64 0, .int .i64 0, .slice none 0 0])) (hg : wr.grownBy w' (.slice Av L.length cv : Value).ownBlock) (hat : (.slice Av L.length cv : Value).ownBlock = some gg ∨ gg = wr.heap.size) (hNw : N ≤ w.heap.size) (h1 : g < ge) (h2 : ge < w.heap.size) : PS A n cp N g ge o x0 x1 x2 x3 x4 x5 v vb (.slice (some ⟨gg, 0, none⟩) (L.length + 1) cap) (L ++ [ntZP]) ts er w w' := by
  have hr : ∀ k, (.slice Av L.length cv : Value).ownBlock = some k → w.heap.size + 1 ≤ k := fun k e => (World.ownsRow.lt h.own.1 k e).1
  refine ⟨h.sp.turn hg (fun k e => ⟨?_, ?_⟩), h.box.same (hg.block ge h.box.lt (fun e => ?_)), ⟨?_, h.own.2.snoc rfl⟩, fun z hz => ?_, (hg.block _ (Array.getElem?_eq_some_iff.1 h.px).1 (fun e => ?_)).trans h.px, h.mv.turn hg hNw (fun k e => ⟨?_, .inr (.inr ?_)⟩)⟩
  · have := hr k e; show g ≤ k; omega
  · have := hr k e; omega
  · have := hr ge e.symm; omega
  · have e : ntE.all (L ++ [ntZP]) = ntE.all L ++ [.int .i64 0, .int .i64 0, .int .i64 0, .int .i64 0, .int .i64 0, .int .i64 0, .int .i64 0, .int .i64 0, .slice none 0 0] := by rw [El.all_append, El.all_one, ntZ_cellsP]
    rw [e, List.length_append]
    exact hown
  · rcases List.mem_append.1 hz with hz | hz
    · refine grown_keepP hg (h.ok z hz) (fun k q e => q.2 e.symm) (fun k q hl => ⟨q.1, fun e => ?_⟩)
      have e' : gg = k := Option.some.inj e
      rcases hat with p | p
      · exact q.2 (by rw [p, e'])
      · omega
    · rw [List.mem_singleton.1 hz]
      have i0 : In64 0 := by unfold In64; omega
      exact ⟨rfl, i0, i0, fun q hq => by have : q = 0 := by simpa [ntZP] using hq
                                         rw [this]; exact i0, Kids.nil _ _ _ _⟩
  · have := hr _ e.symm; omega
  · have := hr k e; omega
  · have := hr k e; omega
/-- The new place filled. -/
theorem PS.fill {gg cap : Nat} {y : NT} {u0 u1 u2 u3 u4 u5 u6 u7 u8 : Value} (h : PS A n cp N g ge o x0 x1 x2 x3 x4 x5 v vb (.slice (some ⟨gg, 0, none⟩) (L.length + 1) cap) (L ++ [ntZP]) ts er w wr) (hy : y.Ok wr (fun k => w.heap.size + 1 ≤ k ∧ k ≠ gg)) (hc : cellsE y.o y.b y.v y.A y.k.len y.c = [u0, u1, u2, u3, u4, u5, u6, u7, u8]) (hNw : N ≤ w.heap.size) (h1 : g < ge) (h2 : ge < w.heap.size) : PS A n cp N g ge o x0 x1 x2 x3 x4 x5 v vb (.slice (some ⟨gg, 0, none⟩) (L.length + 1) cap) (L ++ [y]) ts er w (sets wr gg (L.length * 9) [u0, u1, u2, u3, u4, u5, u6, u7, u8]) := by
  have hr : w.heap.size + 1 ≤ gg := (World.ownsRow.lt h.own.1 gg rfl).1
  have hg := grown_setsP (w := wr) (g := gg) [u0, u1, u2, u3, u4, u5, u6, u7, u8] (L.length * 9)
  have mono : ∀ z : NT, z.Ok wr (fun k => w.heap.size + 1 ≤ k ∧ k ≠ gg) → z.Ok (sets wr gg (L.length * 9) [u0, u1, u2, u3, u4, u5, u6, u7, u8]) (fun k => w.heap.size + 1 ≤ k ∧ (.slice (some ⟨gg, 0, none⟩) (L.length + 1) cap : Value).ownBlock ≠ some k) := fun z q =>
    grown_keepP hg q (fun k p e => p.2 (Option.some.inj e)) (fun k p _ => ⟨p.1, fun e => p.2 (Option.some.inj e).symm⟩)
  refine ⟨h.sp.turn hg (fun k e => ⟨?_, ?_⟩), h.box.same (hg.block ge h.box.lt (fun e => ?_)), own_lastP h.own hc hy.six, fun z hz => ?_, (hg.block _ (Array.getElem?_eq_some_iff.1 h.px).1 (fun e => ?_)).trans h.px, h.mv.turn hg hNw (fun k e => ⟨?_, .inr (.inr ?_)⟩)⟩
  · have := Option.some.inj e; show g ≤ k; omega
  · have := Option.some.inj e; omega
  · have := Option.some.inj e; omega
  · rcases List.mem_append.1 hz with hz | hz
    · refine mono z ?_
      refine (h.ok z (List.mem_append_left _ hz)).keep (fun _ _ _ => rfl) (Nat.le_refl _) (fun k q _ => ⟨q.1, fun e => q.2 (by rw [e]; rfl)⟩)
    · rw [List.mem_singleton.1 hz]; exact mono y hy
  · have := Option.some.inj e; omega
  · have := Option.some.inj e; omega
  · have := Option.some.inj e; omega
/-- The list laid into the expression. -/
theorem PS.box8 (h : PS A n cp N g ge o x0 x1 x2 x3 x4 x5 v vb vk L ts er w wr) (u : Value) (hN : N ≤ ge) (hNw : N ≤ w.heap.size) (h1 : g < ge) (h2 : ge < w.heap.size) : PS A n cp N g ge o x0 x1 x2 x3 x4 x5 v u vk L ts er w (wr.setCell ⟨ge, 8, none⟩ u) := by
  have hg := grown_set wr ge 8 u
  have hr : ∀ k, vk.ownBlock = some k → w.heap.size + 1 ≤ k := fun k e => (World.ownsRow.lt h.own.1 k e).1
  refine ⟨h.sp.turn hg (fun k e => ⟨?_, ?_⟩), h.box.set8 u, ⟨h.own.1.kept hg (.inr (fun e => ?_)), h.own.2⟩, fun z hz => grown_keepP hg (h.ok z hz) (fun k q e => ?_) (fun k q _ => q), (hg.block _ (Array.getElem?_eq_some_iff.1 h.px).1 (fun e => ?_)).trans h.px, h.mv.turn hg hNw (fun k e => ⟨?_, .inr (.inl ?_)⟩)⟩
  · have := Option.some.inj e; show g ≤ k; omega
  · have := Option.some.inj e; omega
  · have := hr ge e; omega
  · have := Option.some.inj e; have := q.1; omega
  · have := Option.some.inj e; omega
  · have := Option.some.inj e; omega
  · exact (Option.some.inj e).symm
/-- The first place of the parser's own copy, the second. -/
theorem px_cells {gp : Nat} {a b : Value} {T : TypeId} (h : wr.heap[gp]? = some (.cells #[a, b] T (0, 0))) : wr.cell? ⟨gp, 0, none⟩ = some a ∧ wr.cell? ⟨gp, 1, none⟩ = some b := by
  constructor <;> (rw [cell_of_row _ _ _ _ _ _ h]; rfl)
end
/-- What read does, by fuel. -/
def ReadOk (A : Option Addr) (n cp : Nat) (L : List Pr) (N f : Nat) : Prop := ∀ (g : Nat) (ts : List Tk) (er : Int) (w : World), ts.length < f → f ≤ 100000 → SP (fun k => g ≤ k) w g ts er → N ≤ g → N ≤ w.heap.size → REnv N A n cp L w → (∀ t ∈ ts, t.kind = 1 → t.text ≠ []) →
  Calls Tryz.prog 28 #[.agg #[.slice A n cp, .pointer (some ⟨g, 0, none⟩)]] w fun e w' => ∃ y : NT, e = .returned y.val ∧ y.n = (MX.rdE L f ts er).1 ∧ y.Ok w' (fun k => w.heap.size ≤ k) ∧ SP (fun k => g ≤ k) w' g (MX.rdE L f ts er).2.1 (MX.rdE L f ts er).2.2 ∧ Mv N g g w w'
end Go.Proofs.YtcokplikmjegcaaGreatDoor
