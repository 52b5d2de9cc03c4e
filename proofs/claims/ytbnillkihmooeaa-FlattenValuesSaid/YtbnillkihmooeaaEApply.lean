/- apply: no claim of its own. -/
import Derived.Test.YtbnillkihmooeaaJK
import Derived.Deep.DeepCutAuto
import Derived.Shelf.Abstract
namespace Go.Proofs.Ytbnillkihmooeaa
open Go.RowKit
open ME (F Nd)
/-- What lies while arguments are worked on. -/
structure AI {σ : Type} (I : σ → (Nat → Prop) → World → Prop) (D : Nat → Prop) (W : World) (g : Nat) (s : σ) (D1 : Nat → Prop) (wr : World) : Prop where
  inv : I s D1 wr
  kx : Kx (fun k => D k ∨ k = g) W wr
  sub : ∀ k, D1 k → D k ∨ W.heap.size ≤ k
  off : ¬ D g
  lt : g < W.heap.size
  low : ∀ k, D k → k < W.heap.size
section
variable {σ : Type} {I : σ → (Nat → Prop) → World → Prop} {D D1 D2 : Nat → Prop} {W wr w2 : World} {g : Nat} {s s2 : σ}
theorem AI.out (h : AI I D W g s D1 wr) : ¬ D1 g := fun q => (h.sub g q).elim h.off (fun q => by have := h.lt; omega)
theorem AI.call (h : AI I D W g s D1 wr) (k : VI I D1 wr s2 D2 w2) : AI I D W g s2 D2 w2 :=
  ⟨k.inv, ⟨k.kx.os.trans h.kx.os, k.kx.tape.trans h.kx.tape, k.kx.output.trans h.kx.output, Nat.le_trans h.kx.size k.kx.size, fun j hj hd => (k.kx.block j (Nat.lt_of_lt_of_le hj h.kx.size) (fun q => (h.sub j q).elim (fun q => hd (.inl q)) (fun q => by omega))).trans (h.kx.block j hj hd)⟩,
   fun j hj => (k.sub j hj).elim (h.sub j) (fun q => .inr (Nat.le_trans h.kx.size q)), h.off, h.lt, h.low⟩
theorem AI.put {nx : σ → σ} {F : FuncId} {lb : Array Value} {gm : Nd → Nd} (hA : Acts F lb I gm nx) (h : AI I D W g s D1 wr) (vs : List Value) (o : Nat) : AI I D W g s D1 (sets wr g o vs) := by
  obtain ⟨e1, e2, e3, e4⟩ := sets_same (g := g) vs wr o
  refine ⟨hA.keep _ _ _ _ h.inv (fun k hk => sets_far (fun e => h.out (by rw [← e]; exact hk)) vs wr o) (by rw [e4]; exact Nat.le_refl _), ⟨e1.trans h.kx.os, e2.trans h.kx.tape, e3.trans h.kx.output, by rw [e4]; exact h.kx.size, fun j hj hd => (sets_far (fun e => hd (.inr e)) vs wr o).trans (h.kx.block j hj hd)⟩, h.sub, h.off, h.lt, h.low⟩
end
theorem list9 (o x0 x1 x2 x3 x4 x5 v : Int) (A : Option Addr) (n c : Nat) : cellsE o [x0, x1, x2, x3, x4, x5] v A n c = [.int .i64 o, .int .i64 x0, .int .i64 x1, .int .i64 x2, .int .i64 x3, .int .i64 x4, .int .i64 x5, .int .i64 v, .slice A n c] := rfl
/-- The last step: the function's call and its answer. -/
theorem map_of {g : Nd → Nd} {o : Int} {b : List Int} {v : Int} {A : Option Addr} {c : Nat} {k k2 : FT} (A2 : Option Addr) (c2 : Nat) (h : k2.f = k.f.map g) : g (NT.n ⟨o, b, v, A2, c2, k2⟩) = ME.Nd.map g (NT.n ⟨o, b, v, A, c, k⟩) := by
  unfold ME.Nd.map NT.n
  rw [h]
theorem snoc_f (g : Nd → Nd) : ∀ (ys : List NT) (y : NT) (r : F), (FT.of ys).f.app (.cons y.o y.b y.v y.k.f r) = (FT.of (ys ++ [y])).f.app r
  | [], _, _ => rfl
  | z :: zs, y, r => by
    show ME.F.cons z.o z.b z.v z.k.f ((FT.of zs).f.app (.cons y.o y.b y.v y.k.f r)) = _
    rw [snoc_f g zs y r]; rfl
theorem app_nil : ∀ f : F, f.app .nil = f
  | .nil => rfl
  | .cons o b v k r => by show ME.F.cons o b v k (r.app .nil) = _; rw [app_nil r]
theorem Arg.rowAt {w : World} {g n : Nat} {ys : List NT} (h : Arg w g n ys) : RowAt w g := by
  obtain ⟨cur, h1, _⟩ := h.row
  exact ⟨cur, _, h1⟩
end Go.Proofs.Ytbnillkihmooeaa
