/- EVis, EPre, ECount, EApply0, joined: no claim of its own. -/
import Derived.Test.YtjjpfpgjpmedmaaJJ
import Derived.Shelf.Abstract
import Derived.Lib.AppendIntMem
import Derived.Deep.AppendLies
import Derived.Deep.DeepCutAuto
namespace Go.Proofs.Ytjjpfpgjpmedmaa
open Go.RowKit
open ME (F Nd)
def NT.val (x : NT) : Value := .agg (cellsE x.o x.b x.v x.A x.k.len x.c).toArray
/-- What a step leaves: all but the blocks that are its own. -/
structure Kx (D : Nat → Prop) (w w' : World) : Prop where
  os : w'.os = w.os
  tape : w'.tape = w.tape
  output : w'.output = w.output
  size : w.heap.size ≤ w'.heap.size
  block : ∀ k, k < w.heap.size → ¬ D k → w'.heap[k]? = w.heap[k]?
theorem Kx.refl (D : Nat → Prop) (w : World) : Kx D w w := ⟨rfl, rfl, rfl, Nat.le_refl _, fun _ _ _ => rfl⟩
/-- A state that goes along. -/
structure VI {σ : Type} (I : σ → (Nat → Prop) → World → Prop) (D : Nat → Prop) (w : World) (s : σ) (D' : Nat → Prop) (w' : World) : Prop where
  inv : I s D' w'
  kx : Kx D w w'
  sub : ∀ k, D' k → D k ∨ w.heap.size ≤ k
section
variable {σ : Type} {I : σ → (Nat → Prop) → World → Prop} {D D1 D2 : Nat → Prop} {w w1 w2 : World} {s s1 s2 : σ}
theorem VI.refl (h : I s D w) : VI I D w s D w := ⟨h, Kx.refl _ _, fun _ h => .inl h⟩
theorem VI.trans (h : VI I D w s1 D1 w1) (k : VI I D1 w1 s2 D2 w2) : VI I D w s2 D2 w2 :=
  ⟨k.inv, ⟨k.kx.os.trans h.kx.os, k.kx.tape.trans h.kx.tape, k.kx.output.trans h.kx.output, Nat.le_trans h.kx.size k.kx.size, fun j hj hd =>
    (k.kx.block j (Nat.lt_of_lt_of_le hj h.kx.size) (fun g => (h.sub j g).elim hd (fun q => by omega))).trans (h.kx.block j hj hd)⟩,
   fun j hj => (k.sub j hj).elim (h.sub j) (fun g => .inr (Nat.le_trans h.kx.size g))⟩
end
/-- The state behind the nodes, and whether it went on to the end. -/
def visL {σ : Type} (st : σ → Nd → σ × Bool) : σ → List Nd → σ × Bool
  | s, [] => (s, true)
  | s, n :: r => if (st s n).2 = true then visL st (st s n).1 r else ((st s n).1, false)
theorem visL_cons {σ : Type} (st : σ → Nd → σ × Bool) (s : σ) (n : Nd) (r : List Nd) : visL st s (n :: r) = if (st s n).2 = true then visL st (st s n).1 r else ((st s n).1, false) := rfl
/-- What a call that steps hands back. -/
def Vis {σ : Type} (I : σ → (Nat → Prop) → World → Prop) (D : Nat → Prop) (w : World) (r : σ × Bool) (e : Ending) (w' : World) : Prop := e = .returned (.bool r.2) ∧ ∃ D', VI I D w r.1 D' w'
/-- A function value that steps. -/
structure Steps {σ : Type} (F : FuncId) (lb : Array Value) (I : σ → (Nat → Prop) → World → Prop) (st : σ → Nd → σ × Bool) (can : Nat → σ → Prop) : Prop where
  less : ∀ m s, can (m + 1) s → can m s
  next : ∀ m s n, can (m + 1) s → can m (st s n).1
  enters : ∀ args w, (callFunc F args).run Try.prog w = .ok (.enter F args) w
  lt : ∀ s D w, I s D w → ∀ k, D k → k < w.heap.size
  keep : ∀ s D w w', I s D w → Below w.heap.size w w' → I s D w'
  call : ∀ s D w (x : NT), can 1 s → x.size ≤ 2000000 → I s D w → x.Ok w (fun k => ¬ D k) → Calls Try.prog F (#[x.val] ++ lb) w (Vis I D w (st s x.n))
theorem Steps.less_to {σ : Type} {F : FuncId} {lb : Array Value} {I : σ → (Nat → Prop) → World → Prop} {st : σ → Nd → σ × Bool} {can : Nat → σ → Prop} (h : Steps F lb I st can) (a : Nat) : ∀ (b : Nat) (s : σ), can (a + b) s → can a s
  | 0, _, q => q
  | b + 1, s, q => h.less_to a b s (h.less _ _ q)
theorem Steps.after {σ : Type} {F : FuncId} {lb : Array Value} {I : σ → (Nat → Prop) → World → Prop} {st : σ → Nd → σ × Bool} {can : Nat → σ → Prop} (h : Steps F lb I st can) (m : Nat) : ∀ (l : List Nd) (s : σ), can (m + l.length) s → can m (visL st s l).1
  | [], _, q => q
  | n :: r, s, q => by
    rw [visL_cons]
    have q1 := h.next (m + r.length) s n q
    split
    · exact h.after m r _ q1
    · exact h.less_to m r.length _ q1
end Go.Proofs.Ytjjpfpgjpmedmaa
namespace Go.Proofs.Ytjjpfpgjpmedmaa
open Go.RowKit
open ME (F Nd)
/-- A node as an element. -/
def ntE : El NT where
  cells x := cellsE x.o x.b x.v x.A x.k.len x.c
  sz := 9
  fine x := x.b.length = 6
  len x h := by simp only [cellsE, List.length_cons, List.length_append, List.length_map, List.length_nil]; rw [h]
  one a u hu := by
    simp only [cellsE, List.mem_cons, List.mem_append, List.mem_map, List.not_mem_nil, or_false] at hu
    rcases hu with rfl | ⟨x, _, rfl⟩ | rfl | rfl <;> rfl
  pos := by decide
def FT.pre : FT → List NT
  | .nil => []
  | .cons o b v A c k r => ⟨o, b, v, A, c, k⟩ :: (k.pre ++ r.pre)
def NT.pre (x : NT) : List NT := x :: x.k.pre
end Go.Proofs.Ytjjpfpgjpmedmaa
namespace Go.Proofs.Ytjjpfpgjpmedmaa
open Go.RowKit
open ME (F Nd)
/-- A variable in a cell of its own. -/
def V1 (w : World) (g : Nat) (T : TypeId) (v : Value) : Prop := w.heap[g]? = some (.cells #[v] T (0, 0))
section
variable {w w' : World} {g : Nat} {T : TypeId} {v : Value}
theorem V1.lt (h : V1 w g T v) : g < w.heap.size := (Array.getElem?_eq_some_iff.1 h).1
theorem V1.keep (h : V1 w g T v) (hb : Below w.heap.size w w') : V1 w' g T v := (hb.block g h.lt).trans h
theorem V1.cell (h : V1 w g T v) : w.cell? ⟨g, 0, none⟩ = some v := by rw [cell_of_row w g _ _ _ _ h]; rfl
theorem V1.free (h : V1 w g T v) : w.frozen? ⟨g, 0, none⟩ = false := frozen_of_row w g 0 _ T h
theorem V1.set (h : V1 w g T v) (u : Value) : V1 (w.setCell ⟨g, 0, none⟩ u) g T u := by
  have := heap_setCell_same w g 0 _ T u h
  exact this
theorem V1.new (w : World) (T : TypeId) (v : Value) : V1 (w.alloc (.cells #[v] T)) w.heap.size T v := heap_new _ _
end
/-- The state lies in one variable's cell. -/
def InV {σ : Type} (g : Nat) (T : TypeId) (enc : σ → Value) (s : σ) (D : Nat → Prop) (w : World) : Prop := D = (fun k => k = g) ∧ V1 w g T (enc s)
theorem InV.start {σ : Type} {T : TypeId} {enc : σ → Value} (w : World) (s : σ) : InV w.heap.size T enc s (fun k => k = w.heap.size) (w.alloc (.cells #[enc s] T)) := ⟨rfl, V1.new _ _ _⟩
end Go.Proofs.Ytjjpfpgjpmedmaa
namespace Go.Proofs.Ytjjpfpgjpmedmaa
open Go.RowKit
open ME (F Nd)
/-- A block that holds one expression. -/
def B9 (w : World) (g : Nat) (v0 v1 v2 v3 v4 v5 v6 v7 v8 : Value) : Prop := w.heap[g]? = some (.cells #[v0, v1, v2, v3, v4, v5, v6, v7, v8] 28 (0, 0))
section
variable {w w' : World} {g : Nat} {v0 v1 v2 v3 v4 v5 v6 v7 v8 : Value}
theorem B9.lt (h : B9 w g v0 v1 v2 v3 v4 v5 v6 v7 v8) : g < w.heap.size := (Array.getElem?_eq_some_iff.1 h).1
theorem B9.keep (h : B9 w g v0 v1 v2 v3 v4 v5 v6 v7 v8) (hb : Below w.heap.size w w') : B9 w' g v0 v1 v2 v3 v4 v5 v6 v7 v8 := (hb.block g h.lt).trans h
theorem B9.same (h : B9 w g v0 v1 v2 v3 v4 v5 v6 v7 v8) (hb : w'.heap[g]? = w.heap[g]?) : B9 w' g v0 v1 v2 v3 v4 v5 v6 v7 v8 := hb.trans h
theorem B9.cells (h : B9 w g v0 v1 v2 v3 v4 v5 v6 v7 v8) : w.cell? ⟨g, 0, none⟩ = some v0 ∧ w.cell? ⟨g, 1, none⟩ = some v1 ∧ w.cell? ⟨g, 2, none⟩ = some v2 ∧ w.cell? ⟨g, 3, none⟩ = some v3 ∧ w.cell? ⟨g, 4, none⟩ = some v4 ∧ w.cell? ⟨g, 5, none⟩ = some v5 ∧ w.cell? ⟨g, 6, none⟩ = some v6 ∧ w.cell? ⟨g, 7, none⟩ = some v7 ∧ w.cell? ⟨g, 8, none⟩ = some v8 := by
  have h' : w.heap[g]? = some (.cells #[v0, v1, v2, v3, v4, v5, v6, v7, v8] 28 (0, 0)) := h
  refine ⟨?_, ?_, ?_, ?_, ?_, ?_, ?_, ?_, ?_⟩ <;> (rw [cell_of_row w g _ _ _ _ h']; rfl)
theorem B9.free (h : B9 w g v0 v1 v2 v3 v4 v5 v6 v7 v8) : w.frozen? ⟨g, 0, none⟩ = false ∧ w.frozen? ⟨g, 1, none⟩ = false ∧ w.frozen? ⟨g, 2, none⟩ = false ∧ w.frozen? ⟨g, 3, none⟩ = false ∧ w.frozen? ⟨g, 4, none⟩ = false ∧ w.frozen? ⟨g, 5, none⟩ = false ∧ w.frozen? ⟨g, 6, none⟩ = false ∧ w.frozen? ⟨g, 7, none⟩ = false ∧ w.frozen? ⟨g, 8, none⟩ = false := by
  have h' : w.heap[g]? = some (.cells #[v0, v1, v2, v3, v4, v5, v6, v7, v8] 28 (0, 0)) := h
  exact ⟨frozen_of_row w g 0 _ _ h', frozen_of_row w g 1 _ _ h', frozen_of_row w g 2 _ _ h', frozen_of_row w g 3 _ _ h', frozen_of_row w g 4 _ _ h', frozen_of_row w g 5 _ _ h', frozen_of_row w g 6 _ _ h', frozen_of_row w g 7 _ _ h', frozen_of_row w g 8 _ _ h'⟩
end
/-- Cells written one after another. -/
def putL (cur : Array Value) (o : Nat) : List Value → Array Value
  | [] => cur
  | v :: r => putL (cur.setIfInBounds o v) (o + 1) r
theorem putL_size : ∀ (vs : List Value) (cur : Array Value) (o : Nat), (putL cur o vs).size = cur.size
  | [], _, _ => rfl
  | v :: r, cur, o => by rw [putL, putL_size r]; simp
theorem putL_low : ∀ (vs : List Value) (cur : Array Value) (o j : Nat), j < o → (putL cur o vs)[j]? = cur[j]?
  | [], _, _, _, _ => rfl
  | v :: r, cur, o, j, h => by rw [putL, putL_low r _ _ _ (by omega), Array.getElem?_setIfInBounds, if_neg (by omega)]
theorem putL_at : ∀ (vs : List Value) (cur : Array Value) (o i : Nat), i < vs.length → o + vs.length ≤ cur.size → (putL cur o vs)[o + i]? = vs[i]?
  | [], _, _, _, h, _ => by simp at h
  | v :: r, cur, o, i, h, hs => by
    rw [putL]
    rw [List.length_cons] at h hs
    cases i with
    | zero =>
      rw [putL_low r _ _ _ (by omega), Nat.add_zero, Array.getElem?_setIfInBounds_self, if_pos (by omega)]; rfl
    | succ i =>
      rw [show o + (i + 1) = (o + 1) + i by omega, putL_at r _ _ _ (by omega) (by rw [Array.size_setIfInBounds]; omega)]; rfl
/-- A block's cells, written one after another. -/
def sets (w : World) (g : Nat) : Nat → List Value → World
  | _, [] => w
  | o, v :: r => sets (w.setCell ⟨g, o, none⟩ v) g (o + 1) r
theorem sets_row {T : TypeId} {g : Nat} : ∀ (vs : List Value) (w : World) (o : Nat) (cur : Array Value), w.heap[g]? = some (.cells cur T (0, 0)) → (sets w g o vs).heap[g]? = some (.cells (putL cur o vs) T (0, 0))
  | [], _, _, _, h => h
  | v :: r, w, o, _, h => sets_row r _ _ _ (heap_setCell_same w g o _ T v h)
theorem sets_far {g k : Nat} (hk : k ≠ g) : ∀ (vs : List Value) (w : World) (o : Nat), (sets w g o vs).heap[k]? = w.heap[k]?
  | [], _, _ => rfl
  | v :: r, w, o => (sets_far hk r _ _).trans (Below.heap_setCell w ⟨g, o, none⟩ v k hk)
theorem sets_same {g : Nat} : ∀ (vs : List Value) (w : World) (o : Nat), (sets w g o vs).os = w.os ∧ (sets w g o vs).tape = w.tape ∧ (sets w g o vs).output = w.output ∧ (sets w g o vs).heap.size = w.heap.size
  | [], _, _ => ⟨rfl, rfl, rfl, rfl⟩
  | v :: r, w, o => by
    obtain ⟨h1, h2, h3, h4⟩ := sets_same (g := g) r (w.setCell ⟨g, o, none⟩ v) (o + 1)
    exact ⟨h1, h2, h3, h4.trans (World.size_setCell _ _ _)⟩
theorem B9.put {w : World} {g : Nat} {v0 v1 v2 v3 v4 v5 v6 v7 v8 : Value} (h : B9 w g v0 v1 v2 v3 v4 v5 v6 v7 v8) (u0 u1 u2 u3 u4 u5 u6 u7 u8 : Value) : B9 (sets w g 0 [u0, u1, u2, u3, u4, u5, u6, u7, u8]) g u0 u1 u2 u3 u4 u5 u6 u7 u8 := by
  have e := sets_row [u0, u1, u2, u3, u4, u5, u6, u7, u8] w 0 _ h
  rw [show putL #[v0, v1, v2, v3, v4, v5, v6, v7, v8] 0 [u0, u1, u2, u3, u4, u5, u6, u7, u8] = #[u0, u1, u2, u3, u4, u5, u6, u7, u8] from by simp only [putL, List.setIfInBounds_toArray, List.set_cons_zero, List.set_cons_succ, Nat.zero_add, Nat.reduceAdd]] at e
  exact e
/-- A row of results: the first of them are there. -/
structure Arg (w : World) (g n : Nat) (ys : List NT) : Prop where
  le : ys.length ≤ n
  fine : ntE.Fine ys
  row : ∃ (cur : Array Value), w.heap[g]? = some (.cells cur 28 (0, 0)) ∧ cur.size = n * 9 ∧ ∀ (j : Nat) (u : Value), (ntE.all ys)[j]? = some u → cur[j]? = some u
section
variable {w w' : World} {g n : Nat} {ys : List NT}
theorem Arg.lt (h : Arg w g n ys) : g < w.heap.size := by obtain ⟨cur, h1, _⟩ := h.row; exact (Array.getElem?_eq_some_iff.1 h1).1
theorem Arg.same (h : Arg w g n ys) (hb : w'.heap[g]? = w.heap[g]?) : Arg w' g n ys := by
  obtain ⟨cur, h1, h2⟩ := h.row
  exact ⟨h.le, h.fine, cur, hb.trans h1, h2⟩
theorem Arg.there (h : Arg w g n ys) {j : Nat} (hj : j < n * 9) : ∃ v, w.cell? ⟨g, j, none⟩ = some v := by
  obtain ⟨cur, h1, h2, _⟩ := h.row
  exact ⟨cur[j], by rw [cell_of_row w g j _ _ _ h1]; exact Array.getElem?_eq_getElem (by omega)⟩
theorem Arg.free (h : Arg w g n ys) (j : Nat) : w.frozen? ⟨g, j, none⟩ = false := by
  obtain ⟨cur, h1, _⟩ := h.row
  exact frozen_of_row w g j _ _ h1
theorem Arg.put (h : Arg w g n ys) {q : Nat} (hq : ys.length = q) (hn : q < n) {y : NT} {u0 u1 u2 u3 u4 u5 u6 u7 u8 : Value} (hy : cellsE y.o y.b y.v y.A y.k.len y.c = [u0, u1, u2, u3, u4, u5, u6, u7, u8]) (h6 : y.b.length = 6) : Arg (sets w g (q * 9) [u0, u1, u2, u3, u4, u5, u6, u7, u8]) g n (ys ++ [y]) := by
  obtain ⟨cur, h0, hs, ha⟩ := h.row
  refine ⟨by rw [List.length_append, List.length_singleton]; omega, h.fine.snoc h6, putL cur (q * 9) [u0, u1, u2, u3, u4, u5, u6, u7, u8], sets_row _ w (q * 9) cur h0, by rw [putL_size]; exact hs, fun j u hu => ?_⟩
  have hl : (ntE.all ys).length = q * 9 := by rw [El.all_length h.fine, hq]; rfl
  rw [El.all_append, El.all_one, show ntE.cells y = [u0, u1, u2, u3, u4, u5, u6, u7, u8] from hy] at hu
  by_cases hj : j < q * 9
  · rw [putL_low _ _ _ _ hj]
    rw [List.getElem?_append_left (by omega)] at hu
    exact ha j u hu
  · rw [List.getElem?_append_right (by omega), hl] at hu
    have hj9 := (List.getElem?_eq_some_iff.1 hu).1
    have e : j = q * 9 + (j - q * 9) := by omega
    rw [e, putL_at _ _ _ _ hj9 (by rw [hs]; simp only [List.length_cons, List.length_nil]; omega)]
    exact hu
end
/-- Where arguments lie: at whole elements of their blocks. -/
def FT.al : Addr → FT → Prop
  | _, .nil => True
  | a, .cons _ _ _ A _ k r => a.off % 9 = 0 ∧ (k = .nil ∨ ∃ ad, A = some ad ∧ FT.al ad k) ∧ FT.al (a.add 9) r
def NT.Al (x : NT) : Prop := x.k = .nil ∨ ∃ ad, x.A = some ad ∧ x.k.al ad
/-- A row of results as arguments. -/
theorem Arg.kids {w : World} {g n : Nat} {ys : List NT} (h : Arg w g n ys) (hn : ys.length = n) (hf : n ≤ 9223372036854775807) {ok : Nat → Prop} (hg : ok g) (hy : ∀ y ∈ ys, y.Ok w ok) : Kids w ok (some ⟨g, 0, none⟩) n (FT.of ys) := by
  refine ⟨by rw [FT.of_len, hn]; exact Nat.le_refl _, by rw [FT.of_len, hn]; exact hf, .inr ⟨_, rfl, lay_of ys _ fun i x hx => ?_⟩⟩
  obtain ⟨cur, h1, hs, ha⟩ := h.row
  refine ⟨by rw [addr_add]; exact hg, by rw [addr_add]; exact h.lt, hy x (List.mem_of_getElem? hx), fun j u hu => ?_⟩
  rw [addr_add, addr_add, cell_of_row w g _ _ _ _ h1]
  refine ha _ u ?_
  rw [Nat.zero_add, show i * 9 + j = i * ntE.sz + j from rfl, El.all_at h.fine hx (by rw [← ntE.len x (h.fine x (List.mem_of_getElem? hx))]; exact (List.getElem?_eq_some_iff.1 hu).1)]
  exact hu
/-- A function value that makes nodes of nodes. -/
structure Acts {σ : Type} (F : FuncId) (lb : Array Value) (I : σ → (Nat → Prop) → World → Prop) (g : Nd → Nd) (nx : σ → σ) : Prop where
  enters : ∀ args w, (callFunc F args).run Try.prog w = .ok (.enter F args) w
  lt : ∀ s D w, I s D w → ∀ k, D k → k < w.heap.size
  keep : ∀ s D (w w' : World), I s D w → (∀ k, D k → w'.heap[k]? = w.heap[k]?) → w.heap.size ≤ w'.heap.size → I s D w'
  call : ∀ s D w (x : NT) (ok : Nat → Prop), I s D w → (∀ k, ok k → ¬ D k) → x.Ok w ok → Calls Try.prog F (#[x.val] ++ lb) w fun e w' => ∃ (y : NT) (D' : Nat → Prop), e = .returned y.val ∧ y.n = g x.n ∧ y.Ok w' ok ∧ (x.Al → y.Al) ∧ VI I D w (nx s) D' w'
/-- A block that is a row of cells, none of them frozen. -/
def RowAt (w : World) (j : Nat) : Prop := ∃ cs T, w.heap[j]? = some (.cells cs T (0, 0))
theorem RowAt.same {w w' : World} {j : Nat} (h : RowAt w j) (e : w'.heap[j]? = w.heap[j]?) : RowAt w' j := by
  obtain ⟨cs, T, h⟩ := h
  exact ⟨cs, T, e.trans h⟩
/-- An expression in blocks of a kind, all of them rows. -/
def NT.Rk (x : NT) (w : World) (ok : Nat → Prop) : Prop := x.Ok w (fun k => ok k ∧ RowAt w k)
section
variable {w w' : World} {ok ok' : Nat → Prop} {x : NT}
theorem NT.Rk.keep (q : x.Rk w ok) (h : ∀ k, ok k → k < w.heap.size → w'.heap[k]? = w.heap[k]?) (hs : w.heap.size ≤ w'.heap.size) (hk : ∀ k, ok k → k < w.heap.size → ok' k) : x.Rk w' ok' :=
  NT.Ok.keep q (fun k p l => h k p.1 l) hs (fun k p l => ⟨hk k p.1 l, p.2.same (h k p.1 l)⟩)
theorem NT.Rk.six (q : x.Rk w ok) : x.b.length = 6 := NT.Ok.six q
theorem NT.Rk.below (q : x.Rk w ok) (hb : Below w.heap.size w w') : x.Rk w' ok := q.keep (fun k _ hk => hb.block k hk) hb.size fun _ h _ => h
end
end Go.Proofs.Ytjjpfpgjpmedmaa
