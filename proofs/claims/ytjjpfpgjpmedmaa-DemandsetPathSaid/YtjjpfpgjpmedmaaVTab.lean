/- Slices of values: a block of integers, tables handed back. No claim of its own. -/
import Derived.Test.YtjjpfpgjpmedmaaJJ
import Derived.Test.YtjjpfpgjpmedmaaMathVD
import Derived.Laws.OwnMore
namespace Go.Proofs.Ytjjpfpgjpmedmaa
open Go.RowKit
/-- Block b holds the cells cs. -/
def Blk (w : World) (b : Nat) (cs : List Value) (t : TypeId) : Prop := w.heap[b]? = some (.cells cs.toArray t (0, 0))
section
variable {w w1 : World} {b : Nat} {cs : List Value} {t : TypeId}
theorem Blk.lt (h : Blk w b cs t) : b < w.heap.size := (Array.getElem?_eq_some_iff.1 h).1
theorem Blk.cell (h : Blk w b cs t) {i : Nat} {v : Value} (hv : cs[i]? = some v) : w.cell? ⟨b, i, none⟩ = some v := by
  have h' : w.heap[b]? = some (.cells cs.toArray t (0, 0)) := h
  rw [cell_of_row w b i _ _ _ h']; simpa using hv
theorem Blk.frozen (h : Blk w b cs t) (i : Nat) : w.frozen? ⟨b, i, none⟩ = false := by
  have h' : w.heap[b]? = some (.cells cs.toArray t (0, 0)) := h
  simp [World.frozen?, h']
theorem Blk.keep (h : Blk w b cs t) (hb : Below w.heap.size w w1) : Blk w1 b cs t := (hb.block b h.lt).trans h
theorem Blk.same (h : Blk w b cs t) (hb : w1.heap[b]? = w.heap[b]?) : Blk w1 b cs t := hb.trans h
theorem Blk.new (w : World) (cs : Array Value) (t : TypeId) : Blk (w.alloc (.cells cs t)) w.heap.size cs.toList t := heap_new w _
theorem Blk.set (h : Blk w b cs t) (i : Nat) (v : Value) : Blk (w.setCell ⟨b, i, none⟩ v) b (cs.set i v) t := by
  have h' : w.heap[b]? = some (.cells cs.toArray t (0, 0)) := h
  have := heap_setCell_same w b i _ _ v h'
  unfold Blk; rw [this]; simp
theorem Blk.other (h : Blk w b cs t) {g : Nat} (hne : b ≠ g) (i : Nat) (v : Value) : Blk (w.setCell ⟨g, i, none⟩ v) b cs t := by
  unfold Blk; rw [heap_setCell_other w _ b v hne]; exact h
end
/-- Cells that hold the integers f 0, .., f (n - 1). -/
def F (f : Nat → Int) (n : Nat) : List Value := (List.range n).map fun i => Value.int .i64 (f i)
theorem F_len (f : Nat → Int) (n : Nat) : (F f n).length = n := by simp [F]
theorem F_at (f : Nat → Int) {n i : Nat} (h : i < n) : (F f n)[i]? = some (.int .i64 (f i)) := by simp [F, h]
theorem F_set (f g : Nat → Int) {n k : Nat} (v : Int) (h : ∀ i, i < n → g i = if i = k then v else f i) : (F f n).set k (.int .i64 v) = F g n := by
  apply List.ext_getElem?
  intro i
  rw [List.getElem?_set]
  by_cases hi : i < n
  · rw [F_at g hi, h i hi, F_len]
    by_cases e : k = i
    · subst e; simp [hi]
    · rw [if_neg e, if_neg (fun e' => e e'.symm), F_at f hi]
  · rw [List.getElem?_eq_none (by rw [F_len]; omega : (F g n).length ≤ i), List.getElem?_eq_none (by rw [F_len]; omega : (F f n).length ≤ i), F_len]
    by_cases e : k = i
    · simp [e, hi]
    · simp [e]
theorem F_int (f : Nat → Int) (n : Nat) : F f n = intE.all ((List.range n).map f) := by
  unfold F El.all intE
  induction (List.range n) with
  | nil => rfl
  | cons a r ih => simp only [List.map_cons, List.flatMap_cons] at ih ⊢; rw [ih]; rfl
theorem Blk.lst {w : World} {b n c : Nat} {f : Nat → Int} {t : TypeId} (h : Blk w b (F f n) t) (hc : n ≤ c) (hn : n ≤ 9223372036854775807) (hf : ∀ i, i < n → -9223372036854775808 ≤ f i ∧ f i ≤ 9223372036854775807) : Lst intE w (some ⟨b, 0, none⟩) n c ((List.range n).map f) := by
  refine ⟨⟨?_, fun _ => ⟨_, rfl, h.lt, fun j u hu => ?_⟩⟩, by simp, hc, hn, fun x hx => ?_⟩
  · rw [← F_int, F_len]; show n = n * 1; omega
  · rw [← F_int] at hu
    rw [addr_add, Nat.zero_add]
    exact h.cell hu
  · obtain ⟨i, hi, rfl⟩ := List.mem_map.1 hx
    exact hf i (List.mem_range.1 hi)
theorem Blk.of_own {w : World} {B g n : Nat} {e : TypeId} {xs : List Value} (h : w.ownsRow B e 1 (.slice (some ⟨g, 0, none⟩) n n) n xs) : Blk w g xs e := by
  rcases h.2 with ⟨e, _⟩ | ⟨g', cap, cur, e, hB, hh, _, _, hs, ht⟩
  · cases e
  · cases e
    unfold Blk
    rw [hh, ← ht, List.take_of_length_le (by simp [hs])]
theorem zeros (n : Nat) : (madeCells (Value.int .i64 0).cells (n * 1)).toList = F (fun _ => 0) n := by
  show (madeCells #[Value.int .i64 0] (n * 1)).toList = _
  rw [toList_madeCells_one, Nat.mul_one]
  unfold F
  apply List.ext_getElem
  · simp
  · intro i h1 h2; simp
theorem OwnL.ne {α : Type} {E : El α} {e : TypeId} {w : World} {B g : Nat} {v : Value} {l : List α} {cs : Array Value} {T : TypeId} {fz : Nat × Nat} (h : OwnL E e w B v l) (hg : w.heap[g]? = some (.cells cs T fz)) (hT : T ≠ e) : v.ownBlock = none ∨ v.ownBlock ≠ some g := by
  rcases h.1.2 with ⟨rfl, _⟩ | ⟨g', cap, cur, rfl, _, hh, _⟩
  · exact .inl rfl
  · refine .inr fun he => ?_
    have : g' = g := by simpa [Value.ownBlock] using he
    subst this
    rw [hh] at hg
    injection hg with hg
    injection hg with _ hg _
    exact hT hg.symm
end Go.Proofs.Ytjjpfpgjpmedmaa
