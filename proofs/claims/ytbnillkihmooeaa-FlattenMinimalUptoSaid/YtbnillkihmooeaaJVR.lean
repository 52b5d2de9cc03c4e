/- VROr0, VROr, joined: no claim of its own. -/
import Derived.Test.YtbnillkihmooeaaVRef0
import Derived.Test.YtbnillkihmooeaaVTab
import Derived.Test.YtbnillkihmooeaaBRows
import Derived.Test.YtbnillkihmooeaaJK
import Derived.Deep.DeepCutAuto
import Derived.Test.YtbnillkihmooeaaJGH
import Derived.Test.YtbnillkihmooeaaJVV
namespace Go.Proofs.Ytbnillkihmooeaa
open Go.RowKit
/-- A block of n bundles, the first i of which are the first i bundles within b. -/
def PB (w : World) (B n : Nat) (b : List Int) (i : Nat) : Prop := ∃ cs : Array Value, w.heap[B]? = some (.cells cs 23 (0, 0)) ∧ cs.size = n * 6 ∧ (∀ i', i' < i → ∀ j, j < 6 → cs[i' * 6 + j]? = some (.int .i64 (MB.at_ (MB.D b 6 i') j))) ∧ (∀ k, k < n * 6 → ∃ z, cs[k]? = some (.int .i64 z))
theorem PB.lt {w : World} {B n : Nat} {b : List Int} {i : Nat} (h : PB w B n b i) : B < w.heap.size := by obtain ⟨cs, h, _⟩ := h; exact (Array.getElem?_eq_some_iff.1 h).1
theorem PB.keep {w w' : World} {B n : Nat} {b : List Int} {i : Nat} (h : PB w B n b i) (hb : Below w.heap.size w w') : PB w' B n b i := by
  have hl := h.lt
  obtain ⟨cs, h, r⟩ := h
  exact ⟨cs, (hb.block B hl).trans h, r⟩
theorem PB.six {w : World} {B n : Nat} {b : List Int} {i : Nat} (h : PB w B n b i) (hi : i < n) : (∀ k, k < 6 → ∃ z, w.cell? ⟨B, i * 6 + k, none⟩ = some (.int .i64 z)) ∧ ∀ k, w.frozen? ⟨B, k, none⟩ = false := by
  obtain ⟨cs, h, hs, _, hz⟩ := h
  refine ⟨fun k hk => ?_, fun k => by simp [World.frozen?, h]⟩
  obtain ⟨z, e⟩ := hz (i * 6 + k) (by omega)
  exact ⟨z, (cell_of_row _ _ _ _ _ _ h).trans e⟩
theorem PB.put {w : World} {B n : Nat} {b : List Int} {i : Nat} (h : PB w B n b i) (hi : i < n) {y0 y1 y2 y3 y4 y5 : Int} (hy : MB.D b 6 i = [y0, y1, y2, y3, y4, y5]) : PB (sets w B (i * 6) [.int .i64 y0, .int .i64 y1, .int .i64 y2, .int .i64 y3, .int .i64 y4, .int .i64 y5]) B n b (i + 1) := by
  obtain ⟨cs, h, hs, h1, hz⟩ := h
  obtain ⟨vs, hvs⟩ : ∃ vs : List Value, vs = [.int .i64 y0, .int .i64 y1, .int .i64 y2, .int .i64 y3, .int .i64 y4, .int .i64 y5] := ⟨_, rfl⟩
  have hvl : vs.length = 6 := by rw [hvs]; rfl
  have hva : ∀ j, j < 6 → vs[j]? = some (.int .i64 (MB.at_ (MB.D b 6 i) j)) := fun j hj => by
    rw [hvs, hy]
    have : j = 0 ∨ j = 1 ∨ j = 2 ∨ j = 3 ∨ j = 4 ∨ j = 5 := by omega
    rcases this with rfl | rfl | rfl | rfl | rfl | rfl <;> rfl
  rw [← hvs]
  refine ⟨putL cs (i * 6) vs, sets_row vs w (i * 6) cs h, by rw [putL_size, hs], fun i' hi' j hj => ?_, fun k hk => ?_⟩
  · by_cases e : i' = i
    · subst e
      rw [putL_at vs cs (i' * 6) j (by omega) (by omega)]
      exact hva j hj
    · rw [putL_low vs cs (i * 6) _ (by omega)]
      exact h1 i' (by omega) j hj
  · by_cases e : k < i * 6
    · rw [putL_low vs cs (i * 6) _ e]; exact hz k hk
    · by_cases e2 : k < i * 6 + 6
      · have := putL_at vs cs (i * 6) (k - i * 6) (by omega) (by omega)
        rw [show i * 6 + (k - i * 6) = k by omega] at this
        rw [this]
        exact ⟨_, hva (k - i * 6) (by omega)⟩
      · rw [putL_high vs cs (i * 6) k (by omega)]; exact hz k hk
where
  putL_high : ∀ (vs : List Value) (cur : Array Value) (o j : Nat), o + vs.length ≤ j → (putL cur o vs)[j]? = cur[j]?
  | [], _, _, _, _ => rfl
  | v :: r, cur, o, j, h => by
    rw [List.length_cons] at h
    rw [putL, putL_high r _ _ _ (by omega), Array.getElem?_setIfInBounds, if_neg (by omega)]
theorem PB.of_own {w : World} {B g n : Nat} {b : List Int} (h : w.ownsRow B 23 6 (.slice (some ⟨g, 0, none⟩) n n) n (madeCells (Value.agg #[.int .i64 0, .int .i64 0, .int .i64 0, .int .i64 0, .int .i64 0, .int .i64 0]).cells (n * 6)).toList) : PB w g n b 0 := by
  rcases h.2 with ⟨e, _⟩ | ⟨g', cap, cur, e, hB, hh, _, _, hs, ht⟩
  · cases e
  · cases e
    rw [List.take_of_length_le (by simp [hs])] at ht
    refine ⟨cur, hh, by simpa using hs, fun i' hi' => absurd hi' (Nat.not_lt_zero _), fun k hk => ⟨0, ?_⟩⟩
    rw [← Array.getElem?_toList, ht, Array.getElem?_toList]
    show (madeCells #[Value.int .i64 0, .int .i64 0, .int .i64 0, .int .i64 0, .int .i64 0, .int .i64 0] (n * 6))[k]? = _
    unfold madeCells
    rw [Array.getElem?_map, Array.getElem?_range, if_pos hk]
    have : k % 6 = 0 ∨ k % 6 = 1 ∨ k % 6 = 2 ∨ k % 6 = 3 ∨ k % 6 = 4 ∨ k % 6 = 5 := by omega
    show some (#[Value.int .i64 0, .int .i64 0, .int .i64 0, .int .i64 0, .int .i64 0, .int .i64 0][k % 6]!) = _
    rcases this with e | e | e | e | e | e <;> rw [e] <;> rfl
end Go.Proofs.Ytbnillkihmooeaa
namespace Go.Proofs.Ytbnillkihmooeaa
open Go.RowKit
attribute [local go_sem] Oper.semAt_some
/-- All that lies, below N0: the supply, both tables, all bundles, the table to be. -/
structure RO (w : World) (Bx By Bo n N0 : Nat) (Ap : Option Addr) (b : List Int) (f g : List Int → Int) (go : Nat → Int) (X : World) : Prop where
  below : Below w.heap.size w X
  box : BB X w.heap.size 23 b
  xs : Blk X Bx (F (fun i => f (VV.at6 b i)) n) 2
  ys : Blk X By (F (fun i => g (VV.at6 b i)) n) 2
  ps : Rws X Ap n n (VV.all b)
  out : Blk X Bo (F go n) 2
  bo : w.heap.size < Bo ∧ Bo < N0
  bx : Bx < w.heap.size ∧ By < w.heap.size
  pa : ∀ ad, Ap = some ad → ad.block < N0 ∧ ad.block ≠ Bo
  nx : N0 ≤ X.heap.size
section
variable {w X Y : World} {Bx By Bo n N0 : Nat} {Ap : Option Addr} {b : List Int} {f g : List Int → Int} {go go' : Nat → Int}
theorem RO.same (h : RO w Bx By Bo n N0 Ap b f g go X) (e : ∀ k, k < n → go k = go' k) : RO w Bx By Bo n N0 Ap b f g go' X :=
  ⟨h.below, h.box, h.xs, h.ys, h.ps, by rw [← F_congr e]; exact h.out, h.bo, h.bx, h.pa, h.nx⟩
theorem RO.keep (h : RO w Bx By Bo n N0 Ap b f g go X) (hb : Below X.heap.size X Y) : RO w Bx By Bo n N0 Ap b f g go Y :=
  ⟨h.below.trans (hb.mono h.below.size), h.box.keep hb h.box.lt, h.xs.keep hb, h.ys.keep hb, h.ps.keep hb, h.out.keep hb, h.bo, h.bx, h.pa, Nat.le_trans h.nx hb.size⟩
/-- A store into another block, laid later. -/
theorem RO.far (h : RO w Bx By Bo n N0 Ap b f g go X) {Br : Nat} (hg : X.grownBy Y (some Br)) (hr : N0 ≤ Br) : RO w Bx By Bo n N0 Ap b f g go Y := by
  have hw := h.bo
  have hnx := h.nx
  have far : ∀ k, k < N0 → Y.heap[k]? = X.heap[k]? := fun k h1 => hg.block k (by omega) (by simp; omega)
  refine ⟨h.below.grown hg h.below.size (fun k e => by injection e with e; omega), ⟨(far _ (by omega)).trans h.box.1, h.box.2⟩, h.xs.same (far _ (by have := h.bx; omega)), h.ys.same (far _ (by have := h.bx; omega)), ?_, h.out.same (far _ hw.2), h.bo, h.bx, h.pa, Nat.le_trans hnx hg.size⟩
  refine ⟨⟨h.ps.reads.1, fun hn => ?_⟩, h.ps.len, h.ps.cap, h.ps.few, h.ps.all⟩
  obtain ⟨ad, e, h1, h2⟩ := h.ps.reads.2 hn
  have := h.pa ad e
  exact ⟨ad, e, Nat.lt_of_lt_of_le h1 hg.size, fun j u hu => (cell_same (by rw [block_of_add]; exact far _ this.1)).trans (h2 j u hu)⟩
/-- A store into the table. -/
theorem RO.put (h : RO w Bx By Bo n N0 Ap b f g go X) {i : Nat} {v : Int} (hgo : ∀ k, k < n → go' k = if k = i then v else go k) : RO w Bx By Bo n N0 Ap b f g go' (X.setCell ⟨Bo, i, none⟩ (.int .i64 v)) := by
  have hw := h.bo
  have hbx := h.bx
  have far : ∀ k, k ≠ Bo → (X.setCell ⟨Bo, i, none⟩ (.int .i64 v)).heap[k]? = X.heap[k]? := fun k h1 => Below.heap_setCell _ _ _ k h1
  refine ⟨h.below.setCell (p := ⟨Bo, i, none⟩) (by show w.heap.size ≤ Bo; omega) _, h.box.other _ (by omega), h.xs.other (by omega) _ _, h.ys.other (by omega) _ _, ?_, ?_, h.bo, h.bx, h.pa, by rw [World.size_setCell]; exact h.nx⟩
  · refine ⟨⟨h.ps.reads.1, fun hn => ?_⟩, h.ps.len, h.ps.cap, h.ps.few, h.ps.all⟩
    obtain ⟨ad, e, h1, h2⟩ := h.ps.reads.2 hn
    have := h.pa ad e
    exact ⟨ad, e, by rw [World.size_setCell]; exact h1, fun j u hu => (cell_same (by rw [block_of_add]; exact far _ this.2)).trans (h2 j u hu)⟩
  · have := h.out.set i (.int .i64 v)
    rwa [F_set go go' v hgo] at this
end
end Go.Proofs.Ytbnillkihmooeaa
