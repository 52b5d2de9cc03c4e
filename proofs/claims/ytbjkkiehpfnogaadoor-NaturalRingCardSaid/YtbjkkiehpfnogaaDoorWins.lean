/- A window in a row of digits that the call may write: no claim of its own. -/
import Derived.Test.YtbjkkiehpfnogaaDoorNums
import Derived.Test.YtbjkkiehpfnogaaDoorMathB
namespace Go.Proofs.YtbjkkiehpfnogaaDoor
open Go.RowKit
structure Win (w : World) (g : Nat) (pre win post : List Nat) : Prop where
  blk : w.heap[g]? = some (.cells (Dg (pre ++ win ++ post)).toArray 46 (0, 0))
  lt : ∀ d ∈ win, d < 4294967296
section
variable {w w' : World} {g : Nat} {pre win post : List Nat}
theorem Win.size (h : Win w g pre win post) : g < w.heap.size := (Array.getElem?_eq_some_iff.1 h.blk).1
theorem addr_add (g o j : Nat) : (⟨g, o, none⟩ : Addr).add j = ⟨g, o + j, none⟩ := by unfold Addr.add; split <;> simp_all
theorem Win.cell (h : Win w g pre win post) {off : Nat} (ho : pre.length = off) {k : Nat} (hk : k < win.length) : w.cell? ⟨g, off + k, none⟩ = some (.int .u32 ((win.getD k 0 : Nat) : Int)) := by
  rw [cell_of_row w g (off + k) _ _ (0, 0) h.blk]
  simp only [Dg, List.getElem?_toArray, List.getElem?_map]
  rw [List.append_assoc, List.getElem?_append_right (by omega), List.getElem?_append_left (by omega), show off + k - pre.length = k by omega, List.getElem?_eq_getElem hk]
  simp [hk]
theorem Win.frozen (h : Win w g pre win post) (i : Nat) : w.frozen? ⟨g, i, none⟩ = false := by
  have := h.blk
  simp [World.frozen?, this]
theorem Win.drew (h : Win w g pre win post) : Win w.drew g pre win post := ⟨h.blk, h.lt⟩
theorem Win.drewN (h : Win w g pre win post) (n : Nat) : Win (w.drewN n) g pre win post := ⟨h.blk, h.lt⟩
theorem Win.set (h : Win w g pre win post) {off : Nat} (ho : pre.length = off) {k : Nat} (hk : k < win.length) (d : Nat) (hd : d < 4294967296) :
    Win (w.setCell ⟨g, off + k, none⟩ (.int .u32 (d : Int))) g pre (win.set k d) post := by
  refine ⟨?_, lt_set h.lt k d hd⟩
  have := h.blk
  simp [World.setCell, Array.getElem?_modify, this, Dg, List.map_set]
  rw [List.set_append_right _ _ (by simp; omega), List.set_append_left _ _ (by simp; omega)]
  simp [← ho]
theorem grown_set (w : World) (g o : Nat) (u : Value) : w.grownBy (w.setCell ⟨g, o, none⟩ u) (some g) :=
  ⟨rfl, rfl, rfl, by simp [World.setCell], fun k _ hk => Below.heap_setCell _ _ _ _ (by rintro rfl; exact hk rfl)⟩
theorem grown_drew (w : World) (r : Option Nat) : w.grownBy w.drew r := ⟨rfl, rfl, rfl, Nat.le_refl _, fun _ _ _ => rfl⟩
theorem grown_drewN (w : World) (r : Option Nat) (n : Nat) : w.grownBy (w.drewN n) r := ⟨rfl, rfl, rfl, Nat.le_refl _, fun _ _ _ => rfl⟩
theorem grown_trans {a b c : World} {r : Option Nat} (h : a.grownBy b r) (k : b.grownBy c r) : a.grownBy c r :=
  ⟨k.os.trans h.os, k.tape.trans h.tape, k.output.trans h.output, Nat.le_trans h.size k.size, fun i hi hne => (k.block i (Nat.lt_of_lt_of_le hi h.size) hne).trans (h.block i hi hne)⟩
theorem grown_below {a b : World} {g B : Nat} (h : a.grownBy b (some g)) (hg : B ≤ g) (hB : B ≤ a.heap.size) : Below B a b :=
  ⟨h.os, h.tape, h.output, h.size, fun k hk => h.block k (by omega) (by intro e; injection e with e; omega)⟩
/-- A list that lies elsewhere stays. -/
theorem Lst.off {A : Option Addr} {n c : Nat} {xs : List Nat} (h : Lst w A n c xs) (hg : w.grownBy w' (some g)) (hne : 0 < n → ∀ ad, A = some ad → ad.block ≠ g) : Lst w' A n c xs := by
  refine ⟨⟨h.reads.1, fun hn => ?_⟩, h.len, h.cap, h.room, h.lt⟩
  obtain ⟨ad, e, hb, hc⟩ := h.reads.2 hn
  refine ⟨ad, e, Nat.lt_of_lt_of_le hb hg.size, fun j u hu => ?_⟩
  rw [World.cell?_of_block (w := w)]
  · exact hc j u hu
  · rw [block_of_add]
    exact hg.block _ hb (by intro e'; injection e' with e'; exact hne hn ad e e')
theorem Lst.ne {A : Option Addr} {n c : Nat} {xs : List Nat} (h : Lst w A n c xs) (hg : w.heap.size ≤ g) : 0 < n → ∀ ad, A = some ad → ad.block ≠ g := fun hn ad e => by
  obtain ⟨ad', e', hb, _⟩ := h.at_ hn
  rw [e'] at e
  injection e with e
  subst e
  omega
theorem Win.off {g' : Nat} (h : Win w g pre win post) (hg : w.grownBy w' (some g')) (hne : g ≠ g') : Win w' g pre win post :=
  ⟨(hg.block g h.size (by intro e; injection e with e; exact hne e)).trans h.blk, h.lt⟩
theorem Win.keep (h : Win w g pre win post) (hb : Below w.heap.size w w') : Win w' g pre win post := ⟨(hb.block g h.size).trans h.blk, h.lt⟩
/-- The row as a list that reads. -/
theorem Win.lst (h : Win w g pre win post) {off c : Nat} (ho : pre.length = off) (hc : win.length ≤ c) (hr : win.length ≤ 35184372088832) : Lst w (some ⟨g, off, none⟩) win.length c win := by
  refine ⟨⟨by rw [Dg_length]; omega, fun _ => ⟨_, rfl, h.size, fun j u hu => ?_⟩⟩, rfl, hc, hr, h.lt⟩
  have hj : j < win.length := by
    have := (List.getElem?_eq_some_iff.1 hu).1
    rwa [Dg_length] at this
  rw [addr_add, h.cell ho hj, ← hu]
  simp [Dg, hj]
end
end Go.Proofs.YtbjkkiehpfnogaaDoor
