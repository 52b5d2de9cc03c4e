/- Words for the walks of chapter 7. Plain theorems, no claim of their own. -/
import Derived.Test.YtpemamkhaiiaaaaLBase
import Derived.Test.YtpemamkhaiiaaaaMathB
import Derived.WalkKit
import Derived.Below
import Derived.Laws.OwnMore
import Derived.Laws.Rows
import Derived.Deep.AppendLies
import Derived.Deep.Draws
import Derived.Maps.AppendAt
import Derived.RegionTactic
import Derived.OwnWalk
import Derived.Lib.Hide
import Derived.Deep.QuietTactic
import Derived.BigQuiet
import Derived.BigRegion
import Derived.WalkSpells
import Derived.WalkLawsBesides
import Derived.Outline
import Derived.StillTailTactics
namespace Go.Proofs.Ytpemamkhaiiaaaa
open Go.RowKit
/-- A bundle's cells; a bundle by value. -/
def cellsB (xs : List Int) : Array Value := (xs.map (Value.int .i64)).toArray
def aggB (xs : List Int) : Value := .agg (cellsB xs)
theorem six {xs : List Int} (h : xs.length = 6) : ∃ a b c d e f : Int, xs = [a, b, c, d, e, f] := by
  match xs, h with
  | [a, b, c, d, e, f], _ => exact ⟨a, b, c, d, e, f, rfl⟩
theorem aggB_lit (a b c d e f : Int) : aggB [a, b, c, d, e, f] = .agg #[.int .i64 a, .int .i64 b, .int .i64 c, .int .i64 d, .int .i64 e, .int .i64 f] := rfl
theorem cellsB_lit (a b c d e f : Int) : cellsB [a, b, c, d, e, f] = #[.int .i64 a, .int .i64 b, .int .i64 c, .int .i64 d, .int .i64 e, .int .i64 f] := rfl
theorem cellsB_at {xs : List Int} {k : Nat} (h : k < xs.length) : (cellsB xs)[k]? = some (.int .i64 (MB.at_ xs k)) := by
  unfold cellsB MB.at_
  simp [List.getElem?_eq_getElem h]
theorem cellsB_set (xs : List Int) (k : Nat) (v : Int) : (cellsB xs).setIfInBounds k (.int .i64 v) = cellsB (xs.set k v) := by
  unfold cellsB
  rw [List.map_set, List.setIfInBounds_toArray]
/-- A block that holds a bundle. -/
def BB (w : World) (B : Nat) (T : TypeId) (xs : List Int) : Prop := w.heap[B]? = some (.cells (cellsB xs) T (0, 0)) ∧ xs.length = 6
section
variable {w w' : World} {B n : Nat} {T : TypeId} {xs : List Int}
theorem BB.new (w : World) (T : TypeId) (a b c d e f : Int) : BB (w.alloc (.cells #[.int .i64 a, .int .i64 b, .int .i64 c, .int .i64 d, .int .i64 e, .int .i64 f] T)) w.heap.size T [a, b, c, d, e, f] := ⟨heap_new _ _, rfl⟩
theorem BB.cell (h : BB w B T xs) {k : Nat} (hk : k < 6) : w.cell? ⟨B, k, none⟩ = some (.int .i64 (MB.at_ xs k)) := by
  rw [cell_of_row w B k _ _ _ h.1]
  exact cellsB_at (by rw [h.2]; exact hk)
theorem BB.free (h : BB w B T xs) (k : Nat) : w.frozen? ⟨B, k, none⟩ = false := frozen_of_row w B k _ T h.1
theorem BB.lt (h : BB w B T xs) : B < w.heap.size := (Array.getElem?_eq_some_iff.1 h.1).1
theorem BB.keep (h : BB w B T xs) (hb : Below n w w') (hB : B < n) : BB w' B T xs := ⟨(hb.block B hB).trans h.1, h.2⟩
theorem BB.set (h : BB w B T xs) (k : Nat) (v : Int) : BB (w.setCell ⟨B, k, none⟩ (.int .i64 v)) B T (xs.set k v) :=
  ⟨by rw [heap_setCell_same w B k _ T _ h.1, cellsB_set], by rw [List.length_set, h.2]⟩
theorem BB.other (h : BB w B T xs) {B' k : Nat} (v : Value) (hne : B ≠ B') : BB (w.setCell ⟨B', k, none⟩ v) B T xs := ⟨by rw [heap_setCell_other w _ B v hne]; exact h.1, h.2⟩
theorem BB.alloc (h : BB w B T xs) (o : Obj) : BB (w.alloc o) B T xs := ⟨by rw [Below.heap_alloc w o B h.lt]; exact h.1, h.2⟩
theorem BB.drew (h : BB w B T xs) : BB w.drew B T xs := h
theorem BB.drewN (h : BB w B T xs) (q : Nat) : BB (w.drewN q) B T xs := by
  induction q with
  | zero => exact h
  | succ q ih => exact ih
end
theorem at_lit (a b c d e f : Int) : MB.at_ [a, b, c, d, e, f] 0 = a ∧ MB.at_ [a, b, c, d, e, f] 1 = b ∧ MB.at_ [a, b, c, d, e, f] 2 = c ∧ MB.at_ [a, b, c, d, e, f] 3 = d ∧ MB.at_ [a, b, c, d, e, f] 4 = e ∧ MB.at_ [a, b, c, d, e, f] 5 = f := ⟨rfl, rfl, rfl, rfl, rfl, rfl⟩
theorem index_0 (a b c d e f : Int) (w : World) : (Instr.index 23 (.agg #[.int .i64 a, .int .i64 b, .int .i64 c, .int .i64 d, .int .i64 e, .int .i64 f]) (.int .i64 0)).run Try.prog w = .ok (.int .i64 a) w := by kernel_rfl
theorem index_1 (a b c d e f : Int) (w : World) : (Instr.index 23 (.agg #[.int .i64 a, .int .i64 b, .int .i64 c, .int .i64 d, .int .i64 e, .int .i64 f]) (.int .i64 1)).run Try.prog w = .ok (.int .i64 b) w := by kernel_rfl
theorem index_2 (a b c d e f : Int) (w : World) : (Instr.index 23 (.agg #[.int .i64 a, .int .i64 b, .int .i64 c, .int .i64 d, .int .i64 e, .int .i64 f]) (.int .i64 2)).run Try.prog w = .ok (.int .i64 c) w := by kernel_rfl
theorem index_3 (a b c d e f : Int) (w : World) : (Instr.index 23 (.agg #[.int .i64 a, .int .i64 b, .int .i64 c, .int .i64 d, .int .i64 e, .int .i64 f]) (.int .i64 3)).run Try.prog w = .ok (.int .i64 d) w := by kernel_rfl
theorem index_4 (a b c d e f : Int) (w : World) : (Instr.index 23 (.agg #[.int .i64 a, .int .i64 b, .int .i64 c, .int .i64 d, .int .i64 e, .int .i64 f]) (.int .i64 4)).run Try.prog w = .ok (.int .i64 e) w := by kernel_rfl
theorem index_5 (a b c d e f : Int) (w : World) : (Instr.index 23 (.agg #[.int .i64 a, .int .i64 b, .int .i64 c, .int .i64 d, .int .i64 e, .int .i64 f]) (.int .i64 5)).run Try.prog w = .ok (.int .i64 f) w := by kernel_rfl
/-- The k-th quantity of a bundle by value. -/
theorem index_lit (a b c d e f : Int) (k : Nat) (hk : k < 6) (w : World) :
    (Instr.index 23 (.agg #[.int .i64 a, .int .i64 b, .int .i64 c, .int .i64 d, .int .i64 e, .int .i64 f]) (.int .i64 k)).run Try.prog w = .ok (.int .i64 (MB.at_ [a, b, c, d, e, f] k)) w := by
  have h : k = 0 ∨ k = 1 ∨ k = 2 ∨ k = 3 ∨ k = 4 ∨ k = 5 := by omega
  clear hk
  rcases h with rfl | rfl | rfl | rfl | rfl | rfl
  · exact index_0 a b c d e f w
  · exact index_1 a b c d e f w
  · exact index_2 a b c d e f w
  · exact index_3 a b c d e f w
  · exact index_4 a b c d e f w
  · exact index_5 a b c d e f w
end Go.Proofs.Ytpemamkhaiiaaaa
