/- Cells that hold integers: no claim of its own. -/
import Derived.Test.YtbllnkhbahenkaaDoorASmall
namespace Go.Proofs.YtbllnkhbahenkaaDoor
open Go.RowKit MA
/-- Cells that hold the integers f 0, .., f (n - 1). -/
def F (f : Nat → Int) (n : Nat) : List Value := (List.range n).map fun i => Value.int .i64 (f i)
theorem F_len (f : Nat → Int) (n : Nat) : (F f n).length = n := by simp [F]
theorem F_at (f : Nat → Int) {n i : Nat} (h : i < n) : (F f n)[i]? = some (.int .i64 (f i)) := by simp [F, h]
theorem F_congr {f g : Nat → Int} {n : Nat} (h : ∀ i, i < n → f i = g i) : F f n = F g n := by
  unfold F
  apply List.map_congr_left
  intro i hi
  rw [h i (List.mem_range.1 hi)]
theorem F_set (f g : Nat → Int) {n k : Nat} (v : Int) (h : ∀ i, i < n → g i = if i = k then v else f i) : (F f n).set k (.int .i64 v) = F g n := by
  apply List.ext_getElem?
  intro i
  rw [List.getElem?_set]
  by_cases hi : i < n
  · rw [F_at g hi, h i hi, F_len]
    by_cases e : k = i
    · subst e; simp [hi]
    · rw [if_neg e, if_neg (fun e' => e e'.symm), F_at f hi]
  · rw [List.getElem?_eq_none (by rw [F_len]; omega : (F g n).length ≤ i), List.getElem?_eq_none (by rw [F_len]; omega : (F f n).length ≤ i), F_len]
    by_cases e : k = i
    · simp [e, hi]
    · simp [e]
theorem Wts.of_blk {w : World} {b n c : Nat} {f : Nat → Int} {t : TypeId} (h : Blk w b (F f n) t) (hn : n ≤ 40) (hc : n ≤ c) : Wts w (some ⟨b, 0, none⟩) n c ((List.range n).map f) := by
  refine ⟨⟨by simp, fun _ => ⟨_, rfl, h.lt, fun j u hu => ?_⟩⟩, by simp, hc, hn⟩
  have e : (List.map (Value.int .i64) ((List.range n).map f)) = F f n := by simp [F]
  rw [e] at hu
  have : (⟨b, 0, none⟩ : Addr).add j = ⟨b, j, none⟩ := by unfold Addr.add; split <;> simp_all
  rw [this]
  exact h.cell hu
theorem Blk.keepG {w w1 : World} {b : Nat} {cs : List Value} {t : TypeId} (h : Blk w b cs t) {g : Nat} (hg : w.grownBy w1 (some g)) (hne : b ≠ g) : Blk w1 b cs t :=
  (hg.block b h.lt (by intro e; injection e with e; exact hne e)).trans h
/-- A list of integers and an error handed back. -/
def GivesL (l : List Int) (er : Int) (w : World) (e : Ending) (w' : World) : Prop := ∃ A n c, e = .returned (.tuple #[.slice A n c, .int .i64 er]) ∧ Wts w' A n c l ∧ Below w.heap.size w w'
theorem GivesL.nil (er : Int) (w w' : World) (hb : Below w.heap.size w w') : GivesL [] er w (.returned (.tuple #[.slice none 0 0, .int .i64 er])) w' :=
  ⟨none, 0, 0, rfl, ⟨⟨by simp, fun h => absurd h (by decide)⟩, rfl, Nat.le_refl _, by decide⟩, hb⟩
theorem F_eq (f : Nat → Int) (n : Nat) : F f n = ((List.range n).map f).map (Value.int .i64) := by simp [F]
end Go.Proofs.YtbllnkhbahenkaaDoor
