/- Lists that are written out, and lists that came in: no claim of its own. -/
import Derived.Test.YtbllnkhbahenkaaDoorAF
import Derived.Test.YtbllnkhbahenkaaDoorIsRow
namespace Go.Proofs.YtbllnkhbahenkaaDoor
open Go.RowKit
theorem range_getD (ws : List Int) : (List.range ws.length).map (fun i => ws.getD i 0) = ws := by
  apply List.ext_getElem (by simp)
  intro i h1 h2
  simp [List.getD_eq_getElem?_getD, h2]
theorem Wts.lit {w : World} {b : Nat} {t : TypeId} (ws : List Int) (n : Nat) (h : Blk w b (ws.map (Value.int .i64)) t) (hn : ws.length = n) (h40 : n ≤ 40) : Wts w (some ⟨b, 0, none⟩) n n ws := by
  subst hn
  have := Wts.of_blk (w := w) (b := b) (t := t) (f := fun i => ws.getD i 0) (by rw [F_eq, range_getD]; exact h) h40 (Nat.le_refl _)
  rwa [range_getD] at this
theorem IsRow.wts {w : World} {A : Option Addr} {n c : Nat} {zs : List Int} (h : IsRow .i64 w A n c zs) (hs : n ≤ 40) : Wts w A n c (zs.take n) := by
  rcases h with ⟨rfl, rfl, rfl, rfl⟩ | ⟨x, rfl, h1, h2, hz, hc, hwf⟩
  · exact ⟨⟨by simp, fun h => absurd h (by decide)⟩, rfl, Nat.le_refl _, by decide⟩
  · refine ⟨⟨by simp; omega, fun hp => ⟨x, rfl, ?_, fun j u hu => ?_⟩⟩, by simp; omega, h1, hs⟩
    · have := World.block_lt_of_cell? w _ (hc 0 (by omega))
      rwa [block_of_add] at this
    · have hj : j < n := by
        have := (List.getElem?_eq_some_iff.1 hu).1
        simp at this; omega
      rw [hc j (by omega), ← hu]
      simp only [List.getElem?_map, List.getElem?_take_of_lt hj, List.getElem?_eq_getElem (show j < zs.length by omega), Option.map_some]
      rw [List.getD_eq_getElem?_getD, List.getElem?_eq_getElem (by omega)]
      rfl
theorem IsRow.le {w : World} {A : Option Addr} {n c : Nat} {zs : List Int} (h : IsRow .i64 w A n c zs) : n ≤ c ∧ n ≤ 9223372036854775807 := by
  rcases h with ⟨_, rfl, rfl, _⟩ | ⟨x, _, h1, h2, _⟩
  · omega
  · unfold maxLen at h2; omega
theorem share_a : shareR 10 [1, 1, 1] = ([4, 3, 3], 0) := by decide +kernel
theorem share_b : shareR 7 [2, 1] = ([5, 2], 0) := by decide +kernel
theorem share_c : shareR 1 [0] = ([], 6) := by decide +kernel
end Go.Proofs.YtbllnkhbahenkaaDoor
