/- Words for the walk of SetupShrinks: a list of bundles that is made smaller. No claim of its own. -/
import Derived.Test.YtebcfdkkhfopkaaGreatDoorJUb
import Derived.Test.YtebcfdkkhfopkaaGreatDoorJMu
namespace Go.Proofs.YtebcfdkkhfopkaaGreatDoor
open Go.RowKit
namespace MU
theorem Less.refl {s : Su} {l : List (List Int)} (h : feasE s l = 0) : Less l l := by
  obtain ⟨_, _, h3, _⟩ := feasE_zero h
  exact ⟨rfl, fun i hi => (allowE_zero (h3 i hi)).2.2.1, fun _ _ _ _ => Int.le_refl _⟩
theorem ok_set {b : List Int} {k : Nat} {v : Int} (h : MB.okB b = true) (hv : 0 ≤ v ∧ v ≤ 4) : MB.okB (b.set k v) = true := by
  unfold MB.okB at *
  rw [List.all_eq_true] at *
  intro q hq
  rcases List.mem_or_eq_of_mem_set hq with g | g
  · exact h q g
  · subst g
    rw [decide_eq_true hv.1, decide_eq_true hv.2]; rfl
theorem Less.set {m l : List (List Int)} (h : Less m l) {i k : Nat} {v : Int} (hi : i < m.length) (hv : 0 ≤ v ∧ v ≤ 4) (hl : v ≤ MB.at_ (m.getD i []) k) (hk : k < (m.getD i []).length) : Less (m.set i ((m.getD i []).set k v)) l := by
  have e : ∀ j, (m.set i ((m.getD i []).set k v)).getD j [] = if j = i then (m.getD i []).set k v else m.getD j [] := fun j => by
    rw [List.getD_eq_getElem?_getD, List.getElem?_set]
    by_cases g : i = j
    · subst g; simp [hi]
    · rw [if_neg g, if_neg (fun x => g x.symm), List.getD_eq_getElem?_getD]
  refine ⟨by rw [List.length_set]; exact h.len, fun j hj => ?_, fun j hj q hq => ?_⟩
  · rw [List.length_set] at hj
    rw [e]
    split
    · exact ok_set (h.ok i hi) hv
    · exact h.ok j hj
  · rw [List.length_set] at hj
    rw [e]
    split
    · next g =>
      subst g
      rw [MC.at_set hk]
      split
      · next g2 => subst g2; exact Int.le_trans hl (h.le _ hj _ hq)
      · exact h.le _ hj q hq
    · exact h.le j hj q hq
end MU
/-- The list that is made smaller. -/
structure Mo (w : World) (g n c : Nat) (m : List (List Int)) : Prop where
  len : m.length = n
  cap : n ≤ c
  few : n ≤ 50
  fine : bunE.Fine m
  row : ∃ (cur : Array Value) (T : TypeId), w.heap[g]? = some (.cells cur T (0, 0)) ∧ ∀ (j : Nat) (u : Value), (bunE.all m)[j]? = some u → cur[j]? = some u
section
variable {w w' : World} {g n c : Nat} {m : List (List Int)}
theorem Mo.keep (h : Mo w g n c m) (hb : Below w.heap.size w w') : Mo w' g n c m := by
  obtain ⟨cur, T, h1, h2⟩ := h.row
  exact ⟨h.len, h.cap, h.few, h.fine, cur, T, (hb.block g (Array.getElem?_eq_some_iff.1 h1).1).trans h1, h2⟩
theorem Mo.lst (h : Mo w g n c m) : Lst bunE w (some ⟨g, 0, none⟩) n c m := by
  obtain ⟨cur, T, h1, h2⟩ := h.row
  refine ⟨⟨by rw [El.all_length h.fine, h.len], fun _ => ⟨_, rfl, (Array.getElem?_eq_some_iff.1 h1).1, fun j u hu => ?_⟩⟩, h.len, h.cap, by have := h.few; omega, h.fine⟩
  rw [addr_add, Nat.zero_add, cell_of_row w g j _ _ _ h1]
  exact h2 j u hu
theorem Mo.lt (h : Mo w g n c m) : g < w.heap.size := by
  obtain ⟨cur, T, h1, h2⟩ := h.row
  exact (Array.getElem?_eq_some_iff.1 h1).1
theorem Mo.free (h : Mo w g n c m) (k : Nat) : w.frozen? ⟨g, k, none⟩ = false := by
  obtain ⟨cur, T, h1, h2⟩ := h.row
  exact frozen_of_row w g k _ T h1
theorem all_set {m : List (List Int)} (hf : bunE.Fine m) {i k : Nat} {x : List Int} (hx : m[i]? = some x) (hk : k < 6) (v : Int) :
    bunE.all (m.set i (x.set k v)) = (bunE.all m).set (i * 6 + k) (.int .i64 v) := by
  induction m generalizing i with
  | nil => cases hx
  | cons y r ih =>
    have hy : (bunE.cells y).length = 6 := bunE.len y hf.head
    cases i with
    | zero =>
      simp only [List.getElem?_cons_zero, Option.some.injEq] at hx
      subst hx
      show bunE.cells (y.set k v) ++ bunE.all r = (bunE.cells y ++ bunE.all r).set (0 * 6 + k) _
      rw [Nat.zero_mul, Nat.zero_add, List.set_append_left _ _ (by rw [hy]; exact hk)]
      congr 1
      show (y.set k v).map (Value.int .i64) = (y.map (Value.int .i64)).set k _
      rw [List.map_set]
    | succ i =>
      simp only [List.getElem?_cons_succ] at hx
      show bunE.cells y ++ bunE.all (r.set i (x.set k v)) = (bunE.cells y ++ bunE.all r).set ((i + 1) * 6 + k) _
      rw [ih hf.tail hx, List.set_append_right _ _ (by rw [hy]; omega), hy, show (i + 1) * 6 + k - 6 = i * 6 + k by omega]
theorem Mo.set (h : Mo w g n c m) {i k : Nat} {x : List Int} (hx : m[i]? = some x) (hk : k < 6) (v : Int) : Mo (w.setCell ⟨g, 0 + i * 6 + k, none⟩ (.int .i64 v)) g n c (m.set i (x.set k v)) := by
  obtain ⟨cur, T, h1, h2⟩ := h.row
  refine ⟨by rw [List.length_set]; exact h.len, h.cap, h.few, fun y hy => ?_, _, T, heap_setCell_same w g _ _ T _ h1, fun j u hu => ?_⟩
  · rcases List.mem_or_eq_of_mem_set hy with q | q
    · exact h.fine y q
    · subst q
      show (x.set k v).length = 6
      rw [List.length_set]
      exact h.fine x (List.mem_of_getElem? hx)
  · rw [all_set h.fine hx hk] at hu
    rw [Nat.zero_add, Array.getElem?_setIfInBounds]
    rw [List.getElem?_set] at hu
    by_cases e : i * 6 + k = j
    · rw [if_pos e] at hu ⊢
      split at hu
      · next hl =>
        obtain ⟨u', hu'⟩ : ∃ u', (bunE.all m)[i * 6 + k]? = some u' := ⟨_, List.getElem?_eq_getElem hl⟩
        have := (Array.getElem?_eq_some_iff.1 (h2 _ _ hu')).1
        rw [if_pos this]
        exact hu
      · cases hu
    · rw [if_neg e] at hu ⊢
      exact h2 j u hu
theorem Mo.at_ (h : Mo w g n c m) {i : Nat} (hi : i < n) : ∃ x, m[i]? = some x ∧ x.length = 6 ∧ ∀ k, k < 6 → w.cell? ⟨g, 0 + i * 6 + k, none⟩ = some (.int .i64 (MB.at_ x k)) := by
  have hl : i < m.length := by rw [h.len]; exact hi
  refine ⟨m[i], List.getElem?_eq_getElem hl, h.fine _ (List.getElem_mem hl), fun k hk => ?_⟩
  obtain ⟨ad, x, e, hx, h6, _, hc⟩ := bun_cell h.lst hi hk
  rw [List.getElem?_eq_getElem hl] at hx
  injection hx with hx
  injection e with e
  subst e hx
  rw [addr_add, addr_add] at hc
  exact hc
end
end Go.Proofs.YtebcfdkkhfopkaaGreatDoor
