/- Words for the reference's or: the list of all bundles that a loop writes. No claim of its own. -/
import Derived.Test.YtgknggighpjcdaaVRef0
import Derived.Test.YtgknggighpjcdaaVTab
import Derived.Test.YtgknggighpjcdaaBRows
import Derived.Test.YtgknggighpjcdaaJK
import Derived.Deep.DeepCutAuto
namespace Go.Proofs.Ytgknggighpjcdaa
open Go.RowKit
/-- A block of n bundles, the first i of which are the first i bundles within b. -/
def PB (w : World) (B n : Nat) (b : List Int) (i : Nat) : Prop := ∃ cs : Array Value, w.heap[B]? = some (.cells cs 23 (0, 0)) ∧ cs.size = n * 6 ∧ (∀ i', i' < i → ∀ j, j < 6 → cs[i' * 6 + j]? = some (.int .i64 (MB.at_ (MB.D b 6 i') j))) ∧ (∀ k, k < n * 6 → ∃ z, cs[k]? = some (.int .i64 z))
theorem PB.lt {w : World} {B n : Nat} {b : List Int} {i : Nat} (h : PB w B n b i) : B < w.heap.size := by obtain ⟨cs, h, _⟩ := h; exact (Array.getElem?_eq_some_iff.1 h).1
theorem PB.keep {w w' : World} {B n : Nat} {b : List Int} {i : Nat} (h : PB w B n b i) (hb : Below w.heap.size w w') : PB w' B n b i := by
  have hl := h.lt
  obtain ⟨cs, h, r⟩ := h
  exact ⟨cs, (hb.block B hl).trans h, r⟩
theorem PB.six {w : World} {B n : Nat} {b : List Int} {i : Nat} (h : PB w B n b i) (hi : i < n) : (∀ k, k < 6 → ∃ z, w.cell? ⟨B, i * 6 + k, none⟩ = some (.int .i64 z)) ∧ ∀ k, w.frozen? ⟨B, k, none⟩ = false := by
  obtain ⟨cs, h, hs, _, hz⟩ := h
  refine ⟨fun k hk => ?_, fun k => by simp [World.frozen?, h]⟩
  obtain ⟨z, e⟩ := hz (i * 6 + k) (by omega)
  exact ⟨z, (cell_of_row _ _ _ _ _ _ h).trans e⟩
theorem PB.put {w : World} {B n : Nat} {b : List Int} {i : Nat} (h : PB w B n b i) (hi : i < n) {y0 y1 y2 y3 y4 y5 : Int} (hy : MB.D b 6 i = [y0, y1, y2, y3, y4, y5]) : PB (sets w B (i * 6) [.int .i64 y0, .int .i64 y1, .int .i64 y2, .int .i64 y3, .int .i64 y4, .int .i64 y5]) B n b (i + 1) := by
  obtain ⟨cs, h, hs, h1, hz⟩ := h
  obtain ⟨vs, hvs⟩ : ∃ vs : List Value, vs = [.int .i64 y0, .int .i64 y1, .int .i64 y2, .int .i64 y3, .int .i64 y4, .int .i64 y5] := ⟨_, rfl⟩
  have hvl : vs.length = 6 := by rw [hvs]; rfl
  have hva : ∀ j, j < 6 → vs[j]? = some (.int .i64 (MB.at_ (MB.D b 6 i) j)) := fun j hj => by
    rw [hvs, hy]
    have : j = 0 ∨ j = 1 ∨ j = 2 ∨ j = 3 ∨ j = 4 ∨ j = 5 := by omega
    rcases this with rfl | rfl | rfl | rfl | rfl | rfl <;> rfl
  rw [← hvs]
  refine ⟨putL cs (i * 6) vs, sets_row vs w (i * 6) cs h, by rw [putL_size, hs], fun i' hi' j hj => ?_, fun k hk => ?_⟩
  · by_cases e : i' = i
    · subst e
      rw [putL_at vs cs (i' * 6) j (by omega) (by omega)]
      exact hva j hj
    · rw [putL_low vs cs (i * 6) _ (by omega)]
      exact h1 i' (by omega) j hj
  · by_cases e : k < i * 6
    · rw [putL_low vs cs (i * 6) _ e]; exact hz k hk
    · by_cases e2 : k < i * 6 + 6
      · have := putL_at vs cs (i * 6) (k - i * 6) (by omega) (by omega)
        rw [show i * 6 + (k - i * 6) = k by omega] at this
        rw [this]
        exact ⟨_, hva (k - i * 6) (by omega)⟩
      · rw [putL_high vs cs (i * 6) k (by omega)]; exact hz k hk
where
  putL_high : ∀ (vs : List Value) (cur : Array Value) (o j : Nat), o + vs.length ≤ j → (putL cur o vs)[j]? = cur[j]?
  | [], _, _, _, _ => rfl
  | v :: r, cur, o, j, h => by
    rw [List.length_cons] at h
    rw [putL, putL_high r _ _ _ (by omega), Array.getElem?_setIfInBounds, if_neg (by omega)]
theorem PB.of_own {w : World} {B g n : Nat} {b : List Int} (h : w.ownsRow B 23 6 (.slice (some ⟨g, 0, none⟩) n n) n (madeCells (Value.agg #[.int .i64 0, .int .i64 0, .int .i64 0, .int .i64 0, .int .i64 0, .int .i64 0]).cells (n * 6)).toList) : PB w g n b 0 := by
  rcases h.2 with ⟨e, _⟩ | ⟨g', cap, cur, e, hB, hh, _, _, hs, ht⟩
  · cases e
  · cases e
    rw [List.take_of_length_le (by simp [hs])] at ht
    refine ⟨cur, hh, by simpa using hs, fun i' hi' => absurd hi' (Nat.not_lt_zero _), fun k hk => ⟨0, ?_⟩⟩
    rw [← Array.getElem?_toList, ht, Array.getElem?_toList]
    show (madeCells #[Value.int .i64 0, .int .i64 0, .int .i64 0, .int .i64 0, .int .i64 0, .int .i64 0] (n * 6))[k]? = _
    unfold madeCells
    rw [Array.getElem?_map, Array.getElem?_range, if_pos hk]
    have : k % 6 = 0 ∨ k % 6 = 1 ∨ k % 6 = 2 ∨ k % 6 = 3 ∨ k % 6 = 4 ∨ k % 6 = 5 := by omega
    show some (#[Value.int .i64 0, .int .i64 0, .int .i64 0, .int .i64 0, .int .i64 0, .int .i64 0][k % 6]!) = _
    rcases this with e | e | e | e | e | e <;> rw [e] <;> rfl
/-- All of them: a slice that reads as the bundles within b. -/
theorem PB.rws {w : World} {B n : Nat} {b : List Int} (h : PB w B n b n) (hn : n = VV.cnt b) (hc : n ≤ 100000) : Rws w (some ⟨B, 0, none⟩) n n (VV.all b) := by
  have hl := h.lt
  obtain ⟨cs, h, hs, h1, _⟩ := h
  have hall : ∀ r ∈ VV.all b, r.length = 6 := fun r hr => by
    unfold VV.all MB.row at hr
    obtain ⟨i, _, rfl⟩ := List.mem_map.1 hr
    rw [MB.pad_full (MB.D_length _ _ _)]; exact MB.D_length _ _ _
  have hlen : (VV.all b).length = n := by unfold VV.all; rw [MB.row_length, hn]
  refine ⟨⟨by rw [cellsRs_length hall, hlen], fun _ => ⟨_, rfl, hl, fun j u hu => ?_⟩⟩, hlen, Nat.le_refl _, hc, hall⟩
  rw [addr_add, Nat.zero_add, cell_of_row _ _ _ _ _ _ h]
  have hj : j < n * 6 := by
    have := (List.getElem?_eq_some_iff.1 hu).1
    rwa [cellsRs_length hall, hlen] at this
  have e := cellsRs_at hall (j / 6) (j % 6) (by rw [hlen]; omega) (by omega)
  rw [show j / 6 * 6 + j % 6 = j by omega] at e
  rw [← hu, e]
  have h2 := h1 (j / 6) (by omega) (j % 6) (by omega)
  rw [show j / 6 * 6 + j % 6 = j by omega] at h2
  rw [h2]
  have hr : (VV.all b)[j / 6]'(by rw [hlen]; omega) = MB.D b 6 (j / 6) := by
    have := MB.row_at (s := b) (i := 6) (n := VV.cnt b) (k := j / 6) (by rw [← hn]; omega)
    unfold VV.all
    rw [List.getElem?_eq_getElem (by rw [MB.row_length, ← hn]; omega)] at this
    rw [MB.pad_full (MB.D_length _ _ _)] at this
    exact Option.some.inj this
  rw [hr]
  show _ = (cellsR (MB.D b 6 (j / 6)))[j % 6]?
  obtain ⟨y0, y1, y2, y3, y4, y5, hy⟩ := Go.Proofs.Ytgknggighpjcdaa.six (MB.D_length b 6 (j / 6))
  rw [hy]
  have : j % 6 = 0 ∨ j % 6 = 1 ∨ j % 6 = 2 ∨ j % 6 = 3 ∨ j % 6 = 4 ∨ j % 6 = 5 := by omega
  rcases this with e | e | e | e | e | e <;> rw [e] <;> rfl
end Go.Proofs.Ytgknggighpjcdaa
