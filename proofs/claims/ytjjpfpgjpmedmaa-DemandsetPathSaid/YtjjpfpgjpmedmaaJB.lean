/- BBase, BCheck, BRead, BSum, BArith, joined: no claim of its own. -/
import Derived.Test.YtjjpfpgjpmedmaaLBase
import Derived.Test.YtjjpfpgjpmedmaaMathB
import Derived.WalkKit
import Derived.Below
import Derived.Laws.OwnMore
import Derived.Laws.Rows
import Derived.Deep.AppendLies
import Derived.Deep.Draws
import Derived.Maps.AppendAt
import Derived.RegionTactic
import Derived.OwnWalk
import Derived.Lib.Hide
import Derived.Deep.QuietTactic
import Derived.BigQuiet
import Derived.BigRegion
import Derived.WalkSpells
import Derived.WalkLawsBesides
import Derived.Outline
import Derived.StillTailTactics
import Derived.IntWalk
namespace Go.Proofs.Ytjjpfpgjpmedmaa
open Go.RowKit
/-- A bundle's cells; a bundle by value. -/
def cellsB (xs : List Int) : Array Value := (xs.map (Value.int .i64)).toArray
def aggB (xs : List Int) : Value := .agg (cellsB xs)
theorem six {xs : List Int} (h : xs.length = 6) : ∃ a b c d e f : Int, xs = [a, b, c, d, e, f] := by
  match xs, h with
  | [a, b, c, d, e, f], _ => exact ⟨a, b, c, d, e, f, rfl⟩
theorem aggB_lit (a b c d e f : Int) : aggB [a, b, c, d, e, f] = .agg #[.int .i64 a, .int .i64 b, .int .i64 c, .int .i64 d, .int .i64 e, .int .i64 f] := rfl
theorem cellsB_at {xs : List Int} {k : Nat} (h : k < xs.length) : (cellsB xs)[k]? = some (.int .i64 (MB.at_ xs k)) := by
  unfold cellsB MB.at_
  simp [List.getElem?_eq_getElem h]
theorem cellsB_set (xs : List Int) (k : Nat) (v : Int) : (cellsB xs).setIfInBounds k (.int .i64 v) = cellsB (xs.set k v) := by
  unfold cellsB
  rw [List.map_set, List.setIfInBounds_toArray]
/-- A block that holds a bundle. -/
def BB (w : World) (B : Nat) (T : TypeId) (xs : List Int) : Prop := w.heap[B]? = some (.cells (cellsB xs) T (0, 0)) ∧ xs.length = 6
section
variable {w w' : World} {B n : Nat} {T : TypeId} {xs : List Int}
theorem BB.new (w : World) (T : TypeId) (a b c d e f : Int) : BB (w.alloc (.cells #[.int .i64 a, .int .i64 b, .int .i64 c, .int .i64 d, .int .i64 e, .int .i64 f] T)) w.heap.size T [a, b, c, d, e, f] := ⟨heap_new _ _, rfl⟩
theorem BB.cell (h : BB w B T xs) {k : Nat} (hk : k < 6) : w.cell? ⟨B, k, none⟩ = some (.int .i64 (MB.at_ xs k)) := by
  rw [cell_of_row w B k _ _ _ h.1]
  exact cellsB_at (by rw [h.2]; exact hk)
theorem BB.free (h : BB w B T xs) (k : Nat) : w.frozen? ⟨B, k, none⟩ = false := frozen_of_row w B k _ T h.1
theorem BB.lt (h : BB w B T xs) : B < w.heap.size := (Array.getElem?_eq_some_iff.1 h.1).1
theorem BB.keep (h : BB w B T xs) (hb : Below n w w') (hB : B < n) : BB w' B T xs := ⟨(hb.block B hB).trans h.1, h.2⟩
theorem BB.set (h : BB w B T xs) (k : Nat) (v : Int) : BB (w.setCell ⟨B, k, none⟩ (.int .i64 v)) B T (xs.set k v) :=
  ⟨by rw [heap_setCell_same w B k _ T _ h.1, cellsB_set], by rw [List.length_set, h.2]⟩
theorem BB.other (h : BB w B T xs) {B' k : Nat} (v : Value) (hne : B ≠ B') : BB (w.setCell ⟨B', k, none⟩ v) B T xs := ⟨by rw [heap_setCell_other w _ B v hne]; exact h.1, h.2⟩
theorem BB.alloc (h : BB w B T xs) (o : Obj) : BB (w.alloc o) B T xs := ⟨by rw [Below.heap_alloc w o B h.lt]; exact h.1, h.2⟩
theorem BB.drew (h : BB w B T xs) : BB w.drew B T xs := h
theorem BB.drewN (h : BB w B T xs) (q : Nat) : BB (w.drewN q) B T xs := by
  induction q with
  | zero => exact h
  | succ q ih => exact ih
end
theorem index_0 (a b c d e f : Int) (w : World) : (Instr.index 24 (.agg #[.int .i64 a, .int .i64 b, .int .i64 c, .int .i64 d, .int .i64 e, .int .i64 f]) (.int .i64 0)).run Try.prog w = .ok (.int .i64 a) w := by kernel_rfl
theorem index_1 (a b c d e f : Int) (w : World) : (Instr.index 24 (.agg #[.int .i64 a, .int .i64 b, .int .i64 c, .int .i64 d, .int .i64 e, .int .i64 f]) (.int .i64 1)).run Try.prog w = .ok (.int .i64 b) w := by kernel_rfl
theorem index_2 (a b c d e f : Int) (w : World) : (Instr.index 24 (.agg #[.int .i64 a, .int .i64 b, .int .i64 c, .int .i64 d, .int .i64 e, .int .i64 f]) (.int .i64 2)).run Try.prog w = .ok (.int .i64 c) w := by kernel_rfl
theorem index_3 (a b c d e f : Int) (w : World) : (Instr.index 24 (.agg #[.int .i64 a, .int .i64 b, .int .i64 c, .int .i64 d, .int .i64 e, .int .i64 f]) (.int .i64 3)).run Try.prog w = .ok (.int .i64 d) w := by kernel_rfl
theorem index_4 (a b c d e f : Int) (w : World) : (Instr.index 24 (.agg #[.int .i64 a, .int .i64 b, .int .i64 c, .int .i64 d, .int .i64 e, .int .i64 f]) (.int .i64 4)).run Try.prog w = .ok (.int .i64 e) w := by kernel_rfl
theorem index_5 (a b c d e f : Int) (w : World) : (Instr.index 24 (.agg #[.int .i64 a, .int .i64 b, .int .i64 c, .int .i64 d, .int .i64 e, .int .i64 f]) (.int .i64 5)).run Try.prog w = .ok (.int .i64 f) w := by kernel_rfl
/-- The k-th quantity of a bundle by value. -/
theorem index_lit (a b c d e f : Int) (k : Nat) (hk : k < 6) (w : World) :
    (Instr.index 24 (.agg #[.int .i64 a, .int .i64 b, .int .i64 c, .int .i64 d, .int .i64 e, .int .i64 f]) (.int .i64 k)).run Try.prog w = .ok (.int .i64 (MB.at_ [a, b, c, d, e, f] k)) w := by
  have h : k = 0 ∨ k = 1 ∨ k = 2 ∨ k = 3 ∨ k = 4 ∨ k = 5 := by omega
  clear hk
  rcases h with rfl | rfl | rfl | rfl | rfl | rfl
  · exact index_0 a b c d e f w
  · exact index_1 a b c d e f w
  · exact index_2 a b c d e f w
  · exact index_3 a b c d e f w
  · exact index_4 a b c d e f w
  · exact index_5 a b c d e f w
end Go.Proofs.Ytjjpfpgjpmedmaa
namespace Go.Proofs.Ytjjpfpgjpmedmaa
open Go.RowKit
/-- What Check answers. -/
def chk (b : List Int) : Int := if MB.okB b then 0 else 4
theorem bad_at (b : List Int) (k : Nat) (hk : k < b.length) (h : MB.at_ b k < 0 ∨ 4 < MB.at_ b k) : chk b = 4 := by
  unfold chk
  rw [if_neg]
  intro hb
  unfold MB.okB at hb
  rw [List.all_eq_true] at hb
  have := hb (MB.at_ b k) (by unfold MB.at_; rw [List.getD_eq_getElem?_getD, List.getElem?_eq_getElem hk]; exact List.getElem_mem hk)
  simp at this
  omega
theorem ok_all (b : List Int) (h : ∀ k, k < b.length → 0 ≤ MB.at_ b k ∧ MB.at_ b k ≤ 4) : chk b = 0 := by
  unfold chk
  rw [if_pos]
  unfold MB.okB
  rw [List.all_eq_true]
  intro q hq
  obtain ⟨k, hk, rfl⟩ := List.getElem_of_mem hq
  have := h k hk
  unfold MB.at_ at this
  rw [List.getD_eq_getElem?_getD, List.getElem?_eq_getElem hk] at this
  simp at this
  simp [this]
theorem ret_int {k : IntKind} {a b : Int} (h : a = b) : Ending.returned (.int k a) = .returned (.int k b) := by rw [h]
set_option maxRecDepth 100000 in
set_option maxHeartbeats 1000000 in
theorem bcheck_any (a b c d e f : Int) (w : World) : Calls Try.prog 46 #[.agg #[.int .i64 a, .int .i64 b, .int .i64 c, .int .i64 d, .int .i64 e, .int .i64 f]] w (Gives (.int .i64 (chk [a, b, c, d, e, f])) w) := by
  obtain ⟨xs, hxs⟩ : ∃ xs, [a, b, c, d, e, f] = xs := ⟨_, rfl⟩
  have hl : xs.length = 6 := by rw [← hxs]; rfl
  have hi : ∀ (k : Nat), k < 6 → ∀ w : World, (Instr.index 24 (.agg #[.int .i64 a, .int .i64 b, .int .i64 c, .int .i64 d, .int .i64 e, .int .i64 f]) (.int .i64 k)).run Try.prog w = .ok (.int .i64 (MB.at_ xs k)) w :=
    fun k hk w => by rw [← hxs]; exact index_lit a b c d e f k hk w
  have HX := Lib.hid hxs
  have HI := Lib.hid hi
  have HL := Lib.hid hl
  clear hi hxs hl
  go_enter Try.func46, Try.ntmps46
  go_wp2
  go_loop [4, 6] (fun _ i => ∃ k : Nat, k ≤ 6 ∧ i = .int .i64 k ∧ ∀ j, j < k → 0 ≤ MB.at_ xs j ∧ MB.at_ xs j ≤ 4) (fun _ i => 6 - (intOf i).toNat)
  case atStart => exact ⟨0, Nat.zero_le _, rfl, fun j hj => absurd hj (Nat.not_lt_zero _)⟩
  case round =>
    obtain ⟨k, hk, rfl, hall⟩ := hrel
    have HA := Lib.hid hall
    clear hall
    by_cases hlt : k < 6
    · have i0 := HI.out k hlt
      by_cases hb : 0 ≤ MB.at_ xs k ∧ MB.at_ xs k ≤ 4
      · obtain ⟨h1, h2⟩ := hb
        go_wp2
        go_round
        case rel => exact ⟨k + 1, by omega, by go_num, fun j hj => by
          rcases Nat.lt_or_ge j k with g | g
          · exact HA.out j g
          · have : j = k := by omega
            subst this; exact ⟨h1, h2⟩⟩
        case measure => simp [intOf]; omega
      · have hb' := Lib.hid hb
        by_cases h1 : MB.at_ xs k < 0
        · clear hb
          go_wp2
          go_ret
          exact ⟨ret_int (by rw [HX.out]; exact (bad_at xs k (by rw [HL.out]; exact hlt) (.inl h1)).symm), below_new _ _⟩
        · have h2 : 4 < MB.at_ xs k := by omega
          clear hb
          go_wp2
          go_ret
          exact ⟨ret_int (by rw [HX.out]; exact (bad_at xs k (by rw [HL.out]; exact hlt) (.inr h2)).symm), below_new _ _⟩
    · go_wp2
      go_ret
      exact ⟨ret_int (by rw [HX.out]; exact (ok_all xs fun j hj => HA.out j (by have := HL.out; omega)).symm), below_new _ _⟩
end Go.Proofs.Ytjjpfpgjpmedmaa
namespace Go.Proofs.Ytjjpfpgjpmedmaa
open Go.RowKit
/-- Whether all quantities lie from lo to hi. -/
def inR (lo hi : Int) (b : List Int) : Bool := b.all fun q => decide (lo ≤ q) && decide (q ≤ hi)
theorem out_at (lo hi : Int) (b : List Int) (k : Nat) (hk : k < b.length) (h : MB.at_ b k < lo ∨ hi < MB.at_ b k) : inR lo hi b = false := by
  rw [Bool.eq_false_iff]
  intro hb
  unfold inR at hb
  rw [List.all_eq_true] at hb
  have := hb (MB.at_ b k) (by unfold MB.at_; rw [List.getD_eq_getElem?_getD, List.getElem?_eq_getElem hk]; exact List.getElem_mem hk)
  simp at this
  omega
theorem in_all (lo hi : Int) (b : List Int) (h : ∀ k, k < b.length → lo ≤ MB.at_ b k ∧ MB.at_ b k ≤ hi) : inR lo hi b = true := by
  unfold inR
  rw [List.all_eq_true]
  intro q hq
  obtain ⟨k, hk, rfl⟩ := List.getElem_of_mem hq
  have := h k hk
  unfold MB.at_ at this
  rw [List.getD_eq_getElem?_getD, List.getElem?_eq_getElem hk] at this
  simp at this
  simp [this]
theorem ret_bool {a b : Bool} (h : a = b) : Ending.returned (.bool a) = .returned (.bool b) := by rw [h]
theorem within_all {a b : List Int} {n : Nat} (h : ∀ j, j < n → MB.at_ a j ≤ MB.at_ b j) : MB.withinB a b n = true := (MB.withinB_iff a b n).2 h
theorem within_not {a b : List Int} {n j : Nat} (hj : j < n) (h : MB.at_ b j < MB.at_ a j) : MB.withinB a b n = false := by
  rw [Bool.eq_false_iff]
  intro hb
  have := (MB.withinB_iff a b n).1 hb j hj
  omega
/-- Two boxes. -/
theorem two_boxes (w : World) (T T' : TypeId) (a b c d e f a' b' c' d' e' f' : Int) :
    BB ((w.alloc (.cells #[.int .i64 a, .int .i64 b, .int .i64 c, .int .i64 d, .int .i64 e, .int .i64 f] T)).alloc (.cells #[.int .i64 a', .int .i64 b', .int .i64 c', .int .i64 d', .int .i64 e', .int .i64 f'] T')) w.heap.size T [a, b, c, d, e, f] ∧
    BB ((w.alloc (.cells #[.int .i64 a, .int .i64 b, .int .i64 c, .int .i64 d, .int .i64 e, .int .i64 f] T)).alloc (.cells #[.int .i64 a', .int .i64 b', .int .i64 c', .int .i64 d', .int .i64 e', .int .i64 f'] T')) (w.heap.size + 1) T' [a', b', c', d', e', f'] :=
  ⟨(BB.new w T _ _ _ _ _ _).alloc _, by have := BB.new (w.alloc (.cells #[.int .i64 a, .int .i64 b, .int .i64 c, .int .i64 d, .int .i64 e, .int .i64 f] T)) T' a' b' c' d' e' f'; rwa [World.size_alloc] at this⟩
theorem below_two (w : World) (o o' : Obj) : Below w.heap.size w ((w.alloc o).alloc o') := ((Below.refl _ _).alloc (Nat.le_refl _) _).alloc (by simp) _
set_option maxRecDepth 100000 in
set_option maxHeartbeats 1000000 in
theorem rbcheck_any (a b c d e f : Int) (w : World) : Calls Try.prog 13 #[.agg #[.int .i64 a, .int .i64 b, .int .i64 c, .int .i64 d, .int .i64 e, .int .i64 f]] w (Gives (.int .i64 (chk [a, b, c, d, e, f])) w) := by
  obtain ⟨xs, hxs⟩ : ∃ xs, [a, b, c, d, e, f] = xs := ⟨_, rfl⟩
  have H1 := Lib.hid (BB.new w 24 a b c d e f)
  have HX := Lib.hid hxs
  rw [hxs] at H1
  clear hxs
  go_enter Try.func13, Try.ntmps13
  go_wp2
  go_loop [3] (fun i => ∃ k : Nat, k ≤ 6 ∧ i = .int .i64 k ∧ ∀ j, j < k → 0 ≤ MB.at_ xs j ∧ MB.at_ xs j ≤ 4) (fun i => 6 - (intOf i).toNat)
  case atStart => exact ⟨0, Nat.zero_le _, rfl, fun j hj => absurd hj (Nat.not_lt_zero _)⟩
  case round =>
    obtain ⟨k, hk, rfl, hall⟩ := hrel
    have HA := Lib.hid hall
    clear hall
    by_cases hlt : k < 6
    · have c1 := H1.out.cell hlt
      by_cases hb : 0 ≤ MB.at_ xs k ∧ MB.at_ xs k ≤ 4
      · obtain ⟨h1, h2⟩ := hb
        go_wp2
        go_round
        case rel => exact ⟨k + 1, by omega, by go_num, fun j hj => by
          rcases Nat.lt_or_ge j k with g | g
          · exact HA.out j g
          · have : j = k := by omega
            subst this; exact ⟨h1, h2⟩⟩
        case measure => simp [intOf]; omega
      · by_cases h1 : MB.at_ xs k < 0
        · clear hb
          go_wp2
          go_ret
          exact ⟨ret_int (by rw [HX.out]; exact (bad_at xs k (by rw [H1.out.2]; exact hlt) (.inl h1)).symm), below_new _ _⟩
        · have h2 : 4 < MB.at_ xs k := by omega
          clear hb
          go_wp2
          go_ret
          exact ⟨ret_int (by rw [HX.out]; exact (bad_at xs k (by rw [H1.out.2]; exact hlt) (.inr h2)).symm), below_new _ _⟩
    · go_wp2
      go_ret
      exact ⟨ret_int (by rw [HX.out]; exact (ok_all xs fun j hj => HA.out j (by have := H1.out.2; omega)).symm), below_new _ _⟩
set_option maxRecDepth 100000 in
set_option maxHeartbeats 1000000 in
theorem within_any (a b c d e f a' b' c' d' e' f' : Int) (w : World) : Calls Try.prog 26 #[.agg #[.int .i64 a, .int .i64 b, .int .i64 c, .int .i64 d, .int .i64 e, .int .i64 f], .agg #[.int .i64 a', .int .i64 b', .int .i64 c', .int .i64 d', .int .i64 e', .int .i64 f']] w
    (Gives (.bool (MB.withinB [a, b, c, d, e, f] [a', b', c', d', e', f'] 6)) w) := by
  obtain ⟨H1, H2⟩ := two_boxes w 24 24 a b c d e f a' b' c' d' e' f'
  have HB := Lib.hid (below_two w (.cells #[.int .i64 a, .int .i64 b, .int .i64 c, .int .i64 d, .int .i64 e, .int .i64 f] 24) (.cells #[.int .i64 a', .int .i64 b', .int .i64 c', .int .i64 d', .int .i64 e', .int .i64 f'] 24))
  obtain ⟨xs, hxs⟩ : ∃ xs, [a, b, c, d, e, f] = xs := ⟨_, rfl⟩
  obtain ⟨ys, hys⟩ : ∃ ys, [a', b', c', d', e', f'] = ys := ⟨_, rfl⟩
  have HX := Lib.hid hxs
  have HY := Lib.hid hys
  rw [hxs] at H1
  rw [hys] at H2
  clear hxs hys
  have G1 := Lib.hid H1
  have G2 := Lib.hid H2
  clear H1 H2
  go_enter Try.func26, Try.ntmps26
  go_wp2
  obtain ⟨W, hW⟩ : ∃ W, W = (w.alloc (.cells #[.int .i64 a, .int .i64 b, .int .i64 c, .int .i64 d, .int .i64 e, .int .i64 f] 24)).alloc (.cells #[.int .i64 a', .int .i64 b', .int .i64 c', .int .i64 d', .int .i64 e', .int .i64 f'] 24) := ⟨_, rfl⟩
  rw [← hW] at G1 G2 HB ⊢
  clear hW
  go_loopw [5, 6] (fun _ i wr => ∃ k q : Nat, k ≤ 6 ∧ i = .int .i64 k ∧ wr = W.drewN q ∧ ∀ j, j < k → MB.at_ xs j ≤ MB.at_ ys j) (fun _ i _ => 6 - (intOf i).toNat)
  case atStart => exact ⟨0, 0, Nat.zero_le _, rfl, rfl, fun j hj => absurd hj (Nat.not_lt_zero _)⟩
  case round =>
    obtain ⟨k, q, hk, rfl, rfl, hall⟩ := hrel
    have HA := Lib.hid hall
    clear hall
    by_cases hlt : k < 6
    · have c1 := G1.out.cell hlt
      have c2 := G2.out.cell hlt
      by_cases h1 : MB.at_ xs k ≤ MB.at_ ys k
      · have h2 : decide (MB.at_ ys k < MB.at_ xs k) = false := by simpa using h1
        go_wp2
        go_quiet (fail)
        go_wp2
        go_roundw
        case rel => exact ⟨k + 1, _, by omega, by go_num, rfl, fun j hj => by
          rcases Nat.lt_or_ge j k with g | g
          · exact HA.out j g
          · have : j = k := by omega
            subst this; exact h1⟩
        case measure => simp [intOf]; omega
      · have h2 : decide (MB.at_ ys k < MB.at_ xs k) = true := by simpa using h1
        have h3 : MB.at_ ys k < MB.at_ xs k := by omega
        go_wp2
        go_quiet (fail)
        go_wp2
        go_ret
        exact ⟨ret_bool (by rw [HX.out, HY.out]; exact (within_not hlt h3).symm), below_drewN (below_drewN HB.out _) _⟩
    · go_wp2
      go_ret
      exact ⟨ret_bool (by rw [HX.out, HY.out]; exact (within_all fun j hj => HA.out j (by omega)).symm), below_drewN HB.out _⟩
set_option maxRecDepth 100000 in
set_option maxHeartbeats 1000000 in
theorem rwithin_any (a b c d e f a' b' c' d' e' f' : Int) (w : World) : Calls Try.prog 77 #[.agg #[.int .i64 a, .int .i64 b, .int .i64 c, .int .i64 d, .int .i64 e, .int .i64 f], .agg #[.int .i64 a', .int .i64 b', .int .i64 c', .int .i64 d', .int .i64 e', .int .i64 f']] w
    (Gives (.bool (MB.withinB [a, b, c, d, e, f] [a', b', c', d', e', f'] 6)) w) := by
  obtain ⟨H1, H2⟩ := two_boxes w 24 24 a b c d e f a' b' c' d' e' f'
  have HB := Lib.hid (below_two w (.cells #[.int .i64 a, .int .i64 b, .int .i64 c, .int .i64 d, .int .i64 e, .int .i64 f] 24) (.cells #[.int .i64 a', .int .i64 b', .int .i64 c', .int .i64 d', .int .i64 e', .int .i64 f'] 24))
  obtain ⟨xs, hxs⟩ : ∃ xs, [a, b, c, d, e, f] = xs := ⟨_, rfl⟩
  obtain ⟨ys, hys⟩ : ∃ ys, [a', b', c', d', e', f'] = ys := ⟨_, rfl⟩
  have HX := Lib.hid hxs
  have HY := Lib.hid hys
  rw [hxs] at H1
  rw [hys] at H2
  clear hxs hys
  have G1 := Lib.hid H1
  have G2 := Lib.hid H2
  clear H1 H2
  go_enter Try.func77, Try.ntmps77
  go_wp2
  obtain ⟨W, hW⟩ : ∃ W, W = (w.alloc (.cells #[.int .i64 a, .int .i64 b, .int .i64 c, .int .i64 d, .int .i64 e, .int .i64 f] 24)).alloc (.cells #[.int .i64 a', .int .i64 b', .int .i64 c', .int .i64 d', .int .i64 e', .int .i64 f'] 24) := ⟨_, rfl⟩
  rw [← hW] at G1 G2 HB ⊢
  clear hW
  go_loopw [5] (fun  i wr => ∃ k q : Nat, k ≤ 6 ∧ i = .int .i64 k ∧ wr = W.drewN q ∧ ∀ j, j < k → MB.at_ xs j ≤ MB.at_ ys j) (fun  i _ => 6 - (intOf i).toNat)
  case atStart => exact ⟨0, 0, Nat.zero_le _, rfl, rfl, fun j hj => absurd hj (Nat.not_lt_zero _)⟩
  case round =>
    obtain ⟨k, q, hk, rfl, rfl, hall⟩ := hrel
    have HA := Lib.hid hall
    clear hall
    by_cases hlt : k < 6
    · have c1 := G1.out.cell hlt
      have c2 := G2.out.cell hlt
      by_cases h1 : MB.at_ xs k ≤ MB.at_ ys k
      · have h2 : decide (MB.at_ ys k < MB.at_ xs k) = false := by simpa using h1
        go_wp2
        go_quiet (fail)
        go_wp2
        go_roundw
        case rel => exact ⟨k + 1, _, by omega, by go_num, rfl, fun j hj => by
          rcases Nat.lt_or_ge j k with g | g
          · exact HA.out j g
          · have : j = k := by omega
            subst this; exact h1⟩
        case measure => simp [intOf]; omega
      · have h2 : decide (MB.at_ ys k < MB.at_ xs k) = true := by simpa using h1
        have h3 : MB.at_ ys k < MB.at_ xs k := by omega
        go_wp2
        go_quiet (fail)
        go_wp2
        go_ret
        exact ⟨ret_bool (by rw [HX.out, HY.out]; exact (within_not hlt h3).symm), below_drewN (below_drewN HB.out _) _⟩
    · go_wp2
      go_ret
      exact ⟨ret_bool (by rw [HX.out, HY.out]; exact (within_all fun j hj => HA.out j (by omega)).symm), below_drewN HB.out _⟩
end Go.Proofs.Ytjjpfpgjpmedmaa
namespace Go.Proofs.Ytjjpfpgjpmedmaa
open Go.RowKit
def totB (b : List Int) : Nat → Int
  | 0 => 0
  | i + 1 => wrap64 (totB b i + MB.at_ b i)
def cstB (p b : List Int) : Nat → Int
  | 0 => 0
  | i + 1 => wrap64 (cstB p b i + wrap64 (MB.at_ p i * MB.at_ b i))
/-- What Count answers. -/
def cntB (s : List Int) : Int := if MB.okB s then (if MB.P s 6 ≤ 1024 then (MB.P s 6 : Int) else 0) else 0
theorem okB_at {b : List Int} (h : MB.okB b = true) {k : Nat} (hk : k < b.length) : 0 ≤ MB.at_ b k ∧ MB.at_ b k ≤ 4 := by
  unfold MB.okB at h
  rw [List.all_eq_true] at h
  have := h (MB.at_ b k) (by unfold MB.at_; rw [List.getD_eq_getElem?_getD, List.getElem?_eq_getElem hk]; exact List.getElem_mem hk)
  simp at this
  exact this
theorem P_next {s : List Int} (h : MB.okB s = true) (hl : s.length = 6) {k : Nat} (hk : k < 6) : ((MB.P s (k + 1) : Nat) : Int) = (MB.P s k : Int) * (MB.at_ s k + 1) := by
  have := okB_at h (by rw [hl]; exact hk)
  rw [MB.P]
  push_cast
  rw [Int.toNat_of_nonneg this.1]
theorem P_le {s : List Int} (h : MB.okB s = true) (hl : s.length = 6) : ∀ k, k ≤ 6 → MB.P s k ≤ 5 ^ k
  | 0, _ => Nat.le_refl _
  | k + 1, hk => by
    have h1 := P_le h hl k (by omega)
    have h2 := okB_at h (k := k) (by rw [hl]; omega)
    rw [MB.P, Nat.pow_succ]
    exact Nat.mul_le_mul h1 (by omega)
theorem P_small {s : List Int} (h : MB.okB s = true) (hl : s.length = 6) {k : Nat} (hk : k ≤ 6) : MB.P s k ≤ 15625 :=
  Nat.le_trans (P_le h hl k hk) (Nat.le_trans (Nat.pow_le_pow_right (by decide) hk) (by decide))
theorem mul_in {p p' : Nat} {y : Int} (h : (p' : Int) = p * (y + 1)) (hp : p' ≤ 15625) : Value.int .i64 (wrap64 (p * (y + 1))) = .int .i64 (p' : Int) := by
  rw [← h]
  have : wrap64 (p' : Int) = p' := by unfold wrap64; omega
  rw [this]
theorem chk_ok {b : List Int} (h : MB.okB b = true) : chk b = 0 := if_pos h
theorem chk_no {b : List Int} (h : MB.okB b = false) : chk b = 4 := if_neg (by rw [h]; exact fun k => by cases k)
set_option maxRecDepth 100000 in
set_option maxHeartbeats 1000000 in
theorem cost_any (a b c d e f a' b' c' d' e' f' : Int) (w : World) : Calls Try.prog 49 #[.agg #[.int .i64 a, .int .i64 b, .int .i64 c, .int .i64 d, .int .i64 e, .int .i64 f], .agg #[.int .i64 a', .int .i64 b', .int .i64 c', .int .i64 d', .int .i64 e', .int .i64 f']] w
    (Gives (.int .i64 (cstB [a, b, c, d, e, f] [a', b', c', d', e', f'] 6)) w) := by
  obtain ⟨H1, H2⟩ := two_boxes w 39 24 a b c d e f a' b' c' d' e' f'
  have HB := Lib.hid (below_two w (.cells #[.int .i64 a, .int .i64 b, .int .i64 c, .int .i64 d, .int .i64 e, .int .i64 f] 39) (.cells #[.int .i64 a', .int .i64 b', .int .i64 c', .int .i64 d', .int .i64 e', .int .i64 f'] 24))
  obtain ⟨xs, hxs⟩ : ∃ xs, [a, b, c, d, e, f] = xs := ⟨_, rfl⟩
  obtain ⟨ys, hys⟩ : ∃ ys, [a', b', c', d', e', f'] = ys := ⟨_, rfl⟩
  have hi : ∀ (k : Nat), k < 6 → ∀ w : World, (Instr.index 24 (.agg #[.int .i64 a', .int .i64 b', .int .i64 c', .int .i64 d', .int .i64 e', .int .i64 f']) (.int .i64 k)).run Try.prog w = .ok (.int .i64 (MB.at_ ys k)) w :=
    fun k hk w => by rw [← hys]; exact index_lit a' b' c' d' e' f' k hk w
  have HI := Lib.hid hi
  have HX := Lib.hid hxs
  have HY := Lib.hid hys
  rw [hxs] at H1
  rw [hys] at H2
  clear hxs hys hi
  have G1 := Lib.hid H1
  have G2 := Lib.hid H2
  clear H1 H2
  go_enter Try.func49, Try.ntmps49
  go_wp2
  obtain ⟨W, hW⟩ : ∃ W, W = (w.alloc (.cells #[.int .i64 a, .int .i64 b, .int .i64 c, .int .i64 d, .int .i64 e, .int .i64 f] 39)).alloc (.cells #[.int .i64 a', .int .i64 b', .int .i64 c', .int .i64 d', .int .i64 e', .int .i64 f'] 24) := ⟨_, rfl⟩
  rw [← hW] at G1 G2 HB ⊢
  clear hW
  go_loopw [5, 6, 7, 9] (fun t _ _ i wr => ∃ k q : Nat, k ≤ 6 ∧ i = .int .i64 k ∧ t = .int .i64 (cstB xs ys k) ∧ wr = W.drewN q) (fun _ _ _ i _ => 6 - (intOf i).toNat)
  case atStart => exact ⟨0, 0, Nat.zero_le _, rfl, rfl, rfl⟩
  case round =>
    obtain ⟨k, q, hk, rfl, rfl, rfl⟩ := hrel
    by_cases hlt : k < 6
    · have c1 := G1.out.cell hlt
      have c2 := HI.out k hlt
      go_wp2
      go_roundw
      case rel => exact ⟨k + 1, _, by omega, by go_num, rfl, rfl⟩
      case measure => simp [intOf]; omega
    · obtain rfl : k = 6 := by omega
      go_wp2
      go_ret
      exact ⟨ret_int (by rw [HX.out, HY.out]), below_drewN HB.out _⟩
set_option maxRecDepth 100000 in
set_option maxHeartbeats 1000000 in
theorem rcost_any (a b c d e f a' b' c' d' e' f' : Int) (w : World) : Calls Try.prog 51 #[.agg #[.int .i64 a, .int .i64 b, .int .i64 c, .int .i64 d, .int .i64 e, .int .i64 f], .agg #[.int .i64 a', .int .i64 b', .int .i64 c', .int .i64 d', .int .i64 e', .int .i64 f']] w
    (Gives (.int .i64 (cstB [a, b, c, d, e, f] [a', b', c', d', e', f'] 6)) w) := by
  obtain ⟨H1, H2⟩ := two_boxes w 39 24 a b c d e f a' b' c' d' e' f'
  have HB := Lib.hid (below_two w (.cells #[.int .i64 a, .int .i64 b, .int .i64 c, .int .i64 d, .int .i64 e, .int .i64 f] 39) (.cells #[.int .i64 a', .int .i64 b', .int .i64 c', .int .i64 d', .int .i64 e', .int .i64 f'] 24))
  obtain ⟨xs, hxs⟩ : ∃ xs, [a, b, c, d, e, f] = xs := ⟨_, rfl⟩
  obtain ⟨ys, hys⟩ : ∃ ys, [a', b', c', d', e', f'] = ys := ⟨_, rfl⟩
  have hi : ∀ (k : Nat), k < 6 → ∀ w : World, (Instr.index 24 (.agg #[.int .i64 a', .int .i64 b', .int .i64 c', .int .i64 d', .int .i64 e', .int .i64 f']) (.int .i64 k)).run Try.prog w = .ok (.int .i64 (MB.at_ ys k)) w :=
    fun k hk w => by rw [← hys]; exact index_lit a' b' c' d' e' f' k hk w
  have HI := Lib.hid hi
  have HX := Lib.hid hxs
  have HY := Lib.hid hys
  rw [hxs] at H1
  rw [hys] at H2
  clear hxs hys hi
  have G1 := Lib.hid H1
  have G2 := Lib.hid H2
  clear H1 H2
  go_enter Try.func51, Try.ntmps51
  go_wp2
  obtain ⟨W, hW⟩ : ∃ W, W = (w.alloc (.cells #[.int .i64 a, .int .i64 b, .int .i64 c, .int .i64 d, .int .i64 e, .int .i64 f] 39)).alloc (.cells #[.int .i64 a', .int .i64 b', .int .i64 c', .int .i64 d', .int .i64 e', .int .i64 f'] 24) := ⟨_, rfl⟩
  rw [← hW] at G1 G2 HB ⊢
  clear hW
  go_loopw [5, 6] (fun t i wr => ∃ k q : Nat, k ≤ 6 ∧ i = .int .i64 k ∧ t = .int .i64 (cstB xs ys k) ∧ wr = W.drewN q) (fun _ i _ => 6 - (intOf i).toNat)
  case atStart => exact ⟨0, 0, Nat.zero_le _, rfl, rfl, rfl⟩
  case round =>
    obtain ⟨k, q, hk, rfl, rfl, rfl⟩ := hrel
    by_cases hlt : k < 6
    · have c1 := G1.out.cell hlt
      have c2 := G2.out.cell hlt
      go_wp2
      go_quiet (fail)
      go_wp2
      go_roundw
      case rel => exact ⟨k + 1, _, by omega, by go_num, rfl, rfl⟩
      case measure => simp [intOf]; omega
    · obtain rfl : k = 6 := by omega
      go_wp2
      go_ret
      exact ⟨ret_int (by rw [HX.out, HY.out]), below_drewN HB.out _⟩
set_option maxRecDepth 100000 in
set_option maxHeartbeats 1000000 in
theorem base_any (a b c d e f : Int) (k : Nat) (hk : k < 6) (h0 : 0 ≤ MB.at_ [a, b, c, d, e, f] k) (h4 : MB.at_ [a, b, c, d, e, f] k ≤ 4) (w : World) :
    Calls Try.prog 97 #[.agg #[.int .i64 a, .int .i64 b, .int .i64 c, .int .i64 d, .int .i64 e, .int .i64 f], .int .i64 k] w (Gives (.int .i64 (MB.at_ [a, b, c, d, e, f] k + 1)) w) := by
  have H1 := (BB.new w 24 a b c d e f).cell hk
  generalize MB.at_ [a, b, c, d, e, f] k = y at H1 h0 h4 ⊢
  go_enter Try.func97, Try.ntmps97
  go_wp2
  go_ret
  exact ⟨rfl, below_new _ _⟩
set_option maxRecDepth 100000 in
set_option maxHeartbeats 1000000 in
theorem rcount_any (a b c d e f : Int) (w : World) : Calls Try.prog 20 #[.agg #[.int .i64 a, .int .i64 b, .int .i64 c, .int .i64 d, .int .i64 e, .int .i64 f]] w (Gives (.int .i64 (cntB [a, b, c, d, e, f])) w) := by
  have HC := Lib.hid (rbcheck_any a b c d e f (w.alloc (.cells #[.int .i64 a, .int .i64 b, .int .i64 c, .int .i64 d, .int .i64 e, .int .i64 f] 24)))
  have H1 := Lib.hid (BB.new w 24 a b c d e f)
  have HN := Lib.hid (below_new w (.cells #[.int .i64 a, .int .i64 b, .int .i64 c, .int .i64 d, .int .i64 e, .int .i64 f] 24))
  by_cases hok : MB.okB [a, b, c, d, e, f] = true
  · rw [chk_ok hok] at HC
    have h04 : ∀ k, k < 6 → 0 ≤ MB.at_ [a, b, c, d, e, f] k ∧ MB.at_ [a, b, c, d, e, f] k ≤ 4 := fun k hk => okB_at hok hk
    have hpn : ∀ k, k < 6 → ((MB.P [a, b, c, d, e, f] (k + 1) : Nat) : Int) = (MB.P [a, b, c, d, e, f] k : Int) * (MB.at_ [a, b, c, d, e, f] k + 1) := fun k hk => P_next hok rfl hk
    have hps : ∀ k, k ≤ 6 → MB.P [a, b, c, d, e, f] k ≤ 15625 := fun k hk => P_small hok rfl hk
    have hcn : cntB [a, b, c, d, e, f] = if MB.P [a, b, c, d, e, f] 6 ≤ 1024 then (MB.P [a, b, c, d, e, f] 6 : Int) else 0 := if_pos hok
    have HBa := Lib.hid (fun k hk => base_any a b c d e f k hk (h04 k hk).1 (h04 k hk).2)
    obtain ⟨xs, hxs⟩ : ∃ xs, [a, b, c, d, e, f] = xs := ⟨_, rfl⟩
    rw [hxs] at H1 h04 hpn hps hcn HBa ⊢
    have HS := Lib.hid h04
    have HPN := Lib.hid hpn
    have HPS := Lib.hid hps
    have HCN := Lib.hid hcn
    have HXE := Lib.hid hxs
    clear hxs hok h04 hpn hps hcn
    go_enter Try.func20, Try.ntmps20
    go_wp2_with fail
    refine (HC.out).mono ?_
    rintro e1 w1 ⟨rfl, hb⟩
    have HW := Lib.hid (HN.out.trans (hb.mono (by simp)))
    have K1 := Lib.hid (H1.out.keep hb H1.out.lt)
    clear hb HC H1 HN
    go_wp2
    go_loopw [3, 4] (fun t i wr => ∃ k : Nat, k ≤ 6 ∧ i = .int .i64 k ∧ t = .int .i64 (MB.P xs k : Nat) ∧ BB wr w.heap.size 24 xs ∧ Below w.heap.size w wr) (fun _ i _ => 6 - (intOf i).toNat)
    case atStart => exact ⟨0, Nat.zero_le _, rfl, rfl, K1.out, HW.out⟩
    case round =>
      obtain ⟨k, hk, rfl, rfl, hbb, hbw⟩ := hrel
      have HB := Lib.hid hbb
      have HW' := Lib.hid hbw
      clear hbb hbw K1 HW
      by_cases hlt : k < 6
      · have hy := HS.out k hlt
        have hpn := HPN.out k hlt
        have hp1 := HPS.out k hk
        have hp2 := HPS.out (k + 1) hlt
        have HBk := Lib.hid (HBa.out k hlt)
        have c1 := HB.out.cell hlt
        generalize MB.at_ xs k = y at *
        obtain ⟨hy0, hy4⟩ := hy
        generalize hq : MB.P xs (k + 1) = p' at *
        generalize MB.P xs k = p at *
        have HQ := Lib.hid hq
        have HE := Lib.hid hpn
        clear hq hpn
        go_wp2
        go_roundw
        case rel => exact ⟨k + 1, by omega, by go_num, by rw [HQ.out]; exact mul_in HE.out hp2, HB.out, HW'.out⟩
        case measure => simp [intOf]; omega
      · obtain rfl : k = 6 := by omega
        have hcn := HCN.out
        clear HBa HS HPN HPS
        by_cases hle : MB.P xs 6 ≤ 1024
        · rw [if_pos hle] at hcn
          have HC1 := Lib.hid hcn
          clear hcn HCN
          generalize MB.P xs 6 = p at *
          go_wp2
          go_ret
          exact ⟨ret_int HC1.out.symm, HW'.out⟩
        · rw [if_neg hle] at hcn
          have HC1 := Lib.hid hcn
          clear hcn HCN
          generalize MB.P xs 6 = p at *
          go_wp2
          go_ret
          exact ⟨ret_int HC1.out.symm, HW'.out⟩
  · rw [chk_no (by simpa using hok)] at HC
    have hcn : cntB [a, b, c, d, e, f] = 0 := if_neg hok
    have HCN := Lib.hid hcn
    clear hcn hok
    go_enter Try.func20, Try.ntmps20
    go_wp2_with fail
    refine (HC.out).mono ?_
    rintro e1 w1 ⟨rfl, hb⟩
    have HW := Lib.hid (HN.out.trans (hb.mono (by simp)))
    clear hb HC H1 HN
    go_wp2
    go_ret
    exact ⟨ret_int HCN.out.symm, HW.out⟩
set_option maxRecDepth 100000 in
set_option maxHeartbeats 1000000 in
theorem count_any (a b c d e f : Int) (w : World) : Calls Try.prog 81 #[.agg #[.int .i64 a, .int .i64 b, .int .i64 c, .int .i64 d, .int .i64 e, .int .i64 f]] w (Gives (.int .i64 (cntB [a, b, c, d, e, f])) w) := by
  have HC := Lib.hid (bcheck_any a b c d e f (w.alloc (.cells #[.int .i64 a, .int .i64 b, .int .i64 c, .int .i64 d, .int .i64 e, .int .i64 f] 24)))
  have H1 := Lib.hid (BB.new w 24 a b c d e f)
  have HN := Lib.hid (below_new w (.cells #[.int .i64 a, .int .i64 b, .int .i64 c, .int .i64 d, .int .i64 e, .int .i64 f] 24))
  by_cases hok : MB.okB [a, b, c, d, e, f] = true
  · rw [chk_ok hok] at HC
    have h04 : ∀ k, k < 6 → 0 ≤ MB.at_ [a, b, c, d, e, f] k ∧ MB.at_ [a, b, c, d, e, f] k ≤ 4 := fun k hk => okB_at hok hk
    have hpn : ∀ k, k < 6 → ((MB.P [a, b, c, d, e, f] (k + 1) : Nat) : Int) = (MB.P [a, b, c, d, e, f] k : Int) * (MB.at_ [a, b, c, d, e, f] k + 1) := fun k hk => P_next hok rfl hk
    have hps : ∀ k, k ≤ 6 → MB.P [a, b, c, d, e, f] k ≤ 15625 := fun k hk => P_small hok rfl hk
    have hcn : cntB [a, b, c, d, e, f] = if MB.P [a, b, c, d, e, f] 6 ≤ 1024 then (MB.P [a, b, c, d, e, f] 6 : Int) else 0 := if_pos hok
    have HBa := Lib.hid (fun k hk => base_any a b c d e f k hk (h04 k hk).1 (h04 k hk).2)
    obtain ⟨xs, hxs⟩ : ∃ xs, [a, b, c, d, e, f] = xs := ⟨_, rfl⟩
    rw [hxs] at H1 h04 hpn hps hcn HBa ⊢
    have HS := Lib.hid h04
    have HPN := Lib.hid hpn
    have HPS := Lib.hid hps
    have HCN := Lib.hid hcn
    have HXE := Lib.hid hxs
    clear hxs hok h04 hpn hps hcn
    go_enter Try.func81, Try.ntmps81
    go_wp2_with fail
    refine (HC.out).mono ?_
    rintro e1 w1 ⟨rfl, hb⟩
    have HW := Lib.hid (HN.out.trans (hb.mono (by simp)))
    have K1 := Lib.hid (H1.out.keep hb H1.out.lt)
    clear hb HC H1 HN
    go_wp2
    go_loopw [3, 4, 8] (fun t _ i wr => ∃ k : Nat, k ≤ 6 ∧ i = .int .i64 k ∧ t = .int .i64 (MB.P xs k : Nat) ∧ BB wr w.heap.size 24 xs ∧ Below w.heap.size w wr) (fun _ _ i _ => 6 - (intOf i).toNat)
    case atStart => exact ⟨0, Nat.zero_le _, rfl, rfl, K1.out, HW.out⟩
    case round =>
      obtain ⟨k, hk, rfl, rfl, hbb, hbw⟩ := hrel
      have HB := Lib.hid hbb
      have HW' := Lib.hid hbw
      clear hbb hbw K1 HW
      by_cases hlt : k < 6
      · have hy := HS.out k hlt
        have hpn := HPN.out k hlt
        have hp1 := HPS.out k hk
        have hp2 := HPS.out (k + 1) hlt
        have HBk := Lib.hid (HBa.out k hlt)
        have c1 := HB.out.cell hlt
        generalize MB.at_ xs k = y at *
        obtain ⟨hy0, hy4⟩ := hy
        generalize hq : MB.P xs (k + 1) = p' at *
        generalize MB.P xs k = p at *
        have HQ := Lib.hid hq
        have HE := Lib.hid hpn
        clear hq hpn
        obtain ⟨c2, c3, c4, c5, c6, c7⟩ : wr.cell? ⟨w.heap.size, 0, none⟩ = some (.int .i64 a) ∧ wr.cell? ⟨w.heap.size, 1, none⟩ = some (.int .i64 b) ∧ wr.cell? ⟨w.heap.size, 2, none⟩ = some (.int .i64 c) ∧ wr.cell? ⟨w.heap.size, 3, none⟩ = some (.int .i64 d) ∧ wr.cell? ⟨w.heap.size, 4, none⟩ = some (.int .i64 e) ∧ wr.cell? ⟨w.heap.size, 5, none⟩ = some (.int .i64 f) := by
          have h := HB.out
          rw [← HXE.out] at h
          exact ⟨h.cell (k := 0) (by decide), h.cell (k := 1) (by decide), h.cell (k := 2) (by decide), h.cell (k := 3) (by decide), h.cell (k := 4) (by decide), h.cell (k := 5) (by decide)⟩
        clear c1
        go_wp2_with fail
        refine (HBk.out _).mono ?_
        rintro e2 w2 ⟨rfl, hb⟩
        have HW2 := Lib.hid (HW'.out.trans (hb.mono HW'.out.size))
        have HB2 := Lib.hid (HB.out.keep hb HB.out.lt)
        clear hb HB HW' c2 c3 c4 c5 c6 c7
        go_wp2
        go_roundw
        case rel => exact ⟨k + 1, by omega, by go_num, by rw [HQ.out]; exact mul_in HE.out hp2, HB2.out, HW2.out⟩
        case measure => simp [intOf]; omega
      · obtain rfl : k = 6 := by omega
        have hcn := HCN.out
        clear HBa HS HPN HPS
        by_cases hle : MB.P xs 6 ≤ 1024
        · rw [if_pos hle] at hcn
          have HC1 := Lib.hid hcn
          clear hcn HCN
          generalize MB.P xs 6 = p at *
          go_wp2
          go_ret
          exact ⟨ret_int HC1.out.symm, HW'.out⟩
        · rw [if_neg hle] at hcn
          have HC1 := Lib.hid hcn
          clear hcn HCN
          generalize MB.P xs 6 = p at *
          go_wp2
          go_ret
          exact ⟨ret_int HC1.out.symm, HW'.out⟩
  · rw [chk_no (by simpa using hok)] at HC
    have hcn : cntB [a, b, c, d, e, f] = 0 := if_neg hok
    have HCN := Lib.hid hcn
    clear hcn hok
    go_enter Try.func81, Try.ntmps81
    go_wp2_with fail
    refine (HC.out).mono ?_
    rintro e1 w1 ⟨rfl, hb⟩
    have HW := Lib.hid (HN.out.trans (hb.mono (by simp)))
    clear hb HC H1 HN
    go_wp2
    go_ret
    exact ⟨ret_int HCN.out.symm, HW.out⟩
end Go.Proofs.Ytjjpfpgjpmedmaa
namespace Go.Proofs.Ytjjpfpgjpmedmaa
open Go.RowKit
theorem at_set_same {zs : List Int} {k : Nat} (v : Int) (h : k < zs.length) : MB.at_ (zs.set k v) k = v := by
  unfold MB.at_
  rw [List.getD_eq_getElem?_getD, List.getElem?_set_self h]; rfl
theorem at_set_other {zs : List Int} {k j : Nat} (v : Int) (h : j ≠ k) : MB.at_ (zs.set k v) j = MB.at_ zs j := by
  unfold MB.at_
  rw [List.getD_eq_getElem?_getD, List.getD_eq_getElem?_getD, List.getElem?_set_ne (fun e => h e.symm)]
theorem below_three (w : World) (o o' o'' : Obj) : Below w.heap.size w (((w.alloc o).alloc o').alloc o'') := (((Below.refl _ _).alloc (Nat.le_refl _) _).alloc (by simp) _).alloc (by simp; omega) _
/-- What has been done when k quantities are done. -/
structure Done (F : Nat → Int) (B : Nat) (wo : World) (xs ys : List Int) (wr : World) (k : Nat) (zs : List Int) : Prop where
  here : BB wr B 24 zs
  other : BB wr (B + 1) 24 ys
  res : BB wr (B + 2) 24 [0, 0, 0, 0, 0, 0]
  done : ∀ j, j < k → MB.at_ zs j = F j
  rest : ∀ j, k ≤ j → MB.at_ zs j = MB.at_ xs j
  below : Below wo.heap.size wo wr
  base : wo.heap.size ≤ B
theorem Done.step {F : Nat → Int} {B : Nat} {wo wr : World} {xs ys zs : List Int} {k : Nat} (h : Done F B wo xs ys wr k zs) (hk : k < 6) (v : Int) (hv : v = F k) :
    Done F B wo xs ys (wr.setCell ⟨B, k, none⟩ (.int .i64 v)) (k + 1) (zs.set k v) :=
  ⟨h.here.set k v, h.other.other _ (by omega), h.res.other _ (by omega),
   fun j hj => by
    by_cases e : j = k
    · rw [e, at_set_same _ (by rw [h.here.2]; exact hk), hv]
    · rw [at_set_other _ e]; exact h.done j (by omega),
   fun j hj => by rw [at_set_other _ (by omega)]; exact h.rest j (by omega),
   h.below.setCell (p := ⟨B, k, none⟩) h.base _, h.base⟩
theorem Done.skip {F : Nat → Int} {B : Nat} {wo wr : World} {xs ys zs : List Int} {k : Nat} (h : Done F B wo xs ys wr k zs) (hv : MB.at_ xs k = F k) :
    Done F B wo xs ys wr (k + 1) zs :=
  ⟨h.here, h.other, h.res, fun j hj => by
    by_cases e : j = k
    · rw [e, h.rest k (Nat.le_refl _), hv]
    · exact h.done j (by omega), fun j hj => h.rest j (by omega), h.below, h.base⟩
theorem Done.drewN {F : Nat → Int} {B : Nat} {wo wr : World} {xs ys zs : List Int} {k : Nat} (h : Done F B wo xs ys wr k zs) (q : Nat) : Done F B wo xs ys (wr.drewN q) k zs :=
  ⟨h.here.drewN q, h.other.drewN q, h.res.drewN q, h.done, h.rest, below_drewN h.below q, h.base⟩
theorem Done.drew {F : Nat → Int} {B : Nat} {wo wr : World} {xs ys zs : List Int} {k : Nat} (h : Done F B wo xs ys wr k zs) : Done F B wo xs ys wr.drew k zs := h.drewN 1
theorem three_start (F : Nat → Int) (w : World) (a b c d e f a' b' c' d' e' f' : Int) :
    Done F w.heap.size w [a, b, c, d, e, f] [a', b', c', d', e', f'] (((w.alloc (.cells #[.int .i64 a, .int .i64 b, .int .i64 c, .int .i64 d, .int .i64 e, .int .i64 f] 24)).alloc (.cells #[.int .i64 a', .int .i64 b', .int .i64 c', .int .i64 d', .int .i64 e', .int .i64 f'] 24)).alloc (.cells #[.int .i64 0, .int .i64 0, .int .i64 0, .int .i64 0, .int .i64 0, .int .i64 0] 24)) 0 [a, b, c, d, e, f] :=
  ⟨(two_boxes w _ _ a b c d e f a' b' c' d' e' f').1.alloc _, (two_boxes w _ _ a b c d e f a' b' c' d' e' f').2.alloc _,
   by have := BB.new ((w.alloc (.cells #[.int .i64 a, .int .i64 b, .int .i64 c, .int .i64 d, .int .i64 e, .int .i64 f] 24)).alloc (.cells #[.int .i64 a', .int .i64 b', .int .i64 c', .int .i64 d', .int .i64 e', .int .i64 f'] 24)) 24 0 0 0 0 0 0; simpa using this,
   fun j hj => absurd hj (Nat.not_lt_zero _), fun _ _ => rfl, below_three _ _ _ _, Nat.le_refl _⟩
theorem cells6 {w : World} {B : Nat} {T : TypeId} {a b c d e f : Int} (h : BB w B T [a, b, c, d, e, f]) : w.cell? ⟨B, 0, none⟩ = some (.int .i64 a) ∧ w.cell? ⟨B, 1, none⟩ = some (.int .i64 b) ∧ w.cell? ⟨B, 2, none⟩ = some (.int .i64 c) ∧ w.cell? ⟨B, 3, none⟩ = some (.int .i64 d) ∧ w.cell? ⟨B, 4, none⟩ = some (.int .i64 e) ∧ w.cell? ⟨B, 5, none⟩ = some (.int .i64 f) :=
  ⟨h.cell (k := 0) (by decide), h.cell (k := 1) (by decide), h.cell (k := 2) (by decide), h.cell (k := 3) (by decide), h.cell (k := 4) (by decide), h.cell (k := 5) (by decide)⟩
theorem free6 {w : World} {B : Nat} {T : TypeId} {xs : List Int} (h : BB w B T xs) : w.frozen? ⟨B, 0, none⟩ = false ∧ w.frozen? ⟨B, 1, none⟩ = false ∧ w.frozen? ⟨B, 2, none⟩ = false ∧ w.frozen? ⟨B, 3, none⟩ = false ∧ w.frozen? ⟨B, 4, none⟩ = false ∧ w.frozen? ⟨B, 5, none⟩ = false :=
  ⟨h.free 0, h.free 1, h.free 2, h.free 3, h.free 4, h.free 5⟩
theorem below_six {w wr : World} {n : Nat} (h : Below n w wr) (B : Nat) (hB : n ≤ B) (v0 v1 v2 v3 v4 v5 : Value) :
    Below n w ((((((wr.setCell ⟨B, 0, none⟩ v0).setCell ⟨B, 1, none⟩ v1).setCell ⟨B, 2, none⟩ v2).setCell ⟨B, 3, none⟩ v3).setCell ⟨B, 4, none⟩ v4).setCell ⟨B, 5, none⟩ v5) :=
  (((((h.setCell (p := ⟨B, 0, none⟩) hB _).setCell (p := ⟨B, 1, none⟩) hB _).setCell (p := ⟨B, 2, none⟩) hB _).setCell (p := ⟨B, 3, none⟩) hB _).setCell (p := ⟨B, 4, none⟩) hB _).setCell (p := ⟨B, 5, none⟩) hB _
end Go.Proofs.Ytjjpfpgjpmedmaa
