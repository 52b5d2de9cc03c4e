/- The first token of a text, of the reference: no claim of its own. -/
import Derived.Test.YtcokplikmjegcaaDoorJF
namespace Go.Proofs.YtcokplikmjegcaaDoor
open Go.RowKit
/-- Where the beginning goes on, and where it ends. -/
theorem fits_on {B : Nat → Bool} (s : ByteArray) {k : Nat} (hk : k < s.size) (h : k ≤ (fits B s.data.toList).length) (hb : B (s[k]).toNat = true) : k + 1 ≤ (fits B s.data.toList).length := by
  rcases Nat.lt_or_ge k (fits B s.data.toList).length with g | g
  · exact g
  · obtain ⟨c, h1, h2⟩ := fits_end B s.data.toList (by rw [size_list]; omega)
    have e : (fits B s.data.toList).length = k := by omega
    rw [e, at_list s k hk] at h1
    injection h1 with h1
    rw [← h1, hb] at h2; cases h2
theorem fits_off {B : Nat → Bool} (s : ByteArray) {k : Nat} (hk : k < s.size) (h : k ≤ (fits B s.data.toList).length) (hb : B (s[k]).toNat = false) : (fits B s.data.toList).length = k :=
  fits_eq h fun _ => ⟨s[k], at_list s k hk, hb⟩
theorem fits_whole {B : Nat → Bool} (s : ByteArray) {k : Nat} (hk : s.size ≤ k) (h : k ≤ (fits B s.data.toList).length) : (fits B s.data.toList).length = k := by
  have := fits_le B s.data.toList
  rw [size_list] at this
  omega
theorem part_eq (n : Nat) : partN n = (letterN n || (digitN n || decide (n = 95))) := rfl
/-- The end of a word. -/
theorem word_end (s : ByteArray) (h0 : 0 < s.size) (hl : letterN (s[0]).toNat = true) (w : World) (o : Obj) {k : Nat} (hk : (fits partN s.data.toList).length = k) :
    (12 < k → GivesTk (oneT s.data.toList) w (.returned (.tuple #[.agg #[.int .i64 0, .string ⟨#[]⟩, .int .i64 0, .int .i64 0], .int .i64 3])) (w.alloc o)) ∧
    (¬ 12 < k → GivesTk (oneT s.data.toList) w (.returned (.tuple #[.agg #[.int .i64 1, .string (s.extract 0 k), .int .i64 0, .int .i64 0], .int .i64 0])) (w.alloc o)) := by
  rw [one_letter s h0 hl, hk]
  refine ⟨fun h => ?_, fun h => ?_⟩
  · rw [if_pos h]; exact ⟨rfl, below_new _ _⟩
  · rw [if_neg h, str_take, ← hk, fits_take]; exact ⟨rfl, below_new _ _⟩
/-- The end of a number. -/
theorem num_end (s : ByteArray) (h0 : 0 < s.size) (hl : letterN (s[0]).toNat = false) (hd : digitN (s[0]).toNat = true) (w : World) (o : Obj) {k : Nat} (hk : (fits digitN s.data.toList).length = k) :
    ((s[0]).toNat = 48 ∧ 1 < k → GivesTk (oneT s.data.toList) w (.returned (.tuple #[.agg #[.int .i64 0, .string ⟨#[]⟩, .int .i64 0, .int .i64 0], .int .i64 2])) (w.alloc o)) ∧
    (¬ ((s[0]).toNat = 48 ∧ 1 < k) → 9 < k → GivesTk (oneT s.data.toList) w (.returned (.tuple #[.agg #[.int .i64 0, .string ⟨#[]⟩, .int .i64 0, .int .i64 0], .int .i64 4])) (w.alloc o)) ∧
    (¬ ((s[0]).toNat = 48 ∧ 1 < k) → ¬ 9 < k → GivesTk (oneT s.data.toList) w (.returned (.tuple #[.agg #[.int .i64 2, .string (s.extract 0 k), .int .i64 (numV (s.data.toList.take k) : Nat), .int .i64 0], .int .i64 0])) (w.alloc o)) := by
  rw [list_head s h0, oneT_cons, if_neg (by rw [hl]; decide), if_pos hd, ← list_head s h0, hk]
  refine ⟨fun h => ?_, fun h h' => ?_, fun h h' => ?_⟩
  · rw [if_pos h]; exact ⟨rfl, below_new _ _⟩
  · rw [if_neg h, if_pos h']; exact ⟨rfl, below_new _ _⟩
  · rw [if_neg h, if_neg h', str_take, ← hk, fits_take]; exact ⟨rfl, below_new _ _⟩
end Go.Proofs.YtcokplikmjegcaaDoor
