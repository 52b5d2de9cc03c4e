/- The reference's Check and Moderate, both Within: no claim of its own. -/
import Derived.Test.YtpemamkhaiiaaaaBCheck
namespace Go.Proofs.Ytpemamkhaiiaaaa
open Go.RowKit
/-- Whether all quantities lie from lo to hi. -/
def inR (lo hi : Int) (b : List Int) : Bool := b.all fun q => decide (lo ≤ q) && decide (q ≤ hi)
theorem out_at (lo hi : Int) (b : List Int) (k : Nat) (hk : k < b.length) (h : MB.at_ b k < lo ∨ hi < MB.at_ b k) : inR lo hi b = false := by
  rw [Bool.eq_false_iff]
  intro hb
  unfold inR at hb
  rw [List.all_eq_true] at hb
  have := hb (MB.at_ b k) (by unfold MB.at_; rw [List.getD_eq_getElem?_getD, List.getElem?_eq_getElem hk]; exact List.getElem_mem hk)
  simp at this
  omega
theorem in_all (lo hi : Int) (b : List Int) (h : ∀ k, k < b.length → lo ≤ MB.at_ b k ∧ MB.at_ b k ≤ hi) : inR lo hi b = true := by
  unfold inR
  rw [List.all_eq_true]
  intro q hq
  obtain ⟨k, hk, rfl⟩ := List.getElem_of_mem hq
  have := h k hk
  unfold MB.at_ at this
  rw [List.getD_eq_getElem?_getD, List.getElem?_eq_getElem hk] at this
  simp at this
  simp [this]
theorem ret_bool {a b : Bool} (h : a = b) : Ending.returned (.bool a) = .returned (.bool b) := by rw [h]
theorem within_all {a b : List Int} {n : Nat} (h : ∀ j, j < n → MB.at_ a j ≤ MB.at_ b j) : MB.withinB a b n = true := (MB.withinB_iff a b n).2 h
theorem within_not {a b : List Int} {n j : Nat} (hj : j < n) (h : MB.at_ b j < MB.at_ a j) : MB.withinB a b n = false := by
  rw [Bool.eq_false_iff]
  intro hb
  have := (MB.withinB_iff a b n).1 hb j hj
  omega
/-- Two boxes. -/
theorem two_boxes (w : World) (T T' : TypeId) (a b c d e f a' b' c' d' e' f' : Int) :
    BB ((w.alloc (.cells #[.int .i64 a, .int .i64 b, .int .i64 c, .int .i64 d, .int .i64 e, .int .i64 f] T)).alloc (.cells #[.int .i64 a', .int .i64 b', .int .i64 c', .int .i64 d', .int .i64 e', .int .i64 f'] T')) w.heap.size T [a, b, c, d, e, f] ∧
    BB ((w.alloc (.cells #[.int .i64 a, .int .i64 b, .int .i64 c, .int .i64 d, .int .i64 e, .int .i64 f] T)).alloc (.cells #[.int .i64 a', .int .i64 b', .int .i64 c', .int .i64 d', .int .i64 e', .int .i64 f'] T')) (w.heap.size + 1) T' [a', b', c', d', e', f'] :=
  ⟨(BB.new w T _ _ _ _ _ _).alloc _, by have := BB.new (w.alloc (.cells #[.int .i64 a, .int .i64 b, .int .i64 c, .int .i64 d, .int .i64 e, .int .i64 f] T)) T' a' b' c' d' e' f'; rwa [World.size_alloc] at this⟩
theorem below_two (w : World) (o o' : Obj) : Below w.heap.size w ((w.alloc o).alloc o') := ((Below.refl _ _).alloc (Nat.le_refl _) _).alloc (by simp) _
end Go.Proofs.Ytpemamkhaiiaaaa
