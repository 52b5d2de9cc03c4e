/- Unrank: no claim of its own. -/
import Derived.Test.YtjjpfpgjpmedmaaBNext
namespace Go.Proofs.Ytjjpfpgjpmedmaa
open Go.RowKit
/-- Whether there is an n-th bundle within s; the bundle; the error. -/
def unrOk (s : List Int) (n : Int) : Bool := MB.okB s && decide (MB.P s 6 ≤ 1024) && decide (0 ≤ n) && decide (n < (MB.P s 6 : Int))
def unrB (s : List Int) (n : Int) : List Int := if unrOk s n then MB.D s 6 n.toNat else [0, 0, 0, 0, 0, 0]
def unrE (s : List Int) (n : Int) : Int := if unrOk s n then 0 else 4
theorem quo_in {m q : Nat} (h : m ≤ 15625) : wrap64 ((m : Int) / ((q : Int) + 1)) = ((m / (q + 1) : Nat) : Int) := by
  have e : (m : Int) / ((q : Int) + 1) = ((m / (q + 1) : Nat) : Int) := by push_cast; rfl
  rw [e]
  have := Nat.div_le_self m (q + 1)
  generalize m / (q + 1) = r at *
  unfold wrap64; omega
def UnrGives (s : List Int) (n : Int) (w : World) : Ending → World → Prop := Gives (.tuple #[aggB (unrB s n), .int .i64 (unrE s n)]) w
theorem UnrGives.no {s : List Int} {n : Int} {w w' : World} (h : unrOk s n = false) (hb : Below w.heap.size w w') : UnrGives s n w (.returned (.tuple #[.agg #[.int .i64 0, .int .i64 0, .int .i64 0, .int .i64 0, .int .i64 0, .int .i64 0], .int .i64 4])) w' := by
  unfold UnrGives unrB unrE
  rw [h]
  exact ⟨rfl, hb⟩
theorem UnrGives.yes {s : List Int} {n : Nat} {w w' : World} {z0 z1 z2 z3 z4 z5 : Int} (h : unrOk s n = true) (hz : [z0, z1, z2, z3, z4, z5] = MB.D s 6 n) (hb : Below w.heap.size w w') :
    UnrGives s n w (.returned (.tuple #[.agg #[.int .i64 z0, .int .i64 z1, .int .i64 z2, .int .i64 z3, .int .i64 z4, .int .i64 z5], .int .i64 0])) w' := by
  unfold UnrGives unrB unrE
  rw [h, if_pos rfl, if_pos rfl, Int.toNat_natCast, ← hz]
  exact ⟨rfl, hb⟩
theorem box_zero (w : World) (a b c d e f : Int) : BB ((w.alloc (.cells #[.int .i64 a, .int .i64 b, .int .i64 c, .int .i64 d, .int .i64 e, .int .i64 f] 24)).alloc (.cells #[.int .i64 0, .int .i64 0, .int .i64 0, .int .i64 0, .int .i64 0, .int .i64 0] 24)) w.heap.size 24 [a, b, c, d, e, f] ∧
    BB ((w.alloc (.cells #[.int .i64 a, .int .i64 b, .int .i64 c, .int .i64 d, .int .i64 e, .int .i64 f] 24)).alloc (.cells #[.int .i64 0, .int .i64 0, .int .i64 0, .int .i64 0, .int .i64 0, .int .i64 0] 24)) (w.heap.size + 1) 24 [0, 0, 0, 0, 0, 0] := two_boxes w _ _ a b c d e f 0 0 0 0 0 0
end Go.Proofs.Ytjjpfpgjpmedmaa
