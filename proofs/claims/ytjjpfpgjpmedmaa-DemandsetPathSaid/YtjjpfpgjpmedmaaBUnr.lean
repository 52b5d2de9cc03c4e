/- Unrank: no claim of its own. -/
import Derived.Test.YtjjpfpgjpmedmaaBNext
namespace Go.Proofs.Ytjjpfpgjpmedmaa
open Go.RowKit
/-- Whether there is an n-th bundle within s; the bundle; the error. -/
def unrOk (s : List Int) (n : Int) : Bool := MB.okB s && decide (MB.P s 6 ≤ 1024) && decide (0 ≤ n) && decide (n < (MB.P s 6 : Int))
def unrB (s : List Int) (n : Int) : List Int := if unrOk s n then MB.D s 6 n.toNat else [0, 0, 0, 0, 0, 0]
def unrE (s : List Int) (n : Int) : Int := if unrOk s n then 0 else 4
def UnrGives (s : List Int) (n : Int) (w : World) : Ending → World → Prop := Gives (.tuple #[aggB (unrB s n), .int .i64 (unrE s n)]) w
theorem UnrGives.no {s : List Int} {n : Int} {w w' : World} (h : unrOk s n = false) (hb : Below w.heap.size w w') : UnrGives s n w (.returned (.tuple #[.agg #[.int .i64 0, .int .i64 0, .int .i64 0, .int .i64 0, .int .i64 0, .int .i64 0], .int .i64 4])) w' := by
  unfold UnrGives unrB unrE
  rw [h]
  exact ⟨rfl, hb⟩
end Go.Proofs.Ytjjpfpgjpmedmaa
