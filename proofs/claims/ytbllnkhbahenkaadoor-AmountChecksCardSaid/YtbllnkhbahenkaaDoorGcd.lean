/- Contracts of natural.smallGCD and GCD: no claim of its own. -/
import Derived.Test.YtbllnkhbahenkaaDoorDivide
import Derived.Test.YtbllnkhbahenkaaDoorSub
import Derived.Test.YtbllnkhbahenkaaDoorRDivMod
import Derived.Deep.LoopGhost
namespace Go.Proofs.YtbllnkhbahenkaaDoor
open Go.RowKit
theorem gcd_turn (x y : Nat) : Nat.gcd y (x % y) = Nat.gcd x y := by
  rw [Nat.gcd_comm x y, Nat.gcd_rec y x, Nat.gcd_comm]
theorem GivesNum.low {w wr w' : World} {e : Ending} {a B : Nat} (h : GivesNum a wr e w') (hb : Below B w wr) (hB : B = w.heap.size) : GivesNum a w e w' := h.from_ hb hB
end Go.Proofs.YtbllnkhbahenkaaDoor
