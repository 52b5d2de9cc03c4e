/- Monotone of the program. No claim of its own. -/
import Derived.Test.YtjjpfpgjpmedmaaVTable
import Derived.Test.YtjjpfpgjpmedmaaMathVE
namespace Go.Proofs.Ytjjpfpgjpmedmaa
open Go.RowKit
attribute [local go_sem] Oper.semAt_some
/-- What lies below N is as it was; the rank's variable. -/
structure Mo (N : Nat) (Wo : World) (Bk m : Nat) (X : World) : Prop where
  below : Below N Wo X
  box : Boxed X Bk 3 (.int .i64 m)
  ge : N ≤ Bk
theorem Mo.step {N : Nat} {Wo : World} {Bk m b e : Nat} {X Y : World} (h : Mo N Wo Bk m X) (hs : Stp b e X Y) (h1 : N ≤ b) (h2 : N ≤ X.heap.size) (h3 : Bk < b) : Mo N Wo Bk m Y :=
  ⟨h.below.trans (hs.isBelow h1 h2), (hs.heap h.box.lt (.inl h3)).trans h.box, h.ge⟩
theorem Mo.keep {N : Nat} {Wo : World} {Bk m : Nat} {X Y : World} (h : Mo N Wo Bk m X) (hb : Below X.heap.size X Y) (h2 : N ≤ X.heap.size) : Mo N Wo Bk m Y :=
  ⟨h.below.trans (hb.mono h2), (hb.block _ h.box.lt).trans h.box, h.ge⟩
end Go.Proofs.Ytjjpfpgjpmedmaa
