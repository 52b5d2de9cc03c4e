/- The law's atom. No claim of its own. -/
import Derived.Test.YtjjpfpgjpmedmaaVTab
import Derived.Test.YtjjpfpgjpmedmaaJK
namespace Go.Proofs.Ytjjpfpgjpmedmaa
open Go.RowKit
theorem grown_setsV {w : World} {g : Nat} (vs : List Value) (o : Nat) : w.grownBy (sets w g o vs) (some g) := by
  obtain ⟨e1, e2, e3, e4⟩ := sets_same (g := g) vs w o
  exact ⟨e1, e2, e3, by rw [e4]; exact Nat.le_refl _, fun k _ hk => sets_far (fun e => hk (by rw [e])) vs w o⟩
end Go.Proofs.Ytjjpfpgjpmedmaa
