/- The reference's Rank and Unrank: no claim of its own. -/
import Derived.Test.YtjjpfpgjpmedmaaBList
import Derived.Test.YtjjpfpgjpmedmaaBUnr
import Derived.Test.YtjjpfpgjpmedmaaBEq
namespace Go.Proofs.Ytjjpfpgjpmedmaa
open Go.RowKit
theorem list_yes' {s : List Int} (h : MB.okB s = true ∧ MB.P s 6 ≤ 1024) : listB s = MB.row s 6 (MB.P s 6) := by unfold listB; rw [if_pos h.1, if_pos h.2]
theorem list_no' {s : List Int} (h : ¬ (MB.okB s = true ∧ MB.P s 6 ≤ 1024)) : listB s = [] := by
  unfold listB
  split
  · next h1 => rw [if_neg (fun h2 => h ⟨h1, h2⟩)]
  · rfl
end Go.Proofs.Ytjjpfpgjpmedmaa
