/- The reference's Atoms: no claim of its own. -/
import Derived.Test.YtpemamkhaiiaaaaERef2
import Derived.Test.YtpemamkhaiiaaaaEPre
namespace Go.Proofs.Ytpemamkhaiiaaaa
open Go.RowKit
open ME (F Nd)
/-- The atoms among nodes in memory. -/
def pickA (l : List NT) : List NT := l.filter fun y => decide (y.o = 1)
theorem pickA_n : ∀ l : List NT, (pickA l).map NT.n = ME.atomsL (l.map NT.n)
  | [] => rfl
  | y :: r => by
    have ih := pickA_n r
    unfold pickA ME.atomsL at *
    rw [List.map_cons, List.filter_cons, List.filter_cons]
    by_cases h : y.o = 1
    · rw [if_pos (decide_eq_true h), if_pos (by first | exact decide_eq_true h | exact beq_iff_eq.2 h), List.map_cons, ih]
    · rw [if_neg (by simp [h]), if_neg (by intro q; exact h (of_decide_eq_true q)), ih]
theorem pickA_drop {L : List NT} {i : Nat} {x : NT} (h : L[i]? = some x) : pickA (L.drop i) = (if x.o = 1 then [x] else []) ++ pickA (L.drop (i + 1)) := by
  obtain ⟨hl, rfl⟩ := List.getElem?_eq_some_iff.1 h
  rw [List.drop_eq_getElem_cons hl]
  unfold pickA
  rw [List.filter_cons]
  split
  · rename_i q; rw [if_pos (of_decide_eq_true q)]; rfl
  · rename_i q; rw [if_neg (fun z => q (decide_eq_true z))]; rfl
theorem pickA_len (l : List NT) : (pickA l).length ≤ l.length := List.length_filter_le _ _
end Go.Proofs.Ytpemamkhaiiaaaa
