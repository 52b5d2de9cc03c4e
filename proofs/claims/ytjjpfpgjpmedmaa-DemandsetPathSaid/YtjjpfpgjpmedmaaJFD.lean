/- FDel, FClean, joined: no claim of its own. -/
import Derived.Test.YtjjpfpgjpmedmaaJFA
import Derived.Test.YtjjpfpgjpmedmaaJFC
import Derived.Test.YtjjpfpgjpmedmaaJK
import Derived.Test.YtjjpfpgjpmedmaaJFM
namespace Go.Proofs.Ytjjpfpgjpmedmaa
open Go.RowKit
attribute [local go_sem] Oper.semAt_some
/-- What DeleteFunc leaves of the first j. -/
structure Dl (p : MF.Of → Bool) (l R : List MF.Of) (i j n : Nat) : Prop where
  len : R.length = n
  lt : i < j
  le : j ≤ n
  low : R.take i = (l.take j).filter fun e => !p e
  high : R.drop j = l.drop j
theorem Dl.no {p : MF.Of → Bool} {l R : List MF.Of} {i j n : Nat} (h : Dl p l R i j n) {x : MF.Of} (hx : l[j]? = some x) (hp : p x = true) (hl : l.length = n) : Dl p l R i (j + 1) n := by
  have hj := (List.getElem?_eq_some_iff.1 hx).1
  refine ⟨h.len, by have := h.lt; omega, by omega, ?_, ?_⟩
  · rw [List.take_succ_eq_append_getElem hj, List.filter_append, ← h.low]
    have : l[j] = x := (List.getElem?_eq_some_iff.1 hx).2
    rw [this]
    simp [hp]
  · have := congrArg (List.drop 1) h.high
    rwa [List.drop_drop, List.drop_drop] at this
theorem Dl.start {p : MF.Of → Bool} {l : List MF.Of} {k : Nat} {x : MF.Of} (h1 : l[k]? = some x) (h2 : p x = true) (h3 : ∀ j y, j < k → l[j]? = some y → p y = false) : Dl p l l k (k + 1) l.length := by
  have hk := (List.getElem?_eq_some_iff.1 h1).1
  refine ⟨rfl, by omega, by omega, ?_, rfl⟩
  rw [List.take_succ_eq_append_getElem hk, List.filter_append]
  have e1 : l[k] = x := (List.getElem?_eq_some_iff.1 h1).2
  have e2 : (l.take k).filter (fun e => !p e) = l.take k := by
    rw [List.filter_eq_self]
    intro y hy
    obtain ⟨j, hj, e⟩ := List.mem_iff_getElem.1 hy
    rw [List.length_take] at hj
    rw [h3 j y (by omega) (by rw [← e, List.getElem_take, List.getElem?_eq_getElem (by omega)])]; rfl
  rw [e1, e2]
  simp [h2]
theorem Dl.at_ {p : MF.Of → Bool} {l R : List MF.Of} {i j n : Nat} (h : Dl p l R i j n) {x : MF.Of} (hx : R[j]? = some x) : l[j]? = some x := by
  have := congrArg (fun q => q[0]?) h.high
  simpa [hx] using this.symm
theorem sets_grown {w : World} {g : Nat} (vs : List Value) (o : Nat) : w.grownBy (sets w g o vs) (some g) := by
  obtain ⟨e1, e2, e3, e4⟩ := sets_same (g := g) vs w o
  exact ⟨e1, e2, e3, by rw [e4]; exact Nat.le_refl _, fun k _ hk => sets_far (fun e => hk (by rw [e])) vs w o⟩
end Go.Proofs.Ytjjpfpgjpmedmaa
namespace Go.Proofs.Ytjjpfpgjpmedmaa
open Go.RowKit
attribute [local go_sem] Oper.semAt_some
end Go.Proofs.Ytjjpfpgjpmedmaa
