/- Lists of bundles that came in: no claim of its own. -/
import Derived.Test.YtjjpfpgjpmedmaaJDD
import Derived.Test.YtjjpfpgjpmedmaaBOpen
namespace Go.Proofs.Ytjjpfpgjpmedmaa
open Go.RowKit
set_option maxRecDepth 100000 in
theorem opens_pr : Opens prE Try.prog 39 := fun H enc W held n cs y h => by
  obtain ⟨xs, m, _, _, hcs, hl, hi⟩ := DataW.trod_array Try.underlying39 h
  have hsz : cs.length = 6 := by
    rw [cells_prices] at hcs
    exact hcs
  obtain ⟨c0, c1, c2, c3, c4, c5, rfl⟩ := list6 cs hsz
  have one : ∀ (i : Nat) (c : Value), i < 6 → DataW.trod enc Try.prog W 0 (fun _ => true) held m 2 [c] = xs[i]? → ∃ x, c = .int .i64 x := by
    intro i c hi6 hc
    rw [List.getElem?_eq_getElem (by omega)] at hc
    obtain ⟨x, e0, _⟩ := DataW.trod_int Try.underlying2 hc
    exact ⟨x, by simpa using e0⟩
  have hce := cells_int64
  obtain ⟨x0, rfl⟩ := one 0 c0 (by decide) (by have := hi 0 (by decide); rw [hce] at this; exact this)
  obtain ⟨x1, rfl⟩ := one 1 c1 (by decide) (by have := hi 1 (by decide); rw [hce] at this; exact this)
  obtain ⟨x2, rfl⟩ := one 2 c2 (by decide) (by have := hi 2 (by decide); rw [hce] at this; exact this)
  obtain ⟨x3, rfl⟩ := one 3 c3 (by decide) (by have := hi 3 (by decide); rw [hce] at this; exact this)
  obtain ⟨x4, rfl⟩ := one 4 c4 (by decide) (by have := hi 4 (by decide); rw [hce] at this; exact this)
  obtain ⟨x5, rfl⟩ := one 5 c5 (by decide) (by have := hi 5 (by decide); rw [hce] at this; exact this)
  exact ⟨[x0, x1, x2, x3, x4, x5], rfl, rfl⟩
theorem open_pr {H : Type} {enc : TypeId × Value → H} {W : World} {held : Bool} {f : Nat} {v : Value} {y : DataW H × List MemPlace} (h : DataW.trod enc Try.prog W 0 (fun _ => true) held f 53 [v] = some y) :
    ∃ (A : Option Addr) (len cap : Nat) (l : List (List Int)), v = .slice A len cap ∧ LstIn prE W A len cap l :=
  open_lst Try.underlying53 (by kernel_rfl) opens_pr h
end Go.Proofs.Ytjjpfpgjpmedmaa
