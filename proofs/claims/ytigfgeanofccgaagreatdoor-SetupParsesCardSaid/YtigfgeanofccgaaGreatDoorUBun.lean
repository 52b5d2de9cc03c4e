/- Lists of bundles that came in: no claim of its own. -/
import Derived.Test.YtigfgeanofccgaaGreatDoorJUb
import Derived.Test.YtigfgeanofccgaaGreatDoorBOpen
namespace Go.Proofs.YtigfgeanofccgaaGreatDoor
open Go.RowKit
set_option maxRecDepth 100000 in
theorem opens_bun : Opens bunE Tryz.prog 40 := fun H enc W held n cs y h => by
  obtain ⟨xs, m, _, _, hcs, hl, hi⟩ := DataW.trod_array Tryz.underlying40 h
  have hsz : cs.length = 6 := by
    rw [cells_bundle] at hcs
    exact hcs
  obtain ⟨c0, c1, c2, c3, c4, c5, rfl⟩ := list6 cs hsz
  have one : ∀ (i : Nat) (c : Value), i < 6 → DataW.trod enc Tryz.prog W 0 (fun _ => true) held m 3 [c] = xs[i]? → ∃ x, c = .int .i64 x := by
    intro i c hi6 hc
    rw [List.getElem?_eq_getElem (by omega)] at hc
    obtain ⟨x, e0, _⟩ := DataW.trod_int Tryz.underlying3 hc
    exact ⟨x, by simpa using e0⟩
  have hce := cells_int
  obtain ⟨x0, rfl⟩ := one 0 c0 (by decide) (by have := hi 0 (by decide); rw [hce] at this; exact this)
  obtain ⟨x1, rfl⟩ := one 1 c1 (by decide) (by have := hi 1 (by decide); rw [hce] at this; exact this)
  obtain ⟨x2, rfl⟩ := one 2 c2 (by decide) (by have := hi 2 (by decide); rw [hce] at this; exact this)
  obtain ⟨x3, rfl⟩ := one 3 c3 (by decide) (by have := hi 3 (by decide); rw [hce] at this; exact this)
  obtain ⟨x4, rfl⟩ := one 4 c4 (by decide) (by have := hi 4 (by decide); rw [hce] at this; exact this)
  obtain ⟨x5, rfl⟩ := one 5 c5 (by decide) (by have := hi 5 (by decide); rw [hce] at this; exact this)
  exact ⟨[x0, x1, x2, x3, x4, x5], rfl, rfl⟩
theorem open_bun {H : Type} {enc : TypeId × Value → H} {W : World} {held : Bool} {f : Nat} {v : Value} {y : DataW H × List MemPlace} (h : DataW.trod enc Tryz.prog W 0 (fun _ => true) held f 45 [v] = some y) :
    ∃ (A : Option Addr) (len cap : Nat) (l : List (List Int)), v = .slice A len cap ∧ LstIn bunE W A len cap l :=
  open_lst Tryz.underlying45 (by kernel_rfl) opens_bun h
end Go.Proofs.YtigfgeanofccgaaGreatDoor
