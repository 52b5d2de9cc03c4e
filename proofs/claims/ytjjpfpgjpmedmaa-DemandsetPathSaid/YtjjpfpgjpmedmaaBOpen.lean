/- A bundle that came in. Plain theorems, no claim of their own. -/
import Derived.Test.YtjjpfpgjpmedmaaChecked
import Derived.WalkKit
import Derived.OpenShut
import Derived.ChangeSame
namespace Go.Proofs.Ytjjpfpgjpmedmaa
open Go.RowKit Go.ChangeShapes Go.WideShapes
theorem list6 {α : Type} (l : List α) (h : (⟨l⟩ : Array α).size = 6) : ∃ a b c d e f, l = [a, b, c, d, e, f] := by
  match l, h with
  | [a, b, c, d, e, f], _ => exact ⟨a, b, c, d, e, f, rfl⟩
set_option maxRecDepth 100000 in
/-- An array of six integers by value. -/
theorem open_six {H : Type} {enc : TypeId × Value → H} {w : World} {base : Nat} {spare : Nat → Bool} {held : Bool} {t e : TypeId} {v : Value} {d : DataW H} {p : List MemPlace} {r : Reach} {b0 : Nat}
    (ht : Try.prog.underlying t = some (.array 6 e)) (he : Try.prog.underlying e = some (.int .i64)) (hce : Try.prog.cellsOf e = 1) (hct : Try.prog.cellsOf t = 6)
    (hv : Value.okWide Try.prog w r b0 t v) (h : DataW.Trod enc Try.prog w base spare held t v d p) :
    ∃ x0 x1 x2 x3 x4 x5 : Int, v = .agg #[.int .i64 x0, .int .i64 x1, .int .i64 x2, .int .i64 x3, .int .i64 x4, .int .i64 x5] := by
  obtain ⟨cs, rfl, hsz⟩ : ∃ cs, v = .agg cs ∧ cs.size = Try.prog.cellsOf t := by
    simp only [Value.okWide, ht] at hv
    obtain ⟨cs, h1, h2, _⟩ := hv
    exact ⟨cs, h1, h2⟩
  rw [hct] at hsz
  obtain ⟨l⟩ := cs
  obtain ⟨c0, c1, c2, c3, c4, c5, rfl⟩ := list6 l hsz
  obtain ⟨fuel, hf⟩ := h
  obtain ⟨xs, m, _, _, _, hl, hi⟩ := DataW.trod_array ht hf
  have one : ∀ (i : Nat) (c : Value), i < 6 → DataW.trod enc Try.prog w base spare held m e [c] = xs[i]? → ∃ x, c = .int .i64 x := by
    intro i c hi6 hc
    rw [List.getElem?_eq_getElem (by omega)] at hc
    obtain ⟨x, e0, _⟩ := DataW.trod_int he hc
    exact ⟨x, by simpa using e0⟩
  obtain ⟨x0, rfl⟩ := one 0 c0 (by decide) (by have := hi 0 (by decide); rw [hce] at this; exact this)
  obtain ⟨x1, rfl⟩ := one 1 c1 (by decide) (by have := hi 1 (by decide); rw [hce] at this; exact this)
  obtain ⟨x2, rfl⟩ := one 2 c2 (by decide) (by have := hi 2 (by decide); rw [hce] at this; exact this)
  obtain ⟨x3, rfl⟩ := one 3 c3 (by decide) (by have := hi 3 (by decide); rw [hce] at this; exact this)
  obtain ⟨x4, rfl⟩ := one 4 c4 (by decide) (by have := hi 4 (by decide); rw [hce] at this; exact this)
  obtain ⟨x5, rfl⟩ := one 5 c5 (by decide) (by have := hi 5 (by decide); rw [hce] at this; exact this)
  exact ⟨x0, x1, x2, x3, x4, x5, rfl⟩
theorem cells_bundle : Try.prog.cellsOf 24 = 6 := by kernel_rfl
theorem cells_prices : Try.prog.cellsOf 39 = 6 := by kernel_rfl
theorem cells_int : Try.prog.cellsOf 3 = 1 := by kernel_rfl
theorem cells_int64 : Try.prog.cellsOf 2 = 1 := by kernel_rfl
end Go.Proofs.Ytjjpfpgjpmedmaa
