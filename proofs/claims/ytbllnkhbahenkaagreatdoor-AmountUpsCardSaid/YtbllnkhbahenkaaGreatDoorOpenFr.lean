/- A fraction that came in, as two slices and a sign: no claim of its own. -/
import Derived.Test.YtbllnkhbahenkaaGreatDoorIsRow
import Derived.Lib.SmallJoins
import Derived.ChangeSlices
import Derived.WideShapes
namespace Go.Proofs.YtbllnkhbahenkaaGreatDoor
open Go.ChangeShapes Go.WideShapes Go.ChangeAt Go.RowKit Go.Joins
theorem row_of {H : Type} {enc : TypeId × Value → H} {W : World} {held : Bool} {f : Nat} {v : Value} {y : DataW H × List MemPlace} (h : DataW.trod enc Tryz.prog W 0 (fun _ => true) held f 23 [v] = some y) :
    ∃ (a : Option Addr) (l c : Nat) (z : List Int), v = .slice a l c ∧ IsRow .u32 W a l c z := by
  rcases open_ints Tryz.underlying23 Tryz.underlying52 (by kernel_rfl) h with ⟨hcs, _⟩ | ⟨x, l, c, zs, hcs, _, hl, hm, hz, _, hcell, hwz⟩
  · simp at hcs
    exact ⟨none, 0, 0, [], hcs, .inl ⟨rfl, rfl, rfl, rfl⟩⟩
  · simp at hcs
    exact ⟨some x, l, c, zs, hcs, .inr ⟨_, rfl, hl, hm, by simpa using hz, hcell, hwz⟩⟩
set_option maxRecDepth 100000 in
theorem open_frac {H : Type} {enc : TypeId × Value → H} {W : World} {held : Bool} {r : Reach} {b0 : Nat} {v : Value} {d : DataW H} {p : List MemPlace}
    (hv : Value.okWide Tryz.prog W r b0 25 v) (h : DataW.Trod enc Tryz.prog W 0 (fun _ => true) held 25 v d p) :
    ∃ (s : Bool) (a : Option Addr) (l c : Nat) (z : List Int) (a' : Option Addr) (l' c' : Nat) (z' : List Int), v = .agg #[.bool s, .slice a l c, .slice a' l' c'] ∧ IsRow .u32 W a l c z ∧ IsRow .u32 W a' l' c' z' := by
  obtain ⟨v0, v1, v2, y0, y1, y2, n, rfl, rfl, rfl, t0, t1, t2⟩ := open_agg3 Tryz.underlying25 (by kernel_rfl) (by kernel_rfl) hv h
  obtain ⟨b, hb, _⟩ := DataW.trod_bool Tryz.underlying4 t0
  simp at hb
  obtain ⟨a, l, c, z, rfl, w0⟩ := row_of t1
  obtain ⟨a', l', c', z', rfl, w1⟩ := row_of t2
  exact ⟨b, a, l, c, z, a', l', c', z', by rw [hb], w0, w1⟩
end Go.Proofs.YtbllnkhbahenkaaGreatDoor
