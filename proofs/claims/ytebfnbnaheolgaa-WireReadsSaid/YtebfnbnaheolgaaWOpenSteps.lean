/- A list of steps that came in: no claim of its own. -/
import Derived.Test.YtebfnbnaheolgaaWWalkReads
import Derived.Deep.Strs
import Derived.Lib.SmallJoins
import Derived.ChangeSlices
import Derived.WideShapes
namespace Go.Proofs.Ytebfnbnaheolgaa
open Go.ChangeShapes Go.WideShapes Go.ChangeAt Go.RowKit Go.Joins Go.Deep
set_option maxRecDepth 100000 in
theorem open_steps {H : Type} {enc : TypeId × Value → H} {W : World} {held : Bool} {f : Nat} {v : Value} {y : DataW H × List MemPlace} (h : DataW.trod enc Try.prog W 0 (fun _ => true) held f 45 [v] = some y) :
    ∃ (A : Option Addr) (len cap : Nat), v = .slice A len cap ∧ Steps W A len cap := by
  rcases DataW.trod_slice Try.underlying45 h with ⟨hcs, _⟩ | ⟨a, len, cap, elems, rest, n, _, hcs, _, _, hl, hm, hlen, hel, _, _⟩
  · simp at hcs
    exact ⟨none, 0, 0, hcs, ⟨Nat.le_refl _, Nat.zero_le _⟩, fun k hk => absurd hk (by omega)⟩
  · simp at hcs
    refine ⟨some a, len, cap, hcs, ⟨hl, hm⟩, fun k hk => ?_⟩
    have hE := hel k hk
    rw [show Try.prog.cellsOf 50 = 3 by kernel_rfl] at hE
    have hlk : k < elems.length := by omega
    rw [List.getElem?_eq_getElem hlk, Option.bind_eq_some_iff] at hE
    obtain ⟨cs, h1, h2⟩ := hE
    obtain ⟨_, h3, h4⟩ := World.cells?_some h1
    obtain ⟨y0, y1, y2, n', _, hl3, t0, t1, t2⟩ := trod_struct3 Try.underlying50 h2
    obtain ⟨c0, c1, c2, rfl⟩ : ∃ c0 c1 c2, cs = [c0, c1, c2] := by
      match cs, h3 with
      | [c0, c1, c2], _ => exact ⟨c0, c1, c2, rfl⟩
    have e0 := h4 0 (by omega)
    have e1 := h4 1 (by omega)
    have e2 := h4 2 (by omega)
    clear h1 h2 h3 h4 hel
    simp only [Addr.add_add, List.getElem?_cons_zero, List.getElem?_cons_succ] at e0 e1 e2
    have u0 : DataW.trod enc Try.prog W 0 (fun _ => true) held n' 5 [c0] = some y0 := t0
    have u1 : DataW.trod enc Try.prog W 0 (fun _ => true) held n' 2 [c1] = some y1 := t1
    have u2 : DataW.trod enc Try.prog W 0 (fun _ => true) held n' 3 [c2] = some y2 := t2
    obtain ⟨z0, hz0, _, hw0⟩ := DataW.trod_int Try.underlying5 u0
    obtain ⟨z1, hz1, _, hw1⟩ := DataW.trod_int Try.underlying2 u1
    obtain ⟨z2, hz2, _, hw2⟩ := DataW.trod_int Try.underlying3 u2
    simp at hz0 hz1 hz2
    subst hz0; subst hz1; subst hz2
    have b0 := bounds_u8 hw0
    have b1 := bounds_i64 hw1
    obtain ⟨kd, rfl⟩ := Int.eq_ofNat_of_zero_le b0.1
    exact ⟨a, kd, z1, z2, rfl, e0, e1, e2, by omega, b1.1, b1.2⟩
end Go.Proofs.Ytebfnbnaheolgaa
