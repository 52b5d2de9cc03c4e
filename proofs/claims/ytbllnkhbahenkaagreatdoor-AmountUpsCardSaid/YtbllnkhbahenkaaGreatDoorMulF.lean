/- The contract of fraction.Mul: no claim of its own. -/
import Derived.Test.YtbllnkhbahenkaaGreatDoorAddF
namespace Go.Proofs.YtbllnkhbahenkaaGreatDoor
open Go.RowKit
theorem st3_keep {w : World} {g g' o : Nat} {v0 v1 v2 v : Value} (hne : g' ≠ g) (h : w.cell? ⟨g', o, none⟩ = some v) : (((w.setCell ⟨g, 0, none⟩ v0).setCell ⟨g, 1, none⟩ v1).setCell ⟨g, 2, none⟩ v2).cell? ⟨g', o, none⟩ = some v := by
  rw [World.cell?_setCell_other _ _ _ _ (fun x => hne (by injection x with x; exact x.symm)), World.cell?_setCell_other _ _ _ _ (fun x => hne (by injection x with x; exact x.symm)), World.cell?_setCell_other _ _ _ _ (fun x => hne (by injection x with x; exact x.symm)), h]
theorem Fr.zero_mul {a : Fr} (ha : Fr.Ok a) : Fr.mul Fr.zero a = Fr.zero := by
  refine (Fr.eq_ofInt Fr.zero_ok (Fr.pos_mul Fr.zero_ok ha) ?_).symm
  simp [Fr.zero, Fr.n, Fr.num]
end Go.Proofs.YtbllnkhbahenkaaGreatDoor
