/- Copy, Map: no claim of its own. -/
import Derived.Test.YtbnillkihmooeaaEApply
import Derived.Defers
import Derived.Recover
namespace Go.Proofs.Ytbnillkihmooeaa
open Go.RowKit
open ME (F Nd)
/-- A function value that keeps no state. -/
def NoI (_ : Unit) (D : Nat → Prop) (_ : World) : Prop := D = fun _ => False
/-- What a call hands back: an expression in new memory. -/
def GivesX (w : World) (z : Nd) (e : Ending) (w' : World) : Prop := ∃ y : NT, e = .returned y.val ∧ y.n = z ∧ y.Rk w' (fun k => w.heap.size ≤ k) ∧ y.Al ∧ Below w.heap.size w w'
theorem below_of_no {w w' : World} {D : Nat → Prop} (h : Kx D w w') (hD : ∀ k, ¬ D k) : Below w.heap.size w w' := ⟨h.os, h.tape, h.output, h.size, fun k hk => h.block k hk (hD k)⟩
end Go.Proofs.Ytbnillkihmooeaa
