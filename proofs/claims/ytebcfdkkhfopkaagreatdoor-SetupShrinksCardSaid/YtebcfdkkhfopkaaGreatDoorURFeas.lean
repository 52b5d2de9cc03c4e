/- The reference's Feasible: no claim of its own. -/
import Derived.Test.YtebcfdkkhfopkaaGreatDoorURAllow
namespace Go.Proofs.YtebcfdkkhfopkaaGreatDoor
open Go.RowKit
open MU (Su Cp As)
/-- What lies while the sums are made. -/
structure Fsb (wo : World) (v1 v2 v3 v4 : Value) (o c : List Int) (Bo Bc : Nat) (wr : World) : Prop where
  box : TB wr wo.heap.size 27 v1 v2 v3 v4
  op : BB wr Bo 42 o
  cl : BB wr Bc 42 c
  below : Below wo.heap.size wo wr
theorem Fsb.keep {wo wr wr' : World} {v1 v2 v3 v4 : Value} {o c : List Int} {Bo Bc : Nat} (h : Fsb wo v1 v2 v3 v4 o c Bo Bc wr) (hb : Below wr.heap.size wr wr') : Fsb wo v1 v2 v3 v4 o c Bo Bc wr' :=
  ⟨h.box.keep hb, h.op.keep hb h.op.lt, h.cl.keep hb h.cl.lt, h.below.trans (hb.mono h.below.size)⟩
/-- The sums stay small: all bundles are right. -/
theorem tot_rng {l : List (List Int)} {k : Nat} (hk : k < 6) : ∀ n, (∀ i, i < n → MB.okB (l.getD i []) = true) → 0 ≤ MU.totK l k n ∧ MU.totK l k n ≤ 4 * (n : Int)
  | 0, _ => ⟨Int.le_refl _, by show (0 : Int) ≤ _; omega⟩
  | n + 1, h => by
    have ih := tot_rng hk n fun i hi => h i (by omega)
    have h1 := MC.okB_at (h n (by omega)) k
    rw [MU.totK]; push_cast; omega
theorem out_rng {s : Su} {l : List (List Int)} {k : Nat} (hk : k < 6) : ∀ n, (∀ i, i < n → MB.okB (l.getD i []) = true) → 0 ≤ MU.outK s l k n ∧ MU.outK s l k n ≤ 4 * (n : Int)
  | 0, _ => ⟨Int.le_refl _, by show (0 : Int) ≤ _; omega⟩
  | n + 1, h => by
    have ih := out_rng (s := s) hk n fun i hi => h i (by omega)
    have h1 := MC.okB_at (h n (by omega)) k
    rw [MU.outK]; push_cast
    split <;> omega
theorem add_wrap {x u : Int} (h1 : 0 ≤ x ∧ x ≤ 1000) (h2 : 0 ≤ u ∧ u ≤ 1000) : wrap64 (x + u) = x + u := by unfold wrap64; omega
end Go.Proofs.YtebcfdkkhfopkaaGreatDoor
