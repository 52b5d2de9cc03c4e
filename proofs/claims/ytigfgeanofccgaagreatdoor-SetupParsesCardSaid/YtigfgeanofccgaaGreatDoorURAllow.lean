/- The reference's Allowed: no claim of its own. -/
import Derived.Test.YtigfgeanofccgaaGreatDoorJRk
import Derived.Test.YtigfgeanofccgaaGreatDoorCRSum
namespace Go.Proofs.YtigfgeanofccgaaGreatDoor
open Go.RowKit
open MU (Su Cp As)
/-- What lies while the rules are asked. -/
structure Alw (wo : World) (v1 v2 v3 v4 : Value) (b o c p : List Int) (Bo Bc Bs : Nat) (wr : World) : Prop where
  box : TB wr wo.heap.size 27 v1 v2 v3 v4
  bun : BB wr (wo.heap.size + 1) 40 b
  op : BB wr Bo 40 o
  cl : BB wr Bc 40 c
  sp : BB wr Bs 40 p
  below : Below wo.heap.size wo wr
section
variable {wo wr wr' : World} {v1 v2 v3 v4 : Value} {b o c p : List Int} {Bo Bc Bs : Nat}
theorem Alw.keep (h : Alw wo v1 v2 v3 v4 b o c p Bo Bc Bs wr) (hb : Below wr.heap.size wr wr') : Alw wo v1 v2 v3 v4 b o c p Bo Bc Bs wr' :=
  ⟨h.box.keep hb, h.bun.keep hb h.bun.lt, h.op.keep hb h.op.lt, h.cl.keep hb h.cl.lt, h.sp.keep hb h.sp.lt, h.below.trans (hb.mono h.below.size)⟩
end
theorem rule_yes1 {s : Su} {i k : Nat} {b : List Int} (h : MB.at_ (MC.supB s.ps) k < MB.at_ b k) : MU.ruleB s i b k = true := by
  unfold MU.ruleB; rw [decide_eq_true h]; rfl
theorem rule_yes2 {s : Su} {i k : Nat} {b : List Int} (h1 : MB.at_ (MU.classB s) k ≠ 0) (h2 : MB.at_ (MU.classB s) k ≠ MU.clsOf s i) (h3 : MB.at_ (MU.openB s) k < MB.at_ b k) : MU.ruleB s i b k = true := by
  unfold MU.ruleB; rw [decide_eq_true h1, decide_eq_true h2, decide_eq_true h3]; simp
theorem rule_no {s : Su} {i k : Nat} {b : List Int} (h : ¬ MB.at_ (MC.supB s.ps) k < MB.at_ b k) (h2 : ¬ (MB.at_ (MU.classB s) k ≠ 0 ∧ MB.at_ (MU.classB s) k ≠ MU.clsOf s i ∧ MB.at_ (MU.openB s) k < MB.at_ b k)) : MU.ruleB s i b k = false := by
  cases e : MU.ruleB s i b k with
  | false => rfl
  | true =>
    exfalso
    unfold MU.ruleB at e
    simp only [Bool.or_eq_true, Bool.and_eq_true, decide_eq_true_eq] at e
    rcases e with e | ⟨⟨e1, e2⟩, e3⟩
    · exact h e
    · exact h2 ⟨e1, e2, e3⟩
theorem no_step {P : Nat → Bool} {k : Nat} (h : ∀ j, j < k → P j = false) (hk : P k = false) : ∀ j, j < k + 1 → P j = false := fun j hj => by
  rcases Nat.lt_or_ge j k with g | g
  · exact h j g
  · obtain rfl : j = k := by omega
    exact hk
end Go.Proofs.YtigfgeanofccgaaGreatDoor
