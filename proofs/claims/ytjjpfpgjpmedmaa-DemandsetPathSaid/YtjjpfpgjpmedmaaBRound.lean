/- A region that draws its order, in a round: one walk in the text's order serves. No claim of its own. -/
import Derived.Test.YtjjpfpgjpmedmaaJBA
import Derived.Deep.QuietTactic
import Derived.BigQuiet
namespace Go.Proofs.Ytjjpfpgjpmedmaa
open Go.RowKit
section
variable {P : Program} {ops : Array Oper} {md : Region.Mode} {C : World → Prop} {l n : Nat}
/-- No operation of the region is carried out otherwise in a round. -/
def Plain (ops : Array Oper) : Prop := ∀ (i : Nat) (o : Oper), ops[i]? = some o → ∀ l ρ, o.semAt (some l) ρ = execOp ρ o
def noDefer (ops : Array Oper) : Bool := ops.all fun o => match o.op with | .defer _ => false | _ => true
theorem plain_of {ops : Array Oper} (h : noDefer ops = true) : Plain ops := fun i o ho l ρ => Oper.semAt_eq (some l) ρ o fun c hc => by
  unfold noDefer at h
  rw [Array.all_eq_true] at h
  obtain ⟨hlt, he⟩ := Array.getElem?_eq_some_iff.1 ho
  have := h i hlt
  rw [he, hc] at this
  cases this
end
/-- The law of the statement where the loop has one variable, in a box of its own. -/
theorem range_one (p q : Nat) {g : Operand} {ps : Array Tmp} {assign body : Code} {Q : Exit → Act → World → Prop} {a : Act} {w : World} {gf : Nat} {lb : Array Value} {encs : List Int → Array Value} {xs : List (List Int)} {Bn : Nat}
    (hg : a.eval g = .func (.func gf) #[] lb) (eg : ∀ args w, (callFunc gf args).run Try.prog w = .ok (.enter gf args) w) (hit : Iter gf lb encs xs Bn w) (hBn : Bn < w.heap.size) (hps : ∀ x, (encs x).size = ps.size)
    (I : Nat → List (List Int) → World → Prop) (Ix : Code → Nat → List (List Int) → World → Prop)
    (hI : ∀ e pre X Y, w.heap.size + 2 ≤ e → e ≤ X.heap.size → I e pre X → Stp w.heap.size e X Y → I e pre Y)
    (hIx : ∀ c e pre X Y, w.heap.size + 2 ≤ e → e ≤ X.heap.size → Ix c e pre X → Stp w.heap.size e X Y → Ix c e pre Y)
    (h0 : ∀ e X, w.heap.size + 2 ≤ e → e ≤ X.heap.size → Below w.heap.size w X → I e [] X)
    (hassign : ∀ l e pre x X, w.heap.size + 2 ≤ e → e ≤ X.heap.size → I e pre X → (pre ++ [x]) <+: xs →
      assign.wpIn (Fence.wide.inRound l) 5 Try.prog (Exit.then (fun a' X' => Kpt Bn w.heap.size e X X' ∧ I e pre X' ∧ ∃ Bx, e ≤ Bx ∧ BB X' Bx 24 x ∧ a' = { tmps := (a.tmps.setIfInBounds p (aggB x)).setIfInBounds q (.pointer (some ⟨Bx, 0, none⟩)), defers := [] }) (fun _ _ _ => False)) { tmps := (ps.zip (encs x)).foldl (fun t (p, v) => t.setIfInBounds p v) a.tmps, defers := [] } X)
    (hbody : ∀ l e pre x Bx X, w.heap.size + 2 ≤ e → e ≤ X.heap.size → I e pre X → (pre ++ [x]) <+: xs → e ≤ Bx → BB X Bx 24 x →
      body.wpIn (Fence.wide.inRound l) 5 Try.prog (leftBy Bn w.heap.size e I Ix (pre ++ [x]) X) { tmps := (a.tmps.setIfInBounds p (aggB x)).setIfInBounds q (.pointer (some ⟨Bx, 0, none⟩)), defers := [] } X)
    (hdone : ∀ e Y, w.heap.size + 2 ≤ e → e ≤ Y.heap.size → I e xs Y → Y.heap[w.heap.size]? = some (.deferred (some [])) → Q .normal { a with defers := { target := .collected w.heap.size, args := #[] } :: a.defers } Y)
    (hstop : ∀ c e pre Y, w.heap.size + 2 ≤ e → e ≤ Y.heap.size → pre <+: xs → Ix c e pre Y → Y.heap[w.heap.size]? = some (.deferred (some [])) → c.wpIn Fence.wide 5 Try.prog Q { a with defers := { target := .collected w.heap.size, args := #[] } :: a.defers } Y) :
    (Code.rangeFunc g ps assign body).wpIn Fence.wide 5 Try.prog Q a w :=
  range_law hg eg hit hBn hps I Ix hI hIx h0
    (fun e x a' X => ∃ Bx, e ≤ Bx ∧ BB X Bx 24 x ∧ a' = { tmps := (a.tmps.setIfInBounds p (aggB x)).setIfInBounds q (.pointer (some ⟨Bx, 0, none⟩)), defers := [] })
    (fun _ _ _ _ _ _ h hs => by obtain ⟨Bx, h1, h2, h3⟩ := h; exact ⟨Bx, h1, ⟨(hs.heap h2.lt (.inr h1)).trans h2.1, h2.2⟩, h3⟩)
    hassign (fun l e pre x a' X he heX hi hpre ha => by obtain ⟨Bx, h1, h2, rfl⟩ := ha; exact hbody l e pre x Bx X he heX hi hpre h1 h2) hdone hstop
end Go.Proofs.Ytjjpfpgjpmedmaa
