/- The statement 'for i := range f' over integers, the variable in a slot: no claim of its own. -/
import Derived.Test.YtooeafpcbejpdaaRIter
import Derived.Test.YtooeafpcbejpdaaRClass
import Derived.RangeFuncBox
import Derived.Laws.EntriesVeiled
namespace Go.Proofs.Ytooeafpcbejpdaa
open Go.RowKit
attribute [local go_sem] Oper.semAt_some
theorem own_step {b e base n sz : Nat} {T : TypeId} {X Y : World} {v : Value} {xs : List Value} (h : X.ownsRow base T sz v n xs) (hs : Stp b e X Y) (he : e ≤ base) : Y.ownsRow base T sz v n xs := by
  obtain ⟨row, hg, hr⟩ := hs
  refine h.kept hg ?_
  cases hv : v.ownBlock with
  | none => exact .inl rfl
  | some g =>
    refine .inr fun hrow => ?_
    have h1 := (h.lt g hv).1
    have h2 := hr g hrow.symm
    omega
theorem OwnL.step {α : Type} {E : El α} {T : TypeId} {b e base : Nat} {X Y : World} {v : Value} {l : List α} (h : OwnL E T X base v l) (hs : Stp b e X Y) (he : e ≤ base) : OwnL E T Y base v l := ⟨own_step h.1 hs he, h.2⟩
/-- The law of the statement where the loop has one variable, in a slot. -/
theorem range_int (p q : Nat) {g : Operand} {ps : Array Tmp} {assign body : Code} {Q : Exit → Act → World → Prop} {a : Act} {w : World} {gf : Nat} {lb : Array Value} {xs : List Int} {Bn : Nat}
    (hg : a.eval g = .func (.func gf) #[] lb) (eg : ∀ args w, (callFunc gf args).run Try.prog w = .ok (.enter gf args) w) (hit : Iter gf lb encI xs Bn w) (hBn : Bn < w.heap.size) (hps : ∀ x, (encI x).size = ps.size)
    (I : Nat → List Int → World → Prop) (Ix : Code → Nat → List Int → World → Prop)
    (hI : ∀ e pre X Y, w.heap.size + 2 ≤ e → e ≤ X.heap.size → I e pre X → Stp w.heap.size e X Y → I e pre Y)
    (hIx : ∀ c e pre X Y, w.heap.size + 2 ≤ e → e ≤ X.heap.size → Ix c e pre X → Stp w.heap.size e X Y → Ix c e pre Y)
    (h0 : ∀ e X, w.heap.size + 2 ≤ e → e ≤ X.heap.size → Below w.heap.size w X → I e [] X)
    (hassign : ∀ l e pre x X, w.heap.size + 2 ≤ e → e ≤ X.heap.size → I e pre X → (pre ++ [x]) <+: xs →
      assign.wpIn (Fence.wide.inRound l) 5 Try.prog (Exit.then (fun a' X' => Kpt Bn w.heap.size e X X' ∧ I e pre X' ∧ a' = { tmps := (a.tmps.setIfInBounds p (.int .i64 x)).setIfInBounds q (.int .i64 x), defers := [] }) (fun _ _ _ => False)) { tmps := (ps.zip (encI x)).foldl (fun t (p, v) => t.setIfInBounds p v) a.tmps, defers := [] } X)
    (hbody : ∀ l e pre x X, w.heap.size + 2 ≤ e → e ≤ X.heap.size → I e pre X → (pre ++ [x]) <+: xs →
      body.wpIn (Fence.wide.inRound l) 5 Try.prog (leftBy Bn w.heap.size e I Ix (pre ++ [x]) X) { tmps := (a.tmps.setIfInBounds p (.int .i64 x)).setIfInBounds q (.int .i64 x), defers := [] } X)
    (hdone : ∀ e Y, w.heap.size + 2 ≤ e → e ≤ Y.heap.size → I e xs Y → Y.heap[w.heap.size]? = some (.deferred (some [])) → Q .normal { a with defers := { target := .collected w.heap.size, args := #[] } :: a.defers } Y)
    (hstop : ∀ c e pre Y, w.heap.size + 2 ≤ e → e ≤ Y.heap.size → pre <+: xs → Ix c e pre Y → Y.heap[w.heap.size]? = some (.deferred (some [])) → c.wpIn Fence.wide 5 Try.prog Q { a with defers := { target := .collected w.heap.size, args := #[] } :: a.defers } Y) :
    (Code.rangeFunc g ps assign body).wpIn Fence.wide 5 Try.prog Q a w :=
  range_law hg eg hit hBn hps I Ix hI hIx h0
    (fun _ x a' _ => a' = { tmps := (a.tmps.setIfInBounds p (.int .i64 x)).setIfInBounds q (.int .i64 x), defers := [] })
    (fun _ _ _ _ _ _ h _ => h)
    hassign (fun l e pre x a' X he heX hi hpre ha => by subst ha; exact hbody l e pre x X he heX hi hpre) hdone hstop
end Go.Proofs.Ytooeafpcbejpdaa
