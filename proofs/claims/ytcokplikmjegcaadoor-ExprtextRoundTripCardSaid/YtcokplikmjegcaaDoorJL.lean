/- GIter, GRound, GCut, joined: no claim of its own. -/
import Derived.Test.YtcokplikmjegcaaDoorJA
import Derived.Laws.NewBlocks
import Derived.RangeFuncNested
import Derived.RangeFuncBound
import Derived.RangeFuncCalls
import Derived.RangeFuncLeaves
import Derived.Shelf.Abstract
import Derived.Shelf.RegionOpen
import Derived.OwnWalkIn
import Derived.TacticsInMore
import Derived.LoopNIn
import Derived.LoopIn
import Derived.Deep.QuietTactic
import Derived.BigQuiet
import Derived.StillTail
import Derived.Lib.QuietBelow
namespace Go.Proofs.YtcokplikmjegcaaDoor
open Go.RowKit
/-- A step of the iterator's own: new blocks; at most one block that lay is turned, and that is one of its own, from b to below e. -/
def Stp (b e : Nat) (X Y : World) : Prop := ∃ row, X.grownBy Y row ∧ ∀ r, row = some r → b ≤ r ∧ r < e
theorem Stp.alloc (b e : Nat) (X : World) (o : Obj) : Stp b e X (X.alloc o) := ⟨none, World.grownBy_alloc X o none, fun _ h => by cases h⟩
theorem Stp.putObj {b e l : Nat} (X : World) (o : Obj) (h1 : b ≤ l) (h2 : l < e) : Stp b e X (X.putObj l o) := ⟨some l, grownBy_putObj' X l o, fun r h => by cases h; exact ⟨h1, h2⟩⟩
theorem Stp.setCell {b e g : Nat} (X : World) (k : Nat) (v : Value) (h1 : b ≤ g) (h2 : g < e) : Stp b e X (X.setCell ⟨g, k, none⟩ v) :=
  ⟨some g, ⟨rfl, rfl, rfl, (KeepsWalks.setCell X _ v).size, fun j _ hj => Below.heap_setCell _ _ _ j (fun e => hj (by rw [e]))⟩, fun r h => by cases h; exact ⟨h1, h2⟩⟩
theorem Stp.below {b e : Nat} {X Y : World} (h : Below X.heap.size X Y) : Stp b e X Y := ⟨none, ⟨h.os, h.tape, h.output, h.size, fun k hk _ => h.block k hk⟩, fun _ h => by cases h⟩
theorem Stp.mono {b b' e e' : Nat} {X Y : World} (h : Stp b e X Y) (h1 : b' ≤ b) (h2 : e ≤ e') : Stp b' e' X Y := by
  obtain ⟨row, hg, hr⟩ := h
  exact ⟨row, hg, fun r hr' => by have := hr r hr'; omega⟩
theorem Stp.size {b e : Nat} {X Y : World} (h : Stp b e X Y) : X.heap.size ≤ Y.heap.size := by obtain ⟨row, hg, _⟩ := h; exact hg.size
theorem Stp.heap {b e k : Nat} {X Y : World} (h : Stp b e X Y) (hk : k < X.heap.size) (hne : k < b ∨ e ≤ k) : Y.heap[k]? = X.heap[k]? := by
  obtain ⟨row, hg, hr⟩ := h
  refine hg.block k hk (fun he => ?_)
  have := hr k he.symm
  omega
theorem Stp.isBelow {b e n : Nat} {X Y : World} (h : Stp b e X Y) (hn : n ≤ b) (hb : n ≤ X.heap.size) : Below n X Y := by
  obtain ⟨row, hg, hr⟩ := h
  exact (Below.refl n X).grown hg hb fun k hk => by have := hr k hk; omega
/-- What a round keeps for the iterator: block Bn, and the iterator's own, from b to below e. -/
structure Kpt (Bn b e : Nat) (X Y : World) : Prop where
  size : X.heap.size ≤ Y.heap.size
  one : Y.heap[Bn]? = X.heap[Bn]?
  own : ∀ k, b ≤ k → k < e → Y.heap[k]? = X.heap[k]?
theorem Kpt.refl (Bn b e : Nat) (X : World) : Kpt Bn b e X X := ⟨Nat.le_refl _, rfl, fun _ _ _ => rfl⟩
theorem Kpt.trans {Bn b e : Nat} {X Y Z : World} (h : Kpt Bn b e X Y) (k : Kpt Bn b e Y Z) : Kpt Bn b e X Z :=
  ⟨Nat.le_trans h.size k.size, k.one.trans h.one, fun j h1 h2 => (k.own j h1 h2).trans (h.own j h1 h2)⟩
theorem Kpt.alloc {Bn b e : Nat} (X : World) (o : Obj) (h1 : Bn < X.heap.size) (h2 : e ≤ X.heap.size) : Kpt Bn b e X (X.alloc o) :=
  ⟨by simp, Below.heap_alloc X o Bn h1, fun k _ hk => Below.heap_alloc X o k (by omega)⟩
theorem Kpt.below {Bn b e n : Nat} {X Y : World} (h : Below n X Y) (h1 : Bn < n) (h2 : e ≤ n) : Kpt Bn b e X Y :=
  ⟨h.size, h.block Bn h1, fun k _ hk => h.block k (by omega)⟩
theorem Kpt.setCell {Bn b e g : Nat} (X : World) (k : Nat) (v : Value) (h1 : Bn ≠ g) (h2 : g < b ∨ e ≤ g) : Kpt Bn b e X (X.setCell ⟨g, k, none⟩ v) :=
  ⟨(KeepsWalks.setCell X _ v).size, Below.heap_setCell _ _ _ Bn h1, fun j j1 j2 => Below.heap_setCell _ _ _ j (by show j ≠ g; omega)⟩
/-- The promise of an iterator that hands out xs, one after another, until a round says no more. -/
def Iter {α : Type} (gf : Nat) (lb : Array Value) (encs : α → Array Value) (xs : List α) (Bn : Nat) (w : World) : Prop :=
  ∀ (l : Nat) (W : World) (J Jx : Nat → List α → World → Prop), Below w.heap.size w W →
    (∀ e pre X Y, W.heap.size ≤ e → e ≤ X.heap.size → J e pre X → Stp W.heap.size e X Y → J e pre Y) →
    (∀ e pre X Y, W.heap.size ≤ e → e ≤ X.heap.size → Jx e pre X → Stp W.heap.size e X Y → Jx e pre Y) →
    (∀ e pre x X, W.heap.size ≤ e → e ≤ X.heap.size → J e pre X → (pre ++ [x]) <+: xs → YieldAt Fence.wide 5 Tryd.prog l (encs x) X fun v Y =>
      (v = .returned (.bool true) ∧ J e (pre ++ [x]) Y ∧ Kpt Bn W.heap.size e X Y) ∨ (v = .returned (.bool false) ∧ Jx e (pre ++ [x]) Y ∧ Kpt Bn W.heap.size e X Y)) →
    (∀ e X, W.heap.size ≤ e → e ≤ X.heap.size → Below W.heap.size W X → J e [] X) →
    CallsIn Fence.wide 5 Tryd.prog gf (#[.func (.yield l) #[] #[]] ++ lb) W fun v Y => (∃ u, v = .returned u) ∧ ∃ e, W.heap.size ≤ e ∧ e ≤ Y.heap.size ∧ (J e xs Y ∨ ∃ pre, pre <+: xs ∧ Jx e pre Y)
/-- How a round may be left. -/
def leftBy {α : Type} (Bn b e : Nat) (I : Nat → List α → World → Prop) (Ix : Code → Nat → List α → World → Prop) (pre : List α) (X : World) : Exit → Act → World → Prop
  | .normal, _, Y => Kpt Bn b e X Y ∧ I e pre Y
  | .ret, _, Y => Kpt Bn b e X Y ∧ Ix .ret e pre Y
  | .exit id, _, Y => Kpt Bn b e X Y ∧ Ix (.exit id) e pre Y
  | _, _, _ => False
theorem deep_any {m m' : Nat} {gf : Nat} {args : Array Value} {w : World} {R : Ending → World → Prop} (h : CallsIn Fence.wide m Tryd.prog gf args w R) : CallsIn Fence.wide m' Tryd.prog gf args w R := callsIn_wide.2 (callsIn_wide.1 h)
/-- The statement 'for .. := range g { .. }' over such an iterator, in no round. -/
theorem range_law {α : Type} {g : Operand} {ps : Array Tmp} {assign body : Code} {Q : Exit → Act → World → Prop} {a : Act} {w : World} {gf : Nat} {lb : Array Value} {encs : α → Array Value} {xs : List α} {Bn : Nat}
    (hg : a.eval g = .func (.func gf) #[] lb) (eg : ∀ args w, (callFunc gf args).run Tryd.prog w = .ok (.enter gf args) w) (hit : Iter gf lb encs xs Bn w) (hBn : Bn < w.heap.size) (hps : ∀ x, (encs x).size = ps.size)
    (I : Nat → List α → World → Prop) (Ix : Code → Nat → List α → World → Prop)
    (hI : ∀ e pre X Y, w.heap.size + 2 ≤ e → e ≤ X.heap.size → I e pre X → Stp w.heap.size e X Y → I e pre Y)
    (hIx : ∀ c e pre X Y, w.heap.size + 2 ≤ e → e ≤ X.heap.size → Ix c e pre X → Stp w.heap.size e X Y → Ix c e pre Y)
    (h0 : ∀ e X, w.heap.size + 2 ≤ e → e ≤ X.heap.size → Below w.heap.size w X → I e [] X)
    (Ax : Nat → α → Act → World → Prop) (hAx : ∀ e x a' X Y, e ≤ X.heap.size → Ax e x a' X → Stp w.heap.size e X Y → Ax e x a' Y)
    (hassign : ∀ l e pre x X, w.heap.size + 2 ≤ e → e ≤ X.heap.size → I e pre X → (pre ++ [x]) <+: xs →
      assign.wpIn (Fence.wide.inRound l) 5 Tryd.prog (Exit.then (fun a' X' => Kpt Bn w.heap.size e X X' ∧ I e pre X' ∧ Ax e x a' X') (fun _ _ _ => False)) { tmps := (ps.zip (encs x)).foldl (fun t (p, v) => t.setIfInBounds p v) a.tmps, defers := [] } X)
    (hbody : ∀ l e pre x a' X, w.heap.size + 2 ≤ e → e ≤ X.heap.size → I e pre X → (pre ++ [x]) <+: xs → Ax e x a' X →
      body.wpIn (Fence.wide.inRound l) 5 Tryd.prog (leftBy Bn w.heap.size e I Ix (pre ++ [x]) X) a' X)
    (hdone : ∀ e Y, w.heap.size + 2 ≤ e → e ≤ Y.heap.size → I e xs Y → Y.heap[w.heap.size]? = some (.deferred (some [])) → Q .normal { a with defers := { target := .collected w.heap.size, args := #[] } :: a.defers } Y)
    (hstop : ∀ c e pre Y, w.heap.size + 2 ≤ e → e ≤ Y.heap.size → pre <+: xs → Ix c e pre Y → Y.heap[w.heap.size]? = some (.deferred (some [])) → c.wpIn Fence.wide 5 Tryd.prog Q { a with defers := { target := .collected w.heap.size, args := #[] } :: a.defers } Y) :
    (Code.rangeFunc g ps assign body).wpIn Fence.wide 5 Tryd.prog Q a w := by
  refine wpIn_rangeFunc fun fn hfn => ?_
  obtain ⟨rec, hrec⟩ : ∃ rec : LoopState → Option Code → Loop, rec = fun st pe => { state := st, pending := pe, fn, tmps := a.tmps, params := ps, assign, body, defers := w.heap.size } := ⟨_, rfl⟩
  obtain ⟨W1, hW1⟩ : ∃ W1, (w.alloc (.deferred (some []))).alloc (.loop (rec .ready none)) = W1 := ⟨_, rfl⟩
  have hs1 : W1.heap.size = w.heap.size + 2 := by rw [← hW1]; simp
  have hL1 : W1.heap[w.heap.size + 1]? = some (.loop (rec .ready none)) := by
    rw [← hW1]; have := World.alloc_heap_new (w.alloc (.deferred (some []))) (.loop (rec .ready none)); rwa [World.size_alloc] at this
  have hD1 : W1.heap[w.heap.size]? = some (.deferred (some [])) := by
    rw [← hW1]; exact (Below.heap_alloc _ _ _ (by simp)).trans (World.alloc_heap_new w _)
  have hb1 : Below w.heap.size w W1 := by
    rw [← hW1]; exact ((Below.refl _ w).alloc (Nat.le_refl _) _).alloc (by simp) _
  refine ⟨w.heap.size + 1, [{ target := .collected w.heap.size, args := #[] }], W1, { target := .fn (.func gf) lb, args := #[.func (.yield (w.heap.size + 1)) #[] #[]] }, W1, gf,
    #[.func (.yield (w.heap.size + 1)) #[] #[]] ++ lb, W1, ?_, ?_, ?_, ?_, (fun _ => by decide), ?_⟩
  · rw [← hW1, hrec]; exact run_enterLoop_outer _ _ _ _ _
  · simp only [resolve, hg]
    simp [go_sem]
  · intro f' _; trivial
  · simp [invoke, go_sem, eg]
  · refine deep_any ((hit (w.heap.size + 1) W1
      (fun e pre X => I e pre X ∧ X.heap[w.heap.size + 1]? = some (.loop (rec .ready none)) ∧ X.heap[w.heap.size]? = some (.deferred (some [])))
      (fun e pre X => ∃ c, Ix c e pre X ∧ X.heap[w.heap.size + 1]? = some (.loop (rec .done (some c))) ∧ X.heap[w.heap.size]? = some (.deferred (some [])))
      hb1 ?_ ?_ ?_ ?_).mono ?_)
    · rintro e pre X Y he heX ⟨hi, hl, hd⟩ hs
      rw [hs1] at he hs
      have hl' := (Array.getElem?_eq_some_iff.1 hl).1
      exact ⟨hI e pre X Y he heX hi (hs.mono (by omega) (Nat.le_refl _)), (hs.heap hl' (.inl (by omega))).trans hl, (hs.heap (by omega) (.inl (by omega))).trans hd⟩
    · rintro e pre X Y he heX ⟨c, hi, hl, hd⟩ hs
      rw [hs1] at he hs
      have hl' := (Array.getElem?_eq_some_iff.1 hl).1
      exact ⟨c, hIx c e pre X Y he heX hi (hs.mono (by omega) (Nat.le_refl _)), (hs.heap hl' (.inl (by omega))).trans hl, (hs.heap (by omega) (.inl (by omega))).trans hd⟩
    · rintro e pre x X he heX ⟨hi, hl, hd⟩ hpre
      rw [hs1] at he ⊢
      have hy := run_yield (P := Tryd.prog) (args := encs x) hl (by rw [hrec]; exact hps x)
      rw [hrec] at hy
      refine ⟨fn, _, assign, body, hy, roundIn_of_wpIn hfn (wpIn_mono (hassign _ e pre x X he heX hi hpre) ?_)⟩
      intro ex a1 X1 hp
      cases ex with
      | normal =>
        obtain ⟨hk1, hi1, ha1⟩ := hp
        have hl1 := (hk1.own _ (by omega) (by omega)).trans hl
        have hd1 := (hk1.own _ (Nat.le_refl _) (by omega)).trans hd
        have he1 : e ≤ X1.heap.size := Nat.le_trans heX hk1.size
        refine ⟨_, run_beginRound hl1 (by rw [hrec]), ?_⟩
        have hst : Stp w.heap.size e X1 (X1.putObj (w.heap.size + 1) (.loop { rec .ready none with state := .busy })) := Stp.putObj _ _ (by omega) (by omega)
        have hl2 : (X1.putObj (w.heap.size + 1) (.loop { rec .ready none with state := .busy })).heap[w.heap.size + 1]? = some (.loop { rec .ready none with state := .busy }) := World.putObj_heap_same (by omega)
        have hoth : ∀ k, k ≠ w.heap.size + 1 → (X1.putObj (w.heap.size + 1) (.loop { rec .ready none with state := .busy })).heap[k]? = X1.heap[k]? := fun k hk => World.putObj_heap_other hk
        refine wpIn_mono (hbody _ e pre x a1 _ he (by simp; exact he1) (hI e pre _ _ he he1 hi1 hst) hpre (hAx e x a1 _ _ he1 ha1 hst)) ?_
        have fin : ∀ (jump : Option Code) (X3 : World), Kpt Bn w.heap.size e (X1.putObj (w.heap.size + 1) (.loop { rec .ready none with state := .busy })) X3 →
            (Instr.endRound (w.heap.size + 1) jump).run Tryd.prog X3 = .ok (.bool jump.isNone) (X3.putObj (w.heap.size + 1) (.loop (rec (if jump.isNone then .ready else .done) jump))) ∧
            (X3.putObj (w.heap.size + 1) (.loop (rec (if jump.isNone then .ready else .done) jump))).heap[w.heap.size + 1]? = some (.loop (rec (if jump.isNone then .ready else .done) jump)) ∧
            (X3.putObj (w.heap.size + 1) (.loop (rec (if jump.isNone then .ready else .done) jump))).heap[w.heap.size]? = some (.deferred (some [])) ∧ e ≤ X3.heap.size ∧ X.heap.size ≤ X3.heap.size := fun jump X3 hk3 => by
          have hl3 := (hk3.own _ (by omega) (by omega)).trans hl2
          have hd3 := ((hk3.own _ (Nat.le_refl _) (by omega)).trans (hoth _ (by omega))).trans hd1
          have h := run_endRound (P := Tryd.prog) jump hl3
          have hz := hk3.size
          have hz1 := hk1.size
          simp only [World.putObj_size] at hz
          rw [hrec] at h ⊢
          exact ⟨h, World.putObj_heap_same (by omega), (World.putObj_heap_other (by omega)).trans hd3, by omega, by omega⟩
        have kp : ∀ {X3 : World} {o : Obj}, Kpt Bn w.heap.size e (X1.putObj (w.heap.size + 1) (.loop { rec .ready none with state := .busy })) X3 → X.heap.size ≤ X3.heap.size → Kpt Bn (w.heap.size + 2) e X (X3.putObj (w.heap.size + 1) o) := fun hk3 hz5 => by
          refine ⟨by simp; omega, ?_, fun k h1 h2 => ?_⟩
          · rw [World.putObj_heap_other (by omega), hk3.one, hoth _ (by omega), hk1.one]
          · rw [World.putObj_heap_other (by omega), hk3.own k (by omega) h2, hoth _ (by omega), hk1.own k (by omega) h2]
        rintro ex3 a3 X3 hp3
        cases ex3 with
        | normal =>
          obtain ⟨hk3, hi3⟩ := hp3
          obtain ⟨hr, hl4, hd4, hz4, hz5⟩ := fin none X3 hk3
          exact ⟨_, _, hr, .inl ⟨rfl, ⟨hI e _ _ _ he hz4 hi3 (Stp.putObj _ _ (by omega) (by omega)), hl4, hd4⟩, kp hk3 hz5⟩⟩
        | ret =>
          obtain ⟨hk3, hi3⟩ := hp3
          obtain ⟨hr, hl4, hd4, hz4, hz5⟩ := fin (some .ret) X3 hk3
          exact ⟨_, _, hr, .inr ⟨rfl, ⟨.ret, hIx _ e _ _ _ he hz4 hi3 (Stp.putObj _ _ (by omega) (by omega)), hl4, hd4⟩, kp hk3 hz5⟩⟩
        | exit id =>
          obtain ⟨hk3, hi3⟩ := hp3
          obtain ⟨hr, hl4, hd4, hz4, hz5⟩ := fin (some (.exit id)) X3 hk3
          exact ⟨_, _, hr, .inr ⟨rfl, ⟨.exit id, hIx _ e _ _ _ he hz4 hi3 (Stp.putObj _ _ (by omega) (by omega)), hl4, hd4⟩, kp hk3 hz5⟩⟩
        | goto t => exact hp3.elim
        | panic ch => exact hp3.elim
        | outgrown => exact hp3.elim
      | exit id => exact hp.elim
      | goto t => exact hp.elim
      | ret => exact hp.elim
      | panic ch => exact hp.elim
      | outgrown => exact hp.elim
    · intro e X he heX hbX
      rw [hs1] at he hbX
      exact ⟨h0 e X he heX (hb1.trans (hbX.mono (by omega))), (hbX.block _ (by omega)).trans hL1, (hbX.block _ (by omega)).trans hD1⟩
    · rintro v X2 ⟨⟨u, rfl⟩, e, he, heX, (⟨hi, hl, hd⟩ | ⟨pre, hpre, c, hi, hl, hd⟩)⟩
      · rw [hs1] at he
        have hend := run_endLoop (P := Tryd.prog) hl (by rw [hrec]; simp)
        rw [hrec] at hend
        exact ⟨none, _, hend, hdone e _ he (by simp; exact heX) (hI e _ _ _ he heX hi (Stp.putObj _ _ (by omega) (by omega))) ((World.putObj_heap_other (by omega)).trans hd)⟩
      · rw [hs1] at he
        have hend := run_endLoop (P := Tryd.prog) hl (by rw [hrec]; simp)
        rw [hrec] at hend
        exact ⟨some c, _, hend, hstop c e pre _ he (by simp; exact heX) hpre (hIx c e _ _ _ he heX hi (Stp.putObj _ _ (by omega) (by omega))) ((World.putObj_heap_other (by omega)).trans hd)⟩
end Go.Proofs.YtcokplikmjegcaaDoor
namespace Go.Proofs.YtcokplikmjegcaaDoor
open Go.RowKit
section
variable {P : Program} {ops : Array Oper} {md : Region.Mode} {C : World → Prop} {l n : Nat}
/-- No operation of the region is carried out otherwise in a round. -/
def Plain (ops : Array Oper) : Prop := ∀ (i : Nat) (o : Oper), ops[i]? = some o → ∀ l ρ, o.semAt (some l) ρ = execOp ρ o
theorem op_round {o : Oper} {a : Act} {K : Act → Prop} {K' : Act → World → Prop} {Q' : Exit → Act → World → Prop} {w : World} (hp : ∀ l ρ, o.semAt (some l) ρ = execOp ρ o) (hw : C w) (h : ∀ a w', C w' → K a → K' a w') (hh : o.quiet P a C K) :
    o.wpIn (Fence.wide.inRound l) n P a w K' Q' := by
  obtain ⟨v, h1, h2⟩ := hh
  have h3 := h1 w hw
  unfold Oper.quietAt at h3
  refine ⟨fun _ _ => trivial, ?_⟩
  show o.uponIn (Fence.wide.inRound l) n P a K' Q' ((o.semAt (some l) a.eval).run P w)
  rw [hp]
  generalize (execOp a.eval o).run P w = r at *
  cases r with
  | halt x w' => simp only [Oper.quietUpon] at h3
  | ok x w' =>
    cases x <;> simp only [Oper.quietUpon] at h3 <;> simp only [Oper.uponIn]
    case value u =>
      obtain ⟨rfl, rfl⟩ := h3
      exact h _ _ hw h2
    case skip =>
      obtain ⟨rfl, rfl⟩ := h3
      exact h _ _ hw h2
    case enter f args =>
      obtain ⟨rfl, hc⟩ := h3
      refine ⟨(fun e => by cases e), (callsIn_wide.2 hc).mono fun e w'' he => ?_⟩
      obtain ⟨rfl, hw''⟩ := he
      exact h _ _ hw'' h2
theorem opIn_round {i : Nat} {a : Act} {K : Act → Prop} {K' : Act → World → Prop} {Q' : Exit → Act → World → Prop} {w : World} (hp : Plain ops) (hC : C w) (h : ∀ a w', C w' → K a → K' a w') (hh : qOp P ops C i K a) :
    wpOpIn (Fence.wide.inRound l) n P ops Q' i K' a w := by
  unfold qOp at hh
  unfold wpOpIn
  split
  · next ho => simp only [ho] at hh; exact h _ _ hC hh
  · next o ho =>
    simp only [ho] at hh
    split
    · next hw => simp only [hw, if_true] at hh; exact op_round (hp i o ho) hC h hh
    · next hw => simp only [hw] at hh; exact ⟨fun _ _ => trivial, h _ _ hC hh⟩
theorem anyIn_round {Q : Act → Prop} {Q' : Exit → Act → World → Prop} (hp : Plain ops) (hQ : ∀ a w, C w → Q a → Q' .normal a w) : ∀ (fuel : Nat) (listed : Array Bool) (a : Act) (w : World), C w →
    wpAnyQ P md ops C Q fuel listed a → wpAnyIn (Fence.wide.inRound l) n P md ops Q' fuel listed a w
  | 0, _, _, _, hw, h => ⟨h.1, hQ _ _ hw h.2⟩
  | fuel + 1, _, _, _, hw, h => ⟨fun h0 => hQ _ _ hw (h.1 h0), fun i hi => opIn_round hp hw (fun a' w' hw' => anyIn_round hp hQ fuel _ a' w' hw') (h.2 i hi)⟩
/-- One walk of the text's order serves every order, in a round. -/
theorem round_quiet {id : Nat} {Q : Exit → Act → World → Prop} {a : Act} {w : World} {os : List Oper} (hp : Plain os.toArray) (hm : P.follows .mixedOrders = true) (hB : Region.lexB .any os.toArray = true) (hC : C w.drew)
    (h : wpQuiet P os.toArray C (fun a' => ∀ w', C w' → Q .normal a' w') os a) : (Code.region id os.toArray true).wpIn (Fence.wide.inRound l) n P Q a w := by
  simp only [Region.lexB, Bool.and_eq_true] at hB
  refine wpIn_region_any hm (anyIn_round (C := C) (Q := fun a' => ∀ w', C w' → Q .normal a' w') hp (fun _ w' hw' h => h w' hw') _ _ _ _ hC ?_)
  have := wpAnyQ_lex (P := P) (C := C) (md := .any) hB.1 os 0 (Array.replicate os.length false) a (fun j => by simp) (by simpa using hB.2) h
  simpa using this
def noDefer (ops : Array Oper) : Bool := ops.all fun o => match o.op with | .defer _ => false | _ => true
theorem plain_of {ops : Array Oper} (h : noDefer ops = true) : Plain ops := fun i o ho l ρ => Oper.semAt_eq (some l) ρ o fun c hc => by
  unfold noDefer at h
  rw [Array.all_eq_true] at h
  obtain ⟨hlt, he⟩ := Array.getElem?_eq_some_iff.1 ho
  have := h i hlt
  rw [he, hc] at this
  cases this
end
section
variable {P : Program} {ops hops : Array Oper} {md : Region.Mode} {C : World → Prop} {l m : Nat}
/-- On every way through the first n, while one of them may come up, only such may; behind them one after another. -/
def treeB (md : Region.Mode) (ops hops : Array Oper) (n g : Nat) : Nat → List Bool → Bool
  | 0, r => Region.seqB md ops g n (r ++ List.replicate g false).toArray
  | f + 1, r => if (Region.ready md hops r.toArray).isEmpty then Region.seqB md ops g n (r ++ List.replicate g false).toArray
    else Region.ready md ops (r ++ List.replicate g false).toArray == Region.ready md hops r.toArray && (Region.ready md hops r.toArray).all fun i => treeB md ops hops n g f (r.set i true)
theorem seqIn {F : Fence} {Q' : Exit → Act → World → Prop} : ∀ (tl : List Oper) (k fuel : Nat) (listed : Array Bool) (a : Act) (w : World), (∀ j, tl[j]? = ops[k + j]?) →
    Region.seqB md ops tl.length k listed = true → tl.length ≤ fuel → wpListIn F m P ops Q' tl a w → wpAnyIn F m P md ops Q' fuel listed a w
  | [], k, fuel, listed, a, w, _, hB, _, h => by
    have h0 : Region.ready md ops listed = [] := by simpa [Region.seqB] using hB
    cases fuel with
    | zero => exact ⟨h0, h⟩
    | succ fuel => exact ⟨fun _ => h, fun i hi => by rw [h0] at hi; cases hi⟩
  | o :: tl, k, fuel, listed, a, w, hl, hB, hf, h => by
    obtain ⟨fuel, rfl⟩ : ∃ f, fuel = f + 1 := ⟨fuel - 1, by simp only [List.length_cons] at hf; omega⟩
    have h0 : ops[k]? = some o := by simpa using (hl 0).symm
    simp only [List.length_cons, Region.seqB, Bool.and_eq_true, decide_eq_true_eq] at hB hf
    refine ⟨fun h1 => (by rw [hB.1] at h1; cases h1), fun i hi => ?_⟩
    rw [hB.1] at hi
    obtain rfl : i = k := by simpa using hi
    have hw : wpOpIn F m P ops Q' i (wpListIn F m P ops Q' tl) a w := by unfold wpOpIn; simp only [h0]; exact h
    exact wpOpIn_mono (fun a' w' h' => seqIn tl (i + 1) fuel _ a' w' (fun j => by have := hl (j + 1); simpa [Nat.add_assoc, Nat.add_comm 1 j] using this) hB.2 (by omega) h') hw
theorem ready_lt {listed : Array Bool} {i : Nat} (h : i ∈ Region.ready md hops listed) : i < hops.size := by
  unfold Region.ready at h
  exact List.mem_range.1 (List.mem_filter.1 h).1
theorem headOp {i : Nat} {a : Act} {K : Act → Prop} {K' : Act → World → Prop} {Q' : Exit → Act → World → Prop} {w : World} (hp : Plain hops) (hg : ∀ o, hops[i]? = some o → o.guard = none) (hi : hops[i]? = ops[i]?)
    (hC : C w) (h : ∀ a w', C w' → K a → K' a w') (hh : qOp P hops C i K a) : wpOpIn (Fence.wide.inRound l) m P ops Q' i K' a w := by
  unfold qOp at hh
  unfold wpOpIn
  rw [← hi]
  split
  · next ho => simp only [ho] at hh; exact h _ _ hC hh
  · next o ho =>
    have hgo := hg o ho
    simp only [ho, Region.wanted, hgo, if_true] at hh ⊢
    exact op_round (hp i o ho) hC h hh
theorem headIn {n g : Nat} {tl : List Oper} {Q' : Exit → Act → World → Prop} (hp : Plain hops) (hg : ∀ (i : Nat) o, hops[i]? = some o → o.guard = none) (hn : hops.size = n) (hi : ∀ i, i < n → hops[i]? = ops[i]?)
    (htl : ∀ j, tl[j]? = ops[n + j]?) (hgl : tl.length = g) :
    ∀ (fuel : Nat) (r : List Bool) (a : Act) (w : World), treeB md ops hops n g fuel r = true → r.length = n → C w → wpAnyQ P md hops C (fun a' => ∀ w', C w' → wpListIn (Fence.wide.inRound l) m P ops Q' tl a' w') fuel r.toArray a →
      wpAnyIn (Fence.wide.inRound l) m P md ops Q' (fuel + g) (r ++ List.replicate g false).toArray a w := by
  intro fuel
  induction fuel with
  | zero =>
    intro r a w hb hr hC h
    exact seqIn tl n _ _ a w htl (by rw [hgl]; exact hb) (by omega) (h.2 w hC)
  | succ fuel ih =>
    intro r a w hb hr hC h
    by_cases h0 : Region.ready md hops r.toArray = []
    · rw [treeB, if_pos (by simpa using h0)] at hb
      exact seqIn tl n _ _ a w htl (by rw [hgl]; exact hb) (by omega) (h.1 h0 w hC)
    · rw [treeB, if_neg (by simpa using h0), Bool.and_eq_true] at hb
      obtain ⟨hb1, hb2⟩ := hb
      have he : Region.ready md ops (r ++ List.replicate g false).toArray = Region.ready md hops r.toArray := by simpa using hb1
      rw [show fuel + 1 + g = (fuel + g) + 1 by omega]
      refine ⟨fun h1 => absurd (he.symm.trans h1) h0, fun i hir => ?_⟩
      rw [he] at hir
      have hin : i < n := by have := ready_lt hir; omega
      refine headOp hp (hg i) (hi i hin) hC (fun a' w' hC' h' => ?_) (h.2 i hir)
      have := ih (r.set i true) a' w' (List.all_eq_true.1 hb2 i hir) (by rw [List.length_set]; exact hr) hC' (by simpa using h')
      rw [← List.set_append_left _ _ (by omega)] at this
      simpa using this
/-- One walk of the head in the text's order, one of the tail, serve every order, in a round. -/
theorem round_tail {id : Nat} {Q : Exit → Act → World → Prop} {a : Act} {w : World} (hd tl : List Oper) (hp : Plain hd.toArray) (hg : (hd.all fun o => o.guard.isNone) = true) (hm : P.follows .mixedOrders = true) (hB : Region.lexB .any hd.toArray = true)
    (hT : treeB .any (hd ++ tl).toArray hd.toArray hd.length tl.length hd.length (List.replicate hd.length false) = true) (hC : C w.drew)
    (h : wpQuiet P hd.toArray C (fun a' => ∀ w', C w' → wpListIn (Fence.wide.inRound l) m P (hd ++ tl).toArray Q tl a' w') hd a) : (Code.region id (hd ++ tl).toArray true).wpIn (Fence.wide.inRound l) m P Q a w := by
  simp only [Region.lexB, Bool.and_eq_true] at hB
  refine wpIn_region_any hm ?_
  have hq := wpAnyQ_lex (P := P) (C := C) (md := .any) hB.1 hd 0 (Array.replicate hd.length false) a (fun j => by simp) (by simpa using hB.2) h
  have hr : (Array.replicate hd.length false) = (List.replicate hd.length false).toArray := by simp
  rw [hr] at hq
  have := headIn (ops := (hd ++ tl).toArray) (tl := tl) (Q' := Q) (m := m) (l := l) hp (fun i o ho => by
      have := List.all_eq_true.1 hg o (by simpa using Array.mem_of_getElem? ho)
      simpa using this) (by simp) (fun i hi => by simp [List.getElem?_append_left hi]) (fun j => by simp [List.getElem?_append_right]) rfl hd.length _ a w.drew hT (by simp) hC hq
  simpa [List.replicate_append_replicate] using this
theorem round_cut {id : Nat} {Q : Exit → Act → World → Prop} {a : Act} {w : World} {os : List Oper} (k : Nat) (hp : noDefer (os.take k).toArray = true) (hg : ((os.take k).all fun o => o.guard.isNone) = true) (hm : P.follows .mixedOrders = true) (hB : Region.lexB .any (os.take k).toArray = true)
    (hT : treeB .any os.toArray (os.take k).toArray (os.take k).length (os.drop k).length (os.take k).length (List.replicate (os.take k).length false) = true) (hC : C w.drew)
    (h : wpQuiet P (os.take k).toArray C (fun a' => ∀ w', C w' → wpListIn (Fence.wide.inRound l) m P os.toArray Q (os.drop k) a' w') (os.take k) a) : (Code.region id os.toArray true).wpIn (Fence.wide.inRound l) m P Q a w := by
  have := round_tail (P := P) (C := C) (l := l) (m := m) (id := id) (Q := Q) (a := a) (w := w) (os.take k) (os.drop k) (plain_of hp) hg hm hB (by rw [List.take_append_drop]; exact hT) hC (by rw [List.take_append_drop]; exact h)
  rwa [List.take_append_drop] at this
end
section
variable {P : Program} {ops : Array Oper} {md : Region.Mode} {l n : Nat} {Q : Exit → Act → World → Prop}
/-- One operation of those that may come up: it hands back v. -/
theorem step_val {i fuel : Nat} {o : Oper} {a : Act} {w w' : World} {v : Value} {rs : List Nat} {listed : Array Bool} (ho : ops[i]? = some o) (hw : Region.wanted o (yielded ops a.tmps) = true)
    (hr : (o.semAt (some l) a.eval).run P w = .ok (.value v) w') (hn : wpAnyIn (Fence.wide.inRound l) n P md ops Q fuel (listed.setIfInBounds i true) (a.put o.dst v) w')
    (hs : AllReadyIn (Fence.wide.inRound l) n P md ops Q fuel listed a w rs) : AllReadyIn (Fence.wide.inRound l) n P md ops Q fuel listed a w (i :: rs) :=
  AllReadyIn.cons ho (fun K hK => by
    rw [if_pos hw]
    refine ⟨fun _ _ => trivial, ?_⟩
    show o.uponIn (Fence.wide.inRound l) n P a K Q ((o.semAt (some l) a.eval).run P w)
    rw [hr]
    exact hK _ _ hn) hs
end
end Go.Proofs.YtcokplikmjegcaaDoor
namespace Go.Proofs.YtcokplikmjegcaaDoor
open Go.RowKit
section
variable {P : Program} {ops : Array Oper} {md : Region.Mode} {C : World → Prop}
def wpAnyLQ (P : Program) (md : Region.Mode) (ops : Array Oper) (C : World → Prop) (n : Nat) (L : Array Bool → Act → Prop) : Nat → Array Bool → Act → Prop
  | 0, listed, a => L listed a
  | f + 1, listed, a =>
    Region.ready md ops listed ≠ [] ∧ ∀ i ∈ Region.ready md ops listed, i < n ∧ qOp P ops C i (wpAnyLQ P md ops C n L f (listed.setIfInBounds i true)) a
theorem any_of_headQ {n g : Nat} {L : Array Bool → Act → Prop} {Q' : Exit → Act → World → Prop} (hL : ∀ listed a w, C w → L listed a → wpAny P md ops Q' g listed a w) :
    ∀ (f : Nat) (listed : Array Bool) (a : Act) (w : World), C w → wpAnyLQ P md ops C n L f listed a → wpAny P md ops Q' (f + g) listed a w
  | 0, listed, a, w, hw, h => by rw [Nat.zero_add]; exact hL _ _ _ hw h
  | f + 1, listed, a, w, hw, h => by
    rw [show f + 1 + g = (f + g) + 1 by omega]
    exact ⟨fun h0 => absurd h0 h.1, fun i hi => wpOp_of_qOp hw (fun a' w' hw' h' => any_of_headQ hL f _ a' w' hw' h') (h.2 i hi).2⟩
theorem anyLQ_first {n i : Nat} {oi : Oper} {v : Value} {L : Array Bool → Act → Prop} (hi : ops[i]? = some oi) (hsel : ∀ (j : Nat) (o : Oper) cs b, ops[j]? = some o → o.op ≠ .select cs b)
    (hs : Region.sinkB md ops n = true) (hc : Region.chainB md ops n = true) (hn : n < ops.size) (hin : i < n)
    (hdone : ∀ listed a, L listed a → ∀ j ∈ Region.ready md ops listed, n ≤ j) :
    ∀ (f : Nat) (listed : Array Bool) (a : Act), HeadInv md ops n listed →
      (∀ j oj, ops[j]? = some oj → j ≠ i → listed.getD j true = false → (∀ e ∈ oj.after, Region.binds md e = true → e.on ≠ i) → oi.apart ops oj = true) →
      i ∈ Region.ready md ops listed → YieldsIn P ops C oi v a →
      wpAnyLQ P md ops C n L f (listed.setIfInBounds i true) (a.put oi.dst v) → wpAnyLQ P md ops C n L (f + 1) listed a := by
  intro f
  induction f with
  | zero =>
    intro listed a inv _ hr hy H
    have hun := (mem_ready.1 hr).1
    refine ⟨fun h => (by rw [h] at hr; cases hr), fun j hj => ?_⟩
    have hjn : j < n := by
      rcases Nat.lt_or_ge j n with h | h
      · exact h
      · exact absurd hj (tail_waits hs hc hn inv _ i rfl hin hun j h)
    refine ⟨hjn, ?_⟩
    by_cases hji : j = i
    · subst hji; exact hy.qOp hi H
    · have := hdone _ _ H j (ready_mono hj hji)
      omega
  | succ f ih =>
    intro listed a inv hfree hr hy H
    have hun := (mem_ready.1 hr).1
    refine ⟨fun h => (by rw [h] at hr; cases hr), fun j hj => ?_⟩
    have hjn : j < n := by
      rcases Nat.lt_or_ge j n with h | h
      · exact h
      · exact absurd hj (tail_waits hs hc hn inv _ i rfl hin hun j h)
    refine ⟨hjn, ?_⟩
    by_cases hji : j = i
    · subst hji; exact hy.qOp hi H
    · have h1 := (H.2 j (ready_mono hj hji)).2
      obtain ⟨hjun, oj, hoj, hall⟩ := mem_ready.1 hj
      have hnot : ∀ e ∈ oj.after, Region.binds md e = true → e.on ≠ i := fun e he hb heq => by
        have h1 := hall e he hb
        rw [heq, getD_both hun] at h1
        cases h1
      have h2 := qOp_put hoj (hfree j oj hoj hji hjun hnot) (fun cs b => hsel i oi cs b hi) (fun cs b => hsel j oj cs b hoj) hy h1
      have hfree' : ∀ k ok, ops[k]? = some ok → k ≠ i → (listed.setIfInBounds j true).getD k true = false →
          (∀ e ∈ ok.after, Region.binds md e = true → e.on ≠ i) → oi.apart ops ok = true := fun k ok hk hki hun hno => by
        refine hfree k ok hk hki ?_ hno
        by_cases hjk : j = k
        · subst hjk; exact hjun
        · rw [getD_set_ne true hjk] at hun; exact hun
      refine qOp_mono (fun a' h3 => ih (listed.setIfInBounds j true) a' (inv.set hj hjn) hfree' (ready_mono hr (Ne.symm hji)) h3.1 ?_) h2
      rw [Array.setIfInBounds_comm _ _ hji]
      exact h3.2
theorem anyLQ_lex {n g : Nat} {Lq : Act → Prop} (hsel : Region.noSelect ops = true) (hs : Region.sinkB md ops n = true) (hc : Region.chainB md ops n = true) (hn : n < ops.size) :
    ∀ (l : List Oper) (k : Nat) (listed : Array Bool) (a : Act), (∀ j, j < l.length → l[j]? = ops[k + j]?) → k + l.length = n → HeadInv md ops n listed →
    Region.lexHead md ops g l.length k listed = true → wpQuiet P ops C Lq l a →
    wpAnyLQ P md ops C n (fun listed' a' => Region.seqB md ops g n listed' = true ∧ Lq a') l.length listed a
  | [], k, listed, a, _, hk, _, hB, h => by
    have : k = n := by simpa using hk
    subst this
    exact ⟨by simpa [Region.lexHead] using hB, h⟩
  | o :: l, k, listed, a, hl, hk, inv, hB, h => by
    have h0 : ops[k]? = some o := by simpa using (hl 0 (by simp)).symm
    simp only [List.length_cons, Region.lexHead, Bool.and_eq_true] at hB
    obtain ⟨⟨hr, hf⟩, hB'⟩ := hB
    have hkn : k < n := by simp only [List.length_cons] at hk; omega
    have hr' : k ∈ Region.ready md ops listed := by simpa using hr
    have hst : qOp P ops C k (wpQuiet P ops C Lq l) a := by unfold qOp; simp only [h0]; exact h
    obtain ⟨v, hy, hK⟩ := yieldsIn_of_qOp h0 hst
    exact anyLQ_first h0 (Region.noSelect_spec hsel) hs hc hn hkn (fun listed' a' hL => seqB_ready hL.1) l.length listed a inv (Region.free_spec h0 hf) hr' hy
      (anyLQ_lex hsel hs hc hn l (k + 1) _ _ (fun j hj => by have := hl (j + 1) (by simp; omega); simpa [Nat.add_assoc, Nat.add_comm 1 j] using this) (by simp only [List.length_cons] at hk; omega) (inv.set hr' hkn) hB' hK)
theorem region_quiet_tail {id : Nat} {Q : Exit → Act → World → Prop} {a : Act} {w : World} {l : List Oper} (n : Nat) (hm : P.follows .mixedOrders = true) (hB : Region.lexTailB .any l.toArray n = true) (hC : C w.drew)
    (h : wpQuiet P l.toArray C (fun a' => ∀ w', C w' → wpList P l.toArray Q (l.drop n) a' w') (l.take n) a) : (Code.region id l.toArray true).wp P Q a w := by
  simp only [Region.lexTailB, Bool.and_eq_true, decide_eq_true_eq] at hB
  obtain ⟨⟨⟨⟨hsel, hn⟩, hs⟩, hc⟩, hlex⟩ := hB
  have hn' : n < l.length := by simpa using hn
  have htl : (l.take n).length = n := by simp; omega
  have hdl : (l.drop n).length = l.toArray.size - n := by simp
  have inv0 : HeadInv .any l.toArray n (Array.replicate l.toArray.size false) :=
    ⟨by simp, fun j oj _ hl => (by rw [getD_replicate_false] at hl; cases hl), fun t _ ht => getD_in (by simpa using ht) (getD_replicate_false _ _)⟩
  have H := anyLQ_lex (md := .any) (g := l.toArray.size - n) hsel hs hc hn (l.take n) 0 _ a (fun j hj => by
    have hj' : j < n := by rw [htl] at hj; exact hj
    simp [hj']) (by simpa using htl) inv0 (by rw [htl]; exact hlex) h
  refine wp_region_any hm ?_
  have := any_of_headQ (Q' := Q) (g := l.toArray.size - n) (fun listed a' w' hw' hL => by
    have := wpAny_of_seq (md := .any) (Q' := Q) (l.drop n) n listed a' w' (fun j => by simp [List.getElem?_drop]) (by rw [hdl]; exact hL.1) (hL.2 w' hw')
    rwa [hdl] at this) _ _ _ w.drew hC H
  rw [htl, show n + (l.toArray.size - n) = l.toArray.size by omega] at this
  exact this
/-- The first k operations in the text's order, in the class 'w with draws and blocks behind it'; the rest one after another. -/
theorem region_cut {id : Nat} {Q : Exit → Act → World → Prop} {a : Act} {w : World} {os : List Oper} (k : Nat) (hm : P.follows .mixedOrders = true) (hB : Region.lexTailB .any os.toArray k = true)
    (h : wpQuiet P os.toArray (fun w' => ∃ p : Regrown, w' = Go.Sort.grow (redrawn w p.d) p.os) (fun a' => ∀ w', (∃ p : Regrown, w' = Go.Sort.grow (redrawn w p.d) p.os) → wpList P os.toArray Q (os.drop k) a' w') (os.take k) a) : (Code.region id os.toArray true).wp P Q a w :=
  region_quiet_tail (C := fun w' => ∃ p : Regrown, w' = Go.Sort.grow (redrawn w p.d) p.os) k hm hB ⟨⟨w.drawn + 1, #[]⟩, by rw [Go.Sort.grow_empty]; rfl⟩ h
end
end Go.Proofs.YtcokplikmjegcaaDoor
