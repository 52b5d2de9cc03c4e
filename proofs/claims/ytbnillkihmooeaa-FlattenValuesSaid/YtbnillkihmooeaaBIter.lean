/- A range over an iterator that keeps state of its own in cells: what the iterator and a round owe each other, and the law of the statement. No claim of its own. -/
import Derived.Test.YtbnillkihmooeaaBUnr
import Derived.Test.YtbnillkihmooeaaBList
import Derived.Test.YtbnillkihmooeaaBEq
import Derived.RangeFuncNested
import Derived.RangeFuncBound
import Derived.RangeFuncCalls
import Derived.RangeFuncLeaves
import Derived.Shelf.Abstract
import Derived.Shelf.RegionOpen
import Derived.OwnWalkIn
import Derived.TacticsInMore
import Derived.LoopNIn
import Derived.LoopIn
namespace Go.Proofs.Ytbnillkihmooeaa
open Go.RowKit
/-- A step of the iterator's own: new blocks; at most one block that lay is turned, and that is one of its own, from b to below e. -/
def Stp (b e : Nat) (X Y : World) : Prop := ∃ row, X.grownBy Y row ∧ ∀ r, row = some r → b ≤ r ∧ r < e
theorem Stp.alloc (b e : Nat) (X : World) (o : Obj) : Stp b e X (X.alloc o) := ⟨none, World.grownBy_alloc X o none, fun _ h => by cases h⟩
theorem Stp.putObj {b e l : Nat} (X : World) (o : Obj) (h1 : b ≤ l) (h2 : l < e) : Stp b e X (X.putObj l o) := ⟨some l, grownBy_putObj' X l o, fun r h => by cases h; exact ⟨h1, h2⟩⟩
theorem Stp.setCell {b e g : Nat} (X : World) (k : Nat) (v : Value) (h1 : b ≤ g) (h2 : g < e) : Stp b e X (X.setCell ⟨g, k, none⟩ v) :=
  ⟨some g, ⟨rfl, rfl, rfl, (KeepsWalks.setCell X _ v).size, fun j _ hj => Below.heap_setCell _ _ _ j (fun e => hj (by rw [e]))⟩, fun r h => by cases h; exact ⟨h1, h2⟩⟩
theorem Stp.below {b e : Nat} {X Y : World} (h : Below X.heap.size X Y) : Stp b e X Y := ⟨none, ⟨h.os, h.tape, h.output, h.size, fun k hk _ => h.block k hk⟩, fun _ h => by cases h⟩
theorem Stp.mono {b b' e e' : Nat} {X Y : World} (h : Stp b e X Y) (h1 : b' ≤ b) (h2 : e ≤ e') : Stp b' e' X Y := by
  obtain ⟨row, hg, hr⟩ := h
  exact ⟨row, hg, fun r hr' => by have := hr r hr'; omega⟩
theorem Stp.size {b e : Nat} {X Y : World} (h : Stp b e X Y) : X.heap.size ≤ Y.heap.size := by obtain ⟨row, hg, _⟩ := h; exact hg.size
theorem Stp.heap {b e k : Nat} {X Y : World} (h : Stp b e X Y) (hk : k < X.heap.size) (hne : k < b ∨ e ≤ k) : Y.heap[k]? = X.heap[k]? := by
  obtain ⟨row, hg, hr⟩ := h
  refine hg.block k hk (fun he => ?_)
  have := hr k he.symm
  omega
theorem Stp.isBelow {b e n : Nat} {X Y : World} (h : Stp b e X Y) (hn : n ≤ b) (hb : n ≤ X.heap.size) : Below n X Y := by
  obtain ⟨row, hg, hr⟩ := h
  exact (Below.refl n X).grown hg hb fun k hk => by have := hr k hk; omega
/-- What a round keeps for the iterator: block Bn, and the iterator's own, from b to below e. -/
structure Kpt (Bn b e : Nat) (X Y : World) : Prop where
  size : X.heap.size ≤ Y.heap.size
  one : Y.heap[Bn]? = X.heap[Bn]?
  own : ∀ k, b ≤ k → k < e → Y.heap[k]? = X.heap[k]?
theorem Kpt.refl (Bn b e : Nat) (X : World) : Kpt Bn b e X X := ⟨Nat.le_refl _, rfl, fun _ _ _ => rfl⟩
theorem Kpt.trans {Bn b e : Nat} {X Y Z : World} (h : Kpt Bn b e X Y) (k : Kpt Bn b e Y Z) : Kpt Bn b e X Z :=
  ⟨Nat.le_trans h.size k.size, k.one.trans h.one, fun j h1 h2 => (k.own j h1 h2).trans (h.own j h1 h2)⟩
theorem Kpt.alloc {Bn b e : Nat} (X : World) (o : Obj) (h1 : Bn < X.heap.size) (h2 : e ≤ X.heap.size) : Kpt Bn b e X (X.alloc o) :=
  ⟨by simp, Below.heap_alloc X o Bn h1, fun k _ hk => Below.heap_alloc X o k (by omega)⟩
theorem Kpt.below {Bn b e n : Nat} {X Y : World} (h : Below n X Y) (h1 : Bn < n) (h2 : e ≤ n) : Kpt Bn b e X Y :=
  ⟨h.size, h.block Bn h1, fun k _ hk => h.block k (by omega)⟩
theorem Kpt.setCell {Bn b e g : Nat} (X : World) (k : Nat) (v : Value) (h1 : Bn ≠ g) (h2 : g < b ∨ e ≤ g) : Kpt Bn b e X (X.setCell ⟨g, k, none⟩ v) :=
  ⟨(KeepsWalks.setCell X _ v).size, Below.heap_setCell _ _ _ Bn h1, fun j j1 j2 => Below.heap_setCell _ _ _ j (by show j ≠ g; omega)⟩
/-- The promise of an iterator that hands out xs, one after another, until a round says no more. -/
def Iter (gf : Nat) (lb : Array Value) (encs : List Int → Array Value) (xs : List (List Int)) (Bn : Nat) (w : World) : Prop :=
  ∀ (l : Nat) (W : World) (J Jx : Nat → List (List Int) → World → Prop), Below w.heap.size w W →
    (∀ e pre X Y, W.heap.size ≤ e → e ≤ X.heap.size → J e pre X → Stp W.heap.size e X Y → J e pre Y) →
    (∀ e pre X Y, W.heap.size ≤ e → e ≤ X.heap.size → Jx e pre X → Stp W.heap.size e X Y → Jx e pre Y) →
    (∀ e pre x X, W.heap.size ≤ e → e ≤ X.heap.size → J e pre X → (pre ++ [x]) <+: xs → YieldAt Fence.wide 5 Try.prog l (encs x) X fun v Y =>
      (v = .returned (.bool true) ∧ J e (pre ++ [x]) Y ∧ Kpt Bn W.heap.size e X Y) ∨ (v = .returned (.bool false) ∧ Jx e (pre ++ [x]) Y ∧ Kpt Bn W.heap.size e X Y)) →
    (∀ e X, W.heap.size ≤ e → e ≤ X.heap.size → Below W.heap.size W X → J e [] X) →
    CallsIn Fence.wide 5 Try.prog gf (#[.func (.yield l) #[] #[]] ++ lb) W fun v Y => (∃ u, v = .returned u) ∧ ∃ e, W.heap.size ≤ e ∧ e ≤ Y.heap.size ∧ (J e xs Y ∨ ∃ pre, pre <+: xs ∧ Jx e pre Y)
/-- How a round may be left. -/
def leftBy (Bn b e : Nat) (I : Nat → List (List Int) → World → Prop) (Ix : Code → Nat → List (List Int) → World → Prop) (pre : List (List Int)) (X : World) : Exit → Act → World → Prop
  | .normal, _, Y => Kpt Bn b e X Y ∧ I e pre Y
  | .ret, _, Y => Kpt Bn b e X Y ∧ Ix .ret e pre Y
  | .exit id, _, Y => Kpt Bn b e X Y ∧ Ix (.exit id) e pre Y
  | _, _, _ => False
theorem deep_any {m m' : Nat} {gf : Nat} {args : Array Value} {w : World} {R : Ending → World → Prop} (h : CallsIn Fence.wide m Try.prog gf args w R) : CallsIn Fence.wide m' Try.prog gf args w R := callsIn_wide.2 (callsIn_wide.1 h)
/-- The statement 'for .. := range g { .. }' over such an iterator, in no round. -/
theorem range_law {g : Operand} {ps : Array Tmp} {assign body : Code} {Q : Exit → Act → World → Prop} {a : Act} {w : World} {gf : Nat} {lb : Array Value} {encs : List Int → Array Value} {xs : List (List Int)} {Bn : Nat}
    (hg : a.eval g = .func (.func gf) #[] lb) (eg : ∀ args w, (callFunc gf args).run Try.prog w = .ok (.enter gf args) w) (hit : Iter gf lb encs xs Bn w) (hBn : Bn < w.heap.size) (hps : ∀ x, (encs x).size = ps.size)
    (I : Nat → List (List Int) → World → Prop) (Ix : Code → Nat → List (List Int) → World → Prop)
    (hI : ∀ e pre X Y, w.heap.size + 2 ≤ e → e ≤ X.heap.size → I e pre X → Stp w.heap.size e X Y → I e pre Y)
    (hIx : ∀ c e pre X Y, w.heap.size + 2 ≤ e → e ≤ X.heap.size → Ix c e pre X → Stp w.heap.size e X Y → Ix c e pre Y)
    (h0 : ∀ e X, w.heap.size + 2 ≤ e → e ≤ X.heap.size → Below w.heap.size w X → I e [] X)
    (Ax : Nat → List Int → Act → World → Prop) (hAx : ∀ e x a' X Y, e ≤ X.heap.size → Ax e x a' X → Stp w.heap.size e X Y → Ax e x a' Y)
    (hassign : ∀ l e pre x X, w.heap.size + 2 ≤ e → e ≤ X.heap.size → I e pre X → (pre ++ [x]) <+: xs →
      assign.wpIn (Fence.wide.inRound l) 5 Try.prog (Exit.then (fun a' X' => Kpt Bn w.heap.size e X X' ∧ I e pre X' ∧ Ax e x a' X') (fun _ _ _ => False)) { tmps := (ps.zip (encs x)).foldl (fun t (p, v) => t.setIfInBounds p v) a.tmps, defers := [] } X)
    (hbody : ∀ l e pre x a' X, w.heap.size + 2 ≤ e → e ≤ X.heap.size → I e pre X → (pre ++ [x]) <+: xs → Ax e x a' X →
      body.wpIn (Fence.wide.inRound l) 5 Try.prog (leftBy Bn w.heap.size e I Ix (pre ++ [x]) X) a' X)
    (hdone : ∀ e Y, w.heap.size + 2 ≤ e → e ≤ Y.heap.size → I e xs Y → Y.heap[w.heap.size]? = some (.deferred (some [])) → Q .normal { a with defers := { target := .collected w.heap.size, args := #[] } :: a.defers } Y)
    (hstop : ∀ c e pre Y, w.heap.size + 2 ≤ e → e ≤ Y.heap.size → pre <+: xs → Ix c e pre Y → Y.heap[w.heap.size]? = some (.deferred (some [])) → c.wpIn Fence.wide 5 Try.prog Q { a with defers := { target := .collected w.heap.size, args := #[] } :: a.defers } Y) :
    (Code.rangeFunc g ps assign body).wpIn Fence.wide 5 Try.prog Q a w := by
  refine wpIn_rangeFunc fun fn hfn => ?_
  obtain ⟨rec, hrec⟩ : ∃ rec : LoopState → Option Code → Loop, rec = fun st pe => { state := st, pending := pe, fn, tmps := a.tmps, params := ps, assign, body, defers := w.heap.size } := ⟨_, rfl⟩
  obtain ⟨W1, hW1⟩ : ∃ W1, (w.alloc (.deferred (some []))).alloc (.loop (rec .ready none)) = W1 := ⟨_, rfl⟩
  have hs1 : W1.heap.size = w.heap.size + 2 := by rw [← hW1]; simp
  have hL1 : W1.heap[w.heap.size + 1]? = some (.loop (rec .ready none)) := by
    rw [← hW1]; have := World.alloc_heap_new (w.alloc (.deferred (some []))) (.loop (rec .ready none)); rwa [World.size_alloc] at this
  have hD1 : W1.heap[w.heap.size]? = some (.deferred (some [])) := by
    rw [← hW1]; exact (Below.heap_alloc _ _ _ (by simp)).trans (World.alloc_heap_new w _)
  have hb1 : Below w.heap.size w W1 := by
    rw [← hW1]; exact ((Below.refl _ w).alloc (Nat.le_refl _) _).alloc (by simp) _
  refine ⟨w.heap.size + 1, [{ target := .collected w.heap.size, args := #[] }], W1, { target := .fn (.func gf) lb, args := #[.func (.yield (w.heap.size + 1)) #[] #[]] }, W1, gf,
    #[.func (.yield (w.heap.size + 1)) #[] #[]] ++ lb, W1, ?_, ?_, ?_, ?_, (fun _ => by decide), ?_⟩
  · rw [← hW1, hrec]; exact run_enterLoop_outer _ _ _ _ _
  · simp only [resolve, hg]
    simp [go_sem]
  · intro f' _; trivial
  · simp [invoke, go_sem, eg]
  · refine deep_any ((hit (w.heap.size + 1) W1
      (fun e pre X => I e pre X ∧ X.heap[w.heap.size + 1]? = some (.loop (rec .ready none)) ∧ X.heap[w.heap.size]? = some (.deferred (some [])))
      (fun e pre X => ∃ c, Ix c e pre X ∧ X.heap[w.heap.size + 1]? = some (.loop (rec .done (some c))) ∧ X.heap[w.heap.size]? = some (.deferred (some [])))
      hb1 ?_ ?_ ?_ ?_).mono ?_)
    · rintro e pre X Y he heX ⟨hi, hl, hd⟩ hs
      rw [hs1] at he hs
      have hl' := (Array.getElem?_eq_some_iff.1 hl).1
      exact ⟨hI e pre X Y he heX hi (hs.mono (by omega) (Nat.le_refl _)), (hs.heap hl' (.inl (by omega))).trans hl, (hs.heap (by omega) (.inl (by omega))).trans hd⟩
    · rintro e pre X Y he heX ⟨c, hi, hl, hd⟩ hs
      rw [hs1] at he hs
      have hl' := (Array.getElem?_eq_some_iff.1 hl).1
      exact ⟨c, hIx c e pre X Y he heX hi (hs.mono (by omega) (Nat.le_refl _)), (hs.heap hl' (.inl (by omega))).trans hl, (hs.heap (by omega) (.inl (by omega))).trans hd⟩
    · rintro e pre x X he heX ⟨hi, hl, hd⟩ hpre
      rw [hs1] at he ⊢
      have hy := run_yield (P := Try.prog) (args := encs x) hl (by rw [hrec]; exact hps x)
      rw [hrec] at hy
      refine ⟨fn, _, assign, body, hy, roundIn_of_wpIn hfn (wpIn_mono (hassign _ e pre x X he heX hi hpre) ?_)⟩
      intro ex a1 X1 hp
      cases ex with
      | normal =>
        obtain ⟨hk1, hi1, ha1⟩ := hp
        have hl1 := (hk1.own _ (by omega) (by omega)).trans hl
        have hd1 := (hk1.own _ (Nat.le_refl _) (by omega)).trans hd
        have he1 : e ≤ X1.heap.size := Nat.le_trans heX hk1.size
        refine ⟨_, run_beginRound hl1 (by rw [hrec]), ?_⟩
        have hst : Stp w.heap.size e X1 (X1.putObj (w.heap.size + 1) (.loop { rec .ready none with state := .busy })) := Stp.putObj _ _ (by omega) (by omega)
        have hl2 : (X1.putObj (w.heap.size + 1) (.loop { rec .ready none with state := .busy })).heap[w.heap.size + 1]? = some (.loop { rec .ready none with state := .busy }) := World.putObj_heap_same (by omega)
        have hoth : ∀ k, k ≠ w.heap.size + 1 → (X1.putObj (w.heap.size + 1) (.loop { rec .ready none with state := .busy })).heap[k]? = X1.heap[k]? := fun k hk => World.putObj_heap_other hk
        refine wpIn_mono (hbody _ e pre x a1 _ he (by simp; exact he1) (hI e pre _ _ he he1 hi1 hst) hpre (hAx e x a1 _ _ he1 ha1 hst)) ?_
        have fin : ∀ (jump : Option Code) (X3 : World), Kpt Bn w.heap.size e (X1.putObj (w.heap.size + 1) (.loop { rec .ready none with state := .busy })) X3 →
            (Instr.endRound (w.heap.size + 1) jump).run Try.prog X3 = .ok (.bool jump.isNone) (X3.putObj (w.heap.size + 1) (.loop (rec (if jump.isNone then .ready else .done) jump))) ∧
            (X3.putObj (w.heap.size + 1) (.loop (rec (if jump.isNone then .ready else .done) jump))).heap[w.heap.size + 1]? = some (.loop (rec (if jump.isNone then .ready else .done) jump)) ∧
            (X3.putObj (w.heap.size + 1) (.loop (rec (if jump.isNone then .ready else .done) jump))).heap[w.heap.size]? = some (.deferred (some [])) ∧ e ≤ X3.heap.size ∧ X.heap.size ≤ X3.heap.size := fun jump X3 hk3 => by
          have hl3 := (hk3.own _ (by omega) (by omega)).trans hl2
          have hd3 := ((hk3.own _ (Nat.le_refl _) (by omega)).trans (hoth _ (by omega))).trans hd1
          have h := run_endRound (P := Try.prog) jump hl3
          have hz := hk3.size
          have hz1 := hk1.size
          simp only [World.putObj_size] at hz
          rw [hrec] at h ⊢
          exact ⟨h, World.putObj_heap_same (by omega), (World.putObj_heap_other (by omega)).trans hd3, by omega, by omega⟩
        have kp : ∀ {X3 : World} {o : Obj}, Kpt Bn w.heap.size e (X1.putObj (w.heap.size + 1) (.loop { rec .ready none with state := .busy })) X3 → X.heap.size ≤ X3.heap.size → Kpt Bn (w.heap.size + 2) e X (X3.putObj (w.heap.size + 1) o) := fun hk3 hz5 => by
          refine ⟨by simp; omega, ?_, fun k h1 h2 => ?_⟩
          · rw [World.putObj_heap_other (by omega), hk3.one, hoth _ (by omega), hk1.one]
          · rw [World.putObj_heap_other (by omega), hk3.own k (by omega) h2, hoth _ (by omega), hk1.own k (by omega) h2]
        rintro ex3 a3 X3 hp3
        cases ex3 with
        | normal =>
          obtain ⟨hk3, hi3⟩ := hp3
          obtain ⟨hr, hl4, hd4, hz4, hz5⟩ := fin none X3 hk3
          exact ⟨_, _, hr, .inl ⟨rfl, ⟨hI e _ _ _ he hz4 hi3 (Stp.putObj _ _ (by omega) (by omega)), hl4, hd4⟩, kp hk3 hz5⟩⟩
        | ret =>
          obtain ⟨hk3, hi3⟩ := hp3
          obtain ⟨hr, hl4, hd4, hz4, hz5⟩ := fin (some .ret) X3 hk3
          exact ⟨_, _, hr, .inr ⟨rfl, ⟨.ret, hIx _ e _ _ _ he hz4 hi3 (Stp.putObj _ _ (by omega) (by omega)), hl4, hd4⟩, kp hk3 hz5⟩⟩
        | exit id =>
          obtain ⟨hk3, hi3⟩ := hp3
          obtain ⟨hr, hl4, hd4, hz4, hz5⟩ := fin (some (.exit id)) X3 hk3
          exact ⟨_, _, hr, .inr ⟨rfl, ⟨.exit id, hIx _ e _ _ _ he hz4 hi3 (Stp.putObj _ _ (by omega) (by omega)), hl4, hd4⟩, kp hk3 hz5⟩⟩
        | goto t => exact hp3.elim
        | panic ch => exact hp3.elim
        | outgrown => exact hp3.elim
      | exit id => exact hp.elim
      | goto t => exact hp.elim
      | ret => exact hp.elim
      | panic ch => exact hp.elim
      | outgrown => exact hp.elim
    · intro e X he heX hbX
      rw [hs1] at he hbX
      exact ⟨h0 e X he heX (hb1.trans (hbX.mono (by omega))), (hbX.block _ (by omega)).trans hL1, (hbX.block _ (by omega)).trans hD1⟩
    · rintro v X2 ⟨⟨u, rfl⟩, e, he, heX, (⟨hi, hl, hd⟩ | ⟨pre, hpre, c, hi, hl, hd⟩)⟩
      · rw [hs1] at he
        have hend := run_endLoop (P := Try.prog) hl (by rw [hrec]; simp)
        rw [hrec] at hend
        exact ⟨none, _, hend, hdone e _ he (by simp; exact heX) (hI e _ _ _ he heX hi (Stp.putObj _ _ (by omega) (by omega))) ((World.putObj_heap_other (by omega)).trans hd)⟩
      · rw [hs1] at he
        have hend := run_endLoop (P := Try.prog) hl (by rw [hrec]; simp)
        rw [hrec] at hend
        exact ⟨some c, _, hend, hstop c e pre _ he (by simp; exact heX) hpre (hIx c e _ _ _ he heX hi (Stp.putObj _ _ (by omega) (by omega))) ((World.putObj_heap_other (by omega)).trans hd)⟩
end Go.Proofs.Ytbnillkihmooeaa
