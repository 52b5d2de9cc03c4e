/- BIter, BUpto, BAll, joined: no claim of its own. -/
import Derived.Test.YtjjpfpgjpmedmaaBUnr
import Derived.Test.YtjjpfpgjpmedmaaBList
import Derived.Test.YtjjpfpgjpmedmaaBEq
import Derived.RangeFuncNested
import Derived.RangeFuncBound
import Derived.RangeFuncCalls
import Derived.RangeFuncLeaves
import Derived.Shelf.Abstract
import Derived.Shelf.RegionOpen
import Derived.OwnWalkIn
import Derived.TacticsInMore
import Derived.LoopNIn
import Derived.LoopIn
import Derived.Test.YtjjpfpgjpmedmaaBRRank
import Derived.Test.YtjjpfpgjpmedmaaBNext
namespace Go.Proofs.Ytjjpfpgjpmedmaa
open Go.RowKit
/-- A step of the iterator's own: new blocks; at most one block that lay is turned, and that is one of its own, from b to below e. -/
def Stp (b e : Nat) (X Y : World) : Prop := ∃ row, X.grownBy Y row ∧ ∀ r, row = some r → b ≤ r ∧ r < e
theorem Stp.alloc (b e : Nat) (X : World) (o : Obj) : Stp b e X (X.alloc o) := ⟨none, World.grownBy_alloc X o none, fun _ h => by cases h⟩
theorem Stp.putObj {b e l : Nat} (X : World) (o : Obj) (h1 : b ≤ l) (h2 : l < e) : Stp b e X (X.putObj l o) := ⟨some l, grownBy_putObj' X l o, fun r h => by cases h; exact ⟨h1, h2⟩⟩
theorem Stp.setCell {b e g : Nat} (X : World) (k : Nat) (v : Value) (h1 : b ≤ g) (h2 : g < e) : Stp b e X (X.setCell ⟨g, k, none⟩ v) :=
  ⟨some g, ⟨rfl, rfl, rfl, (KeepsWalks.setCell X _ v).size, fun j _ hj => Below.heap_setCell _ _ _ j (fun e => hj (by rw [e]))⟩, fun r h => by cases h; exact ⟨h1, h2⟩⟩
theorem Stp.below {b e : Nat} {X Y : World} (h : Below X.heap.size X Y) : Stp b e X Y := ⟨none, ⟨h.os, h.tape, h.output, h.size, fun k hk _ => h.block k hk⟩, fun _ h => by cases h⟩
theorem Stp.mono {b b' e e' : Nat} {X Y : World} (h : Stp b e X Y) (h1 : b' ≤ b) (h2 : e ≤ e') : Stp b' e' X Y := by
  obtain ⟨row, hg, hr⟩ := h
  exact ⟨row, hg, fun r hr' => by have := hr r hr'; omega⟩
theorem Stp.size {b e : Nat} {X Y : World} (h : Stp b e X Y) : X.heap.size ≤ Y.heap.size := by obtain ⟨row, hg, _⟩ := h; exact hg.size
theorem Stp.heap {b e k : Nat} {X Y : World} (h : Stp b e X Y) (hk : k < X.heap.size) (hne : k < b ∨ e ≤ k) : Y.heap[k]? = X.heap[k]? := by
  obtain ⟨row, hg, hr⟩ := h
  refine hg.block k hk (fun he => ?_)
  have := hr k he.symm
  omega
theorem Stp.isBelow {b e n : Nat} {X Y : World} (h : Stp b e X Y) (hn : n ≤ b) (hb : n ≤ X.heap.size) : Below n X Y := by
  obtain ⟨row, hg, hr⟩ := h
  exact (Below.refl n X).grown hg hb fun k hk => by have := hr k hk; omega
/-- What a round keeps for the iterator: block Bn, and the iterator's own, from b to below e. -/
structure Kpt (Bn b e : Nat) (X Y : World) : Prop where
  size : X.heap.size ≤ Y.heap.size
  one : Y.heap[Bn]? = X.heap[Bn]?
  own : ∀ k, b ≤ k → k < e → Y.heap[k]? = X.heap[k]?
theorem Kpt.refl (Bn b e : Nat) (X : World) : Kpt Bn b e X X := ⟨Nat.le_refl _, rfl, fun _ _ _ => rfl⟩
theorem Kpt.trans {Bn b e : Nat} {X Y Z : World} (h : Kpt Bn b e X Y) (k : Kpt Bn b e Y Z) : Kpt Bn b e X Z :=
  ⟨Nat.le_trans h.size k.size, k.one.trans h.one, fun j h1 h2 => (k.own j h1 h2).trans (h.own j h1 h2)⟩
theorem Kpt.alloc {Bn b e : Nat} (X : World) (o : Obj) (h1 : Bn < X.heap.size) (h2 : e ≤ X.heap.size) : Kpt Bn b e X (X.alloc o) :=
  ⟨by simp, Below.heap_alloc X o Bn h1, fun k _ hk => Below.heap_alloc X o k (by omega)⟩
theorem Kpt.below {Bn b e n : Nat} {X Y : World} (h : Below n X Y) (h1 : Bn < n) (h2 : e ≤ n) : Kpt Bn b e X Y :=
  ⟨h.size, h.block Bn h1, fun k _ hk => h.block k (by omega)⟩
theorem Kpt.setCell {Bn b e g : Nat} (X : World) (k : Nat) (v : Value) (h1 : Bn ≠ g) (h2 : g < b ∨ e ≤ g) : Kpt Bn b e X (X.setCell ⟨g, k, none⟩ v) :=
  ⟨(KeepsWalks.setCell X _ v).size, Below.heap_setCell _ _ _ Bn h1, fun j j1 j2 => Below.heap_setCell _ _ _ j (by show j ≠ g; omega)⟩
/-- The promise of an iterator that hands out xs, one after another, until a round says no more. -/
def Iter (gf : Nat) (lb : Array Value) (encs : List Int → Array Value) (xs : List (List Int)) (Bn : Nat) (w : World) : Prop :=
  ∀ (l : Nat) (W : World) (J Jx : Nat → List (List Int) → World → Prop), Below w.heap.size w W →
    (∀ e pre X Y, W.heap.size ≤ e → e ≤ X.heap.size → J e pre X → Stp W.heap.size e X Y → J e pre Y) →
    (∀ e pre X Y, W.heap.size ≤ e → e ≤ X.heap.size → Jx e pre X → Stp W.heap.size e X Y → Jx e pre Y) →
    (∀ e pre x X, W.heap.size ≤ e → e ≤ X.heap.size → J e pre X → (pre ++ [x]) <+: xs → YieldAt Fence.wide 5 Try.prog l (encs x) X fun v Y =>
      (v = .returned (.bool true) ∧ J e (pre ++ [x]) Y ∧ Kpt Bn W.heap.size e X Y) ∨ (v = .returned (.bool false) ∧ Jx e (pre ++ [x]) Y ∧ Kpt Bn W.heap.size e X Y)) →
    (∀ e X, W.heap.size ≤ e → e ≤ X.heap.size → Below W.heap.size W X → J e [] X) →
    CallsIn Fence.wide 5 Try.prog gf (#[.func (.yield l) #[] #[]] ++ lb) W fun v Y => (∃ u, v = .returned u) ∧ ∃ e, W.heap.size ≤ e ∧ e ≤ Y.heap.size ∧ (J e xs Y ∨ ∃ pre, pre <+: xs ∧ Jx e pre Y)
/-- How a round may be left. -/
def leftBy (Bn b e : Nat) (I : Nat → List (List Int) → World → Prop) (Ix : Code → Nat → List (List Int) → World → Prop) (pre : List (List Int)) (X : World) : Exit → Act → World → Prop
  | .normal, _, Y => Kpt Bn b e X Y ∧ I e pre Y
  | .ret, _, Y => Kpt Bn b e X Y ∧ Ix .ret e pre Y
  | .exit id, _, Y => Kpt Bn b e X Y ∧ Ix (.exit id) e pre Y
  | _, _, _ => False
theorem deep_any {m m' : Nat} {gf : Nat} {args : Array Value} {w : World} {R : Ending → World → Prop} (h : CallsIn Fence.wide m Try.prog gf args w R) : CallsIn Fence.wide m' Try.prog gf args w R := callsIn_wide.2 (callsIn_wide.1 h)
/-- The statement 'for .. := range g { .. }' over such an iterator, in no round. -/
theorem range_law {g : Operand} {ps : Array Tmp} {assign body : Code} {Q : Exit → Act → World → Prop} {a : Act} {w : World} {gf : Nat} {lb : Array Value} {encs : List Int → Array Value} {xs : List (List Int)} {Bn : Nat}
    (hg : a.eval g = .func (.func gf) #[] lb) (eg : ∀ args w, (callFunc gf args).run Try.prog w = .ok (.enter gf args) w) (hit : Iter gf lb encs xs Bn w) (hBn : Bn < w.heap.size) (hps : ∀ x, (encs x).size = ps.size)
    (I : Nat → List (List Int) → World → Prop) (Ix : Code → Nat → List (List Int) → World → Prop)
    (hI : ∀ e pre X Y, w.heap.size + 2 ≤ e → e ≤ X.heap.size → I e pre X → Stp w.heap.size e X Y → I e pre Y)
    (hIx : ∀ c e pre X Y, w.heap.size + 2 ≤ e → e ≤ X.heap.size → Ix c e pre X → Stp w.heap.size e X Y → Ix c e pre Y)
    (h0 : ∀ e X, w.heap.size + 2 ≤ e → e ≤ X.heap.size → Below w.heap.size w X → I e [] X)
    (Ax : Nat → List Int → Act → World → Prop) (hAx : ∀ e x a' X Y, e ≤ X.heap.size → Ax e x a' X → Stp w.heap.size e X Y → Ax e x a' Y)
    (hassign : ∀ l e pre x X, w.heap.size + 2 ≤ e → e ≤ X.heap.size → I e pre X → (pre ++ [x]) <+: xs →
      assign.wpIn (Fence.wide.inRound l) 5 Try.prog (Exit.then (fun a' X' => Kpt Bn w.heap.size e X X' ∧ I e pre X' ∧ Ax e x a' X') (fun _ _ _ => False)) { tmps := (ps.zip (encs x)).foldl (fun t (p, v) => t.setIfInBounds p v) a.tmps, defers := [] } X)
    (hbody : ∀ l e pre x a' X, w.heap.size + 2 ≤ e → e ≤ X.heap.size → I e pre X → (pre ++ [x]) <+: xs → Ax e x a' X →
      body.wpIn (Fence.wide.inRound l) 5 Try.prog (leftBy Bn w.heap.size e I Ix (pre ++ [x]) X) a' X)
    (hdone : ∀ e Y, w.heap.size + 2 ≤ e → e ≤ Y.heap.size → I e xs Y → Y.heap[w.heap.size]? = some (.deferred (some [])) → Q .normal { a with defers := { target := .collected w.heap.size, args := #[] } :: a.defers } Y)
    (hstop : ∀ c e pre Y, w.heap.size + 2 ≤ e → e ≤ Y.heap.size → pre <+: xs → Ix c e pre Y → Y.heap[w.heap.size]? = some (.deferred (some [])) → c.wpIn Fence.wide 5 Try.prog Q { a with defers := { target := .collected w.heap.size, args := #[] } :: a.defers } Y) :
    (Code.rangeFunc g ps assign body).wpIn Fence.wide 5 Try.prog Q a w := by
  refine wpIn_rangeFunc fun fn hfn => ?_
  obtain ⟨rec, hrec⟩ : ∃ rec : LoopState → Option Code → Loop, rec = fun st pe => { state := st, pending := pe, fn, tmps := a.tmps, params := ps, assign, body, defers := w.heap.size } := ⟨_, rfl⟩
  obtain ⟨W1, hW1⟩ : ∃ W1, (w.alloc (.deferred (some []))).alloc (.loop (rec .ready none)) = W1 := ⟨_, rfl⟩
  have hs1 : W1.heap.size = w.heap.size + 2 := by rw [← hW1]; simp
  have hL1 : W1.heap[w.heap.size + 1]? = some (.loop (rec .ready none)) := by
    rw [← hW1]; have := World.alloc_heap_new (w.alloc (.deferred (some []))) (.loop (rec .ready none)); rwa [World.size_alloc] at this
  have hD1 : W1.heap[w.heap.size]? = some (.deferred (some [])) := by
    rw [← hW1]; exact (Below.heap_alloc _ _ _ (by simp)).trans (World.alloc_heap_new w _)
  have hb1 : Below w.heap.size w W1 := by
    rw [← hW1]; exact ((Below.refl _ w).alloc (Nat.le_refl _) _).alloc (by simp) _
  refine ⟨w.heap.size + 1, [{ target := .collected w.heap.size, args := #[] }], W1, { target := .fn (.func gf) lb, args := #[.func (.yield (w.heap.size + 1)) #[] #[]] }, W1, gf,
    #[.func (.yield (w.heap.size + 1)) #[] #[]] ++ lb, W1, ?_, ?_, ?_, ?_, (fun _ => by decide), ?_⟩
  · rw [← hW1, hrec]; exact run_enterLoop_outer _ _ _ _ _
  · simp only [resolve, hg]
    simp [go_sem]
  · intro f' _; trivial
  · simp [invoke, go_sem, eg]
  · refine deep_any ((hit (w.heap.size + 1) W1
      (fun e pre X => I e pre X ∧ X.heap[w.heap.size + 1]? = some (.loop (rec .ready none)) ∧ X.heap[w.heap.size]? = some (.deferred (some [])))
      (fun e pre X => ∃ c, Ix c e pre X ∧ X.heap[w.heap.size + 1]? = some (.loop (rec .done (some c))) ∧ X.heap[w.heap.size]? = some (.deferred (some [])))
      hb1 ?_ ?_ ?_ ?_).mono ?_)
    · rintro e pre X Y he heX ⟨hi, hl, hd⟩ hs
      rw [hs1] at he hs
      have hl' := (Array.getElem?_eq_some_iff.1 hl).1
      exact ⟨hI e pre X Y he heX hi (hs.mono (by omega) (Nat.le_refl _)), (hs.heap hl' (.inl (by omega))).trans hl, (hs.heap (by omega) (.inl (by omega))).trans hd⟩
    · rintro e pre X Y he heX ⟨c, hi, hl, hd⟩ hs
      rw [hs1] at he hs
      have hl' := (Array.getElem?_eq_some_iff.1 hl).1
      exact ⟨c, hIx c e pre X Y he heX hi (hs.mono (by omega) (Nat.le_refl _)), (hs.heap hl' (.inl (by omega))).trans hl, (hs.heap (by omega) (.inl (by omega))).trans hd⟩
    · rintro e pre x X he heX ⟨hi, hl, hd⟩ hpre
      rw [hs1] at he ⊢
      have hy := run_yield (P := Try.prog) (args := encs x) hl (by rw [hrec]; exact hps x)
      rw [hrec] at hy
      refine ⟨fn, _, assign, body, hy, roundIn_of_wpIn hfn (wpIn_mono (hassign _ e pre x X he heX hi hpre) ?_)⟩
      intro ex a1 X1 hp
      cases ex with
      | normal =>
        obtain ⟨hk1, hi1, ha1⟩ := hp
        have hl1 := (hk1.own _ (by omega) (by omega)).trans hl
        have hd1 := (hk1.own _ (Nat.le_refl _) (by omega)).trans hd
        have he1 : e ≤ X1.heap.size := Nat.le_trans heX hk1.size
        refine ⟨_, run_beginRound hl1 (by rw [hrec]), ?_⟩
        have hst : Stp w.heap.size e X1 (X1.putObj (w.heap.size + 1) (.loop { rec .ready none with state := .busy })) := Stp.putObj _ _ (by omega) (by omega)
        have hl2 : (X1.putObj (w.heap.size + 1) (.loop { rec .ready none with state := .busy })).heap[w.heap.size + 1]? = some (.loop { rec .ready none with state := .busy }) := World.putObj_heap_same (by omega)
        have hoth : ∀ k, k ≠ w.heap.size + 1 → (X1.putObj (w.heap.size + 1) (.loop { rec .ready none with state := .busy })).heap[k]? = X1.heap[k]? := fun k hk => World.putObj_heap_other hk
        refine wpIn_mono (hbody _ e pre x a1 _ he (by simp; exact he1) (hI e pre _ _ he he1 hi1 hst) hpre (hAx e x a1 _ _ he1 ha1 hst)) ?_
        have fin : ∀ (jump : Option Code) (X3 : World), Kpt Bn w.heap.size e (X1.putObj (w.heap.size + 1) (.loop { rec .ready none with state := .busy })) X3 →
            (Instr.endRound (w.heap.size + 1) jump).run Try.prog X3 = .ok (.bool jump.isNone) (X3.putObj (w.heap.size + 1) (.loop (rec (if jump.isNone then .ready else .done) jump))) ∧
            (X3.putObj (w.heap.size + 1) (.loop (rec (if jump.isNone then .ready else .done) jump))).heap[w.heap.size + 1]? = some (.loop (rec (if jump.isNone then .ready else .done) jump)) ∧
            (X3.putObj (w.heap.size + 1) (.loop (rec (if jump.isNone then .ready else .done) jump))).heap[w.heap.size]? = some (.deferred (some [])) ∧ e ≤ X3.heap.size ∧ X.heap.size ≤ X3.heap.size := fun jump X3 hk3 => by
          have hl3 := (hk3.own _ (by omega) (by omega)).trans hl2
          have hd3 := ((hk3.own _ (Nat.le_refl _) (by omega)).trans (hoth _ (by omega))).trans hd1
          have h := run_endRound (P := Try.prog) jump hl3
          have hz := hk3.size
          have hz1 := hk1.size
          simp only [World.putObj_size] at hz
          rw [hrec] at h ⊢
          exact ⟨h, World.putObj_heap_same (by omega), (World.putObj_heap_other (by omega)).trans hd3, by omega, by omega⟩
        have kp : ∀ {X3 : World} {o : Obj}, Kpt Bn w.heap.size e (X1.putObj (w.heap.size + 1) (.loop { rec .ready none with state := .busy })) X3 → X.heap.size ≤ X3.heap.size → Kpt Bn (w.heap.size + 2) e X (X3.putObj (w.heap.size + 1) o) := fun hk3 hz5 => by
          refine ⟨by simp; omega, ?_, fun k h1 h2 => ?_⟩
          · rw [World.putObj_heap_other (by omega), hk3.one, hoth _ (by omega), hk1.one]
          · rw [World.putObj_heap_other (by omega), hk3.own k (by omega) h2, hoth _ (by omega), hk1.own k (by omega) h2]
        rintro ex3 a3 X3 hp3
        cases ex3 with
        | normal =>
          obtain ⟨hk3, hi3⟩ := hp3
          obtain ⟨hr, hl4, hd4, hz4, hz5⟩ := fin none X3 hk3
          exact ⟨_, _, hr, .inl ⟨rfl, ⟨hI e _ _ _ he hz4 hi3 (Stp.putObj _ _ (by omega) (by omega)), hl4, hd4⟩, kp hk3 hz5⟩⟩
        | ret =>
          obtain ⟨hk3, hi3⟩ := hp3
          obtain ⟨hr, hl4, hd4, hz4, hz5⟩ := fin (some .ret) X3 hk3
          exact ⟨_, _, hr, .inr ⟨rfl, ⟨.ret, hIx _ e _ _ _ he hz4 hi3 (Stp.putObj _ _ (by omega) (by omega)), hl4, hd4⟩, kp hk3 hz5⟩⟩
        | exit id =>
          obtain ⟨hk3, hi3⟩ := hp3
          obtain ⟨hr, hl4, hd4, hz4, hz5⟩ := fin (some (.exit id)) X3 hk3
          exact ⟨_, _, hr, .inr ⟨rfl, ⟨.exit id, hIx _ e _ _ _ he hz4 hi3 (Stp.putObj _ _ (by omega) (by omega)), hl4, hd4⟩, kp hk3 hz5⟩⟩
        | goto t => exact hp3.elim
        | panic ch => exact hp3.elim
        | outgrown => exact hp3.elim
      | exit id => exact hp.elim
      | goto t => exact hp.elim
      | ret => exact hp.elim
      | panic ch => exact hp.elim
      | outgrown => exact hp.elim
    · intro e X he heX hbX
      rw [hs1] at he hbX
      exact ⟨h0 e X he heX (hb1.trans (hbX.mono (by omega))), (hbX.block _ (by omega)).trans hL1, (hbX.block _ (by omega)).trans hD1⟩
    · rintro v X2 ⟨⟨u, rfl⟩, e, he, heX, (⟨hi, hl, hd⟩ | ⟨pre, hpre, c, hi, hl, hd⟩)⟩
      · rw [hs1] at he
        have hend := run_endLoop (P := Try.prog) hl (by rw [hrec]; simp)
        rw [hrec] at hend
        exact ⟨none, _, hend, hdone e _ he (by simp; exact heX) (hI e _ _ _ he heX hi (Stp.putObj _ _ (by omega) (by omega))) ((World.putObj_heap_other (by omega)).trans hd)⟩
      · rw [hs1] at he
        have hend := run_endLoop (P := Try.prog) hl (by rw [hrec]; simp)
        rw [hrec] at hend
        exact ⟨some c, _, hend, hstop c e pre _ he (by simp; exact heX) hpre (hIx c e _ _ _ he heX hi (Stp.putObj _ _ (by omega) (by omega))) ((World.putObj_heap_other (by omega)).trans hd)⟩
end Go.Proofs.Ytjjpfpgjpmedmaa
namespace Go.Proofs.Ytjjpfpgjpmedmaa
open Go.RowKit
attribute [local go_sem] Oper.semAt_some
theorem round_any {m m' l : Nat} {fn : FuncId} {tmps : Array Value} {assign body : Code} {w : World} {R : Ending → World → Prop} (h : RoundIn Fence.wide m Try.prog l fn tmps assign body w R) : RoundIn Fence.wide m' Try.prog l fn tmps assign body w R := ⟨h.1, fun c cs _ => h.2 c cs (room_wide _)⟩
theorem BB.six {w : World} {B : Nat} {T : TypeId} {a b c d e f : Int} (h : BB w B T [a, b, c, d, e, f]) (y0 y1 y2 y3 y4 y5 : Int) : BB ((((((w.setCell ⟨B, 0, none⟩ (.int .i64 y0)).setCell ⟨B, 1, none⟩ (.int .i64 y1)).setCell ⟨B, 2, none⟩ (.int .i64 y2)).setCell ⟨B, 3, none⟩ (.int .i64 y3)).setCell ⟨B, 4, none⟩ (.int .i64 y4)).setCell ⟨B, 5, none⟩ (.int .i64 y5)) B T [y0, y1, y2, y3, y4, y5] :=
  (((((h.set 0 y0).set 1 y1).set 2 y2).set 3 y3).set 4 y4).set 5 y5
theorem BB.six_other {w : World} {B B' : Nat} {T : TypeId} {xs : List Int} (h : BB w B' T xs) (hne : B' ≠ B) (y0 y1 y2 y3 y4 y5 : Int) : BB ((((((w.setCell ⟨B, 0, none⟩ (.int .i64 y0)).setCell ⟨B, 1, none⟩ (.int .i64 y1)).setCell ⟨B, 2, none⟩ (.int .i64 y2)).setCell ⟨B, 3, none⟩ (.int .i64 y3)).setCell ⟨B, 4, none⟩ (.int .i64 y4)).setCell ⟨B, 5, none⟩ (.int .i64 y5)) B' T xs :=
  (((((h.other _ hne).other _ hne).other _ hne).other _ hne).other _ hne).other _ hne
theorem six_size {w : World} (B : Nat) (y0 y1 y2 y3 y4 y5 : Int) : ((((((w.setCell ⟨B, 0, none⟩ (.int .i64 y0)).setCell ⟨B, 1, none⟩ (.int .i64 y1)).setCell ⟨B, 2, none⟩ (.int .i64 y2)).setCell ⟨B, 3, none⟩ (.int .i64 y3)).setCell ⟨B, 4, none⟩ (.int .i64 y4)).setCell ⟨B, 5, none⟩ (.int .i64 y5)).heap.size = w.heap.size := by simp [World.setCell]
theorem six_steps {w : World} {b e B : Nat} {Q : World → Prop} (hQ : ∀ X Y, e ≤ X.heap.size → Q X → Stp b e X Y → Q Y) (hw : e ≤ w.heap.size) (h1 : b ≤ B) (h2 : B < e) (h : Q w) (y0 y1 y2 y3 y4 y5 : Int) : Q ((((((w.setCell ⟨B, 0, none⟩ (.int .i64 y0)).setCell ⟨B, 1, none⟩ (.int .i64 y1)).setCell ⟨B, 2, none⟩ (.int .i64 y2)).setCell ⟨B, 3, none⟩ (.int .i64 y3)).setCell ⟨B, 4, none⟩ (.int .i64 y4)).setCell ⟨B, 5, none⟩ (.int .i64 y5)) := by
  have st : ∀ (X : World) k v, e ≤ X.heap.size → Q X → e ≤ (X.setCell ⟨B, k, none⟩ v).heap.size ∧ Q (X.setCell ⟨B, k, none⟩ v) := fun X k v hX q => ⟨by simpa [World.setCell] using hX, hQ X _ hX q (Stp.setCell X k v h1 h2)⟩
  obtain ⟨a0, q0⟩ := st _ 0 (.int .i64 y0) hw h
  obtain ⟨a1, q1⟩ := st _ 1 (.int .i64 y1) a0 q0
  obtain ⟨a2, q2⟩ := st _ 2 (.int .i64 y2) a1 q1
  obtain ⟨a3, q3⟩ := st _ 3 (.int .i64 y3) a2 q2
  obtain ⟨a4, q4⟩ := st _ 4 (.int .i64 y4) a3 q3
  exact (st _ 5 (.int .i64 y5) a4 q4).2
theorem row_next (s : List Int) (k : Nat) : MB.row s 6 k ++ [MB.D s 6 k] = MB.row s 6 (k + 1) := by
  rw [MB.row_snoc, MB.pad_full (MB.D_length _ _ _)]
theorem row_pre (s : List Int) {k n : Nat} (h : k ≤ n) : MB.row s 6 k <+: MB.row s 6 n := by
  induction n with
  | zero => obtain rfl : k = 0 := by omega
            exact List.prefix_refl _
  | succ n ih =>
    rcases Nat.lt_or_ge k (n + 1) with g | g
    · exact (ih (by omega)).trans ⟨[MB.D s 6 n], row_next s n⟩
    · obtain rfl : k = n + 1 := by omega
      exact List.prefix_refl _
theorem D_zero (s : List Int) : ∀ i, MB.D s i 0 = List.replicate i 0
  | 0 => rfl
  | i + 1 => by rw [MB.D, Nat.zero_div, D_zero s i, Nat.zero_mod, List.replicate_succ']; rfl
theorem R_self (s : List Int) : ∀ i, MB.R s s i + 1 = MB.P s i
  | 0 => rfl
  | i + 1 => by
    have h := R_self s i
    rw [MB.R, MB.P, ← h, Nat.add_mul, Nat.one_mul]
    omega
/-- The last bundle is the supply itself. -/
theorem D_last {s : List Int} (hs : MB.okB s = true) (hl : s.length = 6) {k : Nat} (hk : k < MB.P s 6) : MB.D s 6 k = s ↔ k + 1 = MB.P s 6 := by
  constructor
  · intro h
    have h1 := MB.R_D s 6 k hk
    have h2 := R_self s 6
    rw [h] at h1
    omega
  · intro h
    have h2 := R_self s 6
    have e : k = MB.R s s 6 := by omega
    subst e
    exact MB.ext6 (MB.D_length _ _ _) hl (MB.D_R s s 6 fun j hj => ⟨(okB_at hs (k := j) (by omega)).1, Nat.le_refl _⟩)
/-- The bundle that a block holds. -/
def rdB (w : World) (B : Nat) : List Int := match w.heap[B]? with
  | some (.cells cs _ _) => cs.toList.map intOf
  | _ => []
theorem rdB_of {w : World} {B : Nat} {T : TypeId} {xs : List Int} (h : BB w B T xs) : rdB w B = xs := by
  unfold rdB
  rw [h.1]
  simp only [cellsB, List.map_map]
  exact (List.map_congr_left fun x _ => rfl).trans (List.map_id xs)
theorem run_neq_lit (a b c d e f a' b' c' d' e' f' : Int) (w : World) : (Op.equalIn 10000 24 (.agg #[.int .i64 a, .int .i64 b, .int .i64 c, .int .i64 d, .int .i64 e, .int .i64 f]) (.agg #[.int .i64 a', .int .i64 b', .int .i64 c', .int .i64 d', .int .i64 e', .int .i64 f'])).run Try.prog w = .ok (decide ([a, b, c, d, e, f] = [a', b', c', d', e', f'])) w := run_same [a, b, c, d, e, f] [a', b', c', d', e', f'] rfl rfl w
set_option maxRecDepth 100000 in
set_option maxHeartbeats 4000000 in
theorem upTo_iter (a b c d e f : Int) (hs : MB.okB [a, b, c, d, e, f] = true) (Bn : Nat) (w : World) (hbox : BB w Bn 24 [a, b, c, d, e, f]) :
    Iter 106 #[.pointer (some ⟨Bn, 0, none⟩)] (fun x => #[aggB x]) (MB.row [a, b, c, d, e, f] 6 (MB.P [a, b, c, d, e, f] 6)) Bn w := by
  intro l W J Jx hW hJ hJx hY h0
  show CallsIn Fence.wide 5 Try.prog 106 #[.func (.yield l) #[] #[], .pointer (some ⟨Bn, 0, none⟩)] W _
  have HJ := Lib.hid hJ
  have HJx := Lib.hid hJx
  have HY := Lib.hid hY
  have H0 := Lib.hid h0
  have HBn := Lib.hid (hbox.keep hW hbox.lt)
  have HNx := Lib.hid (fun (x0 x1 x2 x3 x4 x5 : Int) n hn hb w => next_any x0 x1 x2 x3 x4 x5 a b c d e f n hs hn hb w)
  have HLa := Lib.hid (fun k hk => D_last (s := [a, b, c, d, e, f]) (k := k) hs rfl hk)
  have HP1 := MB.P_pos [a, b, c, d, e, f] 6
  have HEq := Lib.hid (fun x0 x1 x2 x3 x4 x5 w => run_neq_lit x0 x1 x2 x3 x4 x5 a b c d e f w)
  clear hJ hJx hY h0 hbox hW hs
  obtain ⟨s, hs⟩ : ∃ s, [a, b, c, d, e, f] = s := ⟨_, rfl⟩
  rw [hs] at HY HBn HNx HLa HP1 HEq ⊢
  have HS := Lib.hid hs
  clear hs
  obtain ⟨R, hR⟩ : ∃ R : Ending → World → Prop, (fun v Y => (∃ u, v = Ending.returned u) ∧ ∃ e, W.heap.size ≤ e ∧ e ≤ Y.heap.size ∧ (J e (MB.row s 6 (MB.P s 6)) Y ∨ ∃ pre, pre <+: MB.row s 6 (MB.P s 6) ∧ Jx e pre Y)) = R := ⟨_, rfl⟩
  rw [hR]
  have HR := Lib.hid hR
  clear hR
  refine callsIn_of_wp Try.func106 rfl trivial ?_ rfl
  simp only [Try.ntmps106, List.size_toArray, List.length_cons, List.length_nil, Nat.reduceAdd, Nat.reduceSub, Array.replicate_succ, Array.replicate_zero, List.push_toArray, List.append_toArray, List.nil_append, List.cons_append]
  gi_wp2
  have B1 := Lib.hid (BB.new W 24 0 0 0 0 0 0)
  rw [show ([0, 0, 0, 0, 0, 0] : List Int) = MB.D s 6 0 from (D_zero s 6).symm] at B1
  have N1 := Lib.hid (HBn.out.alloc (.cells #[.int .i64 0, .int .i64 0, .int .i64 0, .int .i64 0, .int .i64 0, .int .i64 0] 24))
  have J1 := Lib.hid (H0.out (W.heap.size + 1) (W.alloc (.cells #[.int .i64 0, .int .i64 0, .int .i64 0, .int .i64 0, .int .i64 0, .int .i64 0] 24)) (by omega) (by simp) (below_new _ _))
  have hs1 : W.heap.size + 1 ≤ (W.alloc (.cells #[.int .i64 0, .int .i64 0, .int .i64 0, .int .i64 0, .int .i64 0, .int .i64 0] 24)).heap.size := by simp
  have hBnW := HBn.out.lt
  generalize W.alloc (.cells #[.int .i64 0, .int .i64 0, .int .i64 0, .int .i64 0, .int .i64 0, .int .i64 0] 24) = W1 at *
  clear H0 HBn
  gi_loopw [6] (fun _ wr => ∃ k : Nat, k < MB.P s 6 ∧ BB wr W.heap.size 24 (MB.D s 6 k) ∧ BB wr Bn 24 s ∧ J (W.heap.size + 1) (MB.row s 6 k) wr ∧ W.heap.size + 1 ≤ wr.heap.size) (fun _ wr => MB.P s 6 - MB.R s (rdB wr W.heap.size) 6)
  case atStart => exact ⟨0, HP1, B1.out, N1.out, J1.out, hs1⟩
  case round =>
    obtain ⟨k, hk, hbb, hbn, hj, hsz⟩ := hrel
    have G := Lib.hid hbb
    have GN := Lib.hid hbn
    have HJk := Lib.hid hj
    clear hbb hbn hj B1 N1 J1 hs1
    obtain ⟨z0, z1, z2, z3, z4, z5, hz⟩ := six (MB.D_length s 6 k)
    obtain ⟨fn, tmps, assign, body, hy, hRd⟩ := HY.out (W.heap.size + 1) (MB.row s 6 k) (MB.D s 6 k) wr (by omega) hsz HJk.out (by rw [row_next]; exact row_pre s hk)
    rw [hz, aggB_lit] at hy
    have HRd := Lib.hid hRd
    have HZ := Lib.hid hz
    obtain ⟨c0, c1, c2, c3, c4, c5⟩ := cells6 (by have h := G.out; rw [hz] at h; exact h : BB wr W.heap.size 24 [z0, z1, z2, z3, z4, z5])
    clear hz hRd
    gi_wp2
    refine (round_any HRd.out).mono ?_
    rintro ev W3 (⟨rfl, hJ3, hk3⟩ | ⟨rfl, hJx3, hk3⟩)
    · have G3 : BB W3 W.heap.size 24 [z0, z1, z2, z3, z4, z5] := by rw [← HZ.out]; exact ⟨(hk3.own _ (Nat.le_refl _) (by omega)).trans G.out.1, G.out.2⟩
      have N3 : BB W3 Bn 24 s := ⟨hk3.one.trans GN.out.1, GN.out.2⟩
      have N3' : BB W3 Bn 24 [a, b, c, d, e, f] := by rw [HS.out]; exact N3
      have hsz3 := hk3.size
      rw [row_next] at hJ3
      have HJ3 := Lib.hid hJ3
      have q1 := HEq.out z0 z1 z2 z3 z4 z5
      obtain ⟨d0, d1, d2, d3, d4, d5⟩ := cells6 G3
      obtain ⟨e0, e1, e2, e3, e4, e5⟩ := cells6 N3'
      by_cases hlast : k + 1 = MB.P s 6
      · have hd : decide ([z0, z1, z2, z3, z4, z5] = s) = true := by rw [← HZ.out]; exact decide_eq_true ((HLa.out k hk).2 hlast)
        rw [hd] at q1
        have HJ4 := Lib.hid (hlast ▸ HJ3.out)
        clear hd hlast hJ3 hk3 hy
        gi_wp2
        go_end0
        rw [← HR.out]
        exact ⟨⟨_, rfl⟩, W.heap.size + 1, by omega, by omega, .inl HJ4.out⟩
      · have hd : decide ([z0, z1, z2, z3, z4, z5] = s) = false := by rw [← HZ.out]; exact decide_eq_false fun h => hlast ((HLa.out k hk).1 h)
        rw [hd] at q1
        have hk1 : k + 1 < MB.P s 6 := by omega
        have HNk := Lib.hid (HNx.out z0 z1 z2 z3 z4 z5 k hk1 HZ.out.symm)
        clear hd hlast hJ3 hk3 hy
        obtain ⟨y0, y1, y2, y3, y4, y5, hy5⟩ := six (MB.D_length s 6 (k + 1))
        rw [hy5, aggB_lit] at HNk
        have HY5 := Lib.hid hy5
        have HG3 := Lib.hid G3
        have HN3 := Lib.hid N3
        clear hy5 c0 c1 c2 c3 c4 c5 G3 N3 N3' GN
        gi_wp2_with fail
        refine ⟨trivial, (callsIn_wide.2 (HNk.out _)).mono ?_⟩
        rintro ev4 W4 ⟨rfl, hb⟩
        have G4 := Lib.hid (HG3.out.keep hb HG3.out.lt)
        have N4 := Lib.hid (HN3.out.keep hb HN3.out.lt)
        have J4 := Lib.hid (HJ.out (W.heap.size + 1) _ W3 W4 (by omega) (by omega) HJ3.out (Stp.below hb))
        have hz4 := hb.size
        clear hb d0 d1 d2 d3 d4 d5 e0 e1 e2 e3 e4 e5 HG3 HN3 HJ3
        obtain ⟨d0, d1, d2, d3, d4, d5⟩ := cells6 G4.out
        obtain ⟨g0, g1, g2, g3, g4, g5⟩ := free6 G4.out
        have hlt4 := G4.out.lt
        gi_wp2
        go_roundw
        case rel => exact ⟨k + 1, hk1, by rw [HY5.out]; exact G4.out.six _ _ _ _ _ _, N4.out.six_other (by omega) _ _ _ _ _ _, six_steps (fun X Y hX h hs => HJ.out (W.heap.size + 1) _ X Y (by omega) hX h hs) (by omega) (Nat.le_refl _) (by omega) J4.out _ _ _ _ _ _, by rw [six_size]; omega⟩
        case measure =>
          rw [rdB_of (G4.out.six y0 y1 y2 y3 y4 y5), rdB_of G.out, ← HY5.out, MB.R_D s 6 (k + 1) hk1, MB.R_D s 6 k hk]
          omega
    · have hsz3 := hk3.size
      clear hy c0 c1 c2 c3 c4 c5 hk3
      gi_wp2
      go_end0
      rw [← HR.out]
      exact ⟨⟨_, rfl⟩, W.heap.size + 1, by omega, by omega, .inr ⟨_, by rw [row_next]; exact row_pre s hk, hJx3⟩⟩
end Go.Proofs.Ytjjpfpgjpmedmaa
namespace Go.Proofs.Ytjjpfpgjpmedmaa
open Go.RowKit
attribute [local go_sem] Oper.semAt_some
theorem upTo_any (a b c d e f : Int) (w : World) : Calls Try.prog 96 #[.agg #[.int .i64 a, .int .i64 b, .int .i64 c, .int .i64 d, .int .i64 e, .int .i64 f]] w fun v w' => v = .returned (.func (.func 106) #[] #[.pointer (some ⟨w.heap.size, 0, none⟩)]) ∧ w' = w.alloc (.cells #[.int .i64 a, .int .i64 b, .int .i64 c, .int .i64 d, .int .i64 e, .int .i64 f] 24) := by
  have hmf : ∀ (fn : Fn) (first cap : Array Value) (w : World), (Instr.makeFunc fn first cap).run Try.prog w = .ok (.func fn first cap) w := fun _ _ _ _ => rfl
  go_enter Try.func96, Try.ntmps96
  go_wp2
  go_ret
  exact ⟨rfl, rfl⟩
theorem all_any (a b c d e f : Int) (w : World) : Calls Try.prog 80 #[.agg #[.int .i64 a, .int .i64 b, .int .i64 c, .int .i64 d, .int .i64 e, .int .i64 f]] w fun v w' => v = .returned (.func (.func 95) #[] #[.pointer (some ⟨w.heap.size, 0, none⟩)]) ∧ w' = w.alloc (.cells #[.int .i64 a, .int .i64 b, .int .i64 c, .int .i64 d, .int .i64 e, .int .i64 f] 24) := by
  have hmf : ∀ (fn : Fn) (first cap : Array Value) (w : World), (Instr.makeFunc fn first cap).run Try.prog w = .ok (.func fn first cap) w := fun _ _ _ _ => rfl
  go_enter Try.func80, Try.ntmps80
  go_wp2
  go_ret
  exact ⟨rfl, rfl⟩
/-- What an iterator that runs another leaves. -/
def RI (J Jx : Nat → List (List Int) → World → Prop) (xs : List (List Int)) (b : Nat) (v : Ending) (Y : World) : Prop := (∃ u, v = .returned u) ∧ ∃ e, b ≤ e ∧ e ≤ Y.heap.size ∧ (J e xs Y ∨ ∃ pre, pre <+: xs ∧ Jx e pre Y)
set_option maxRecDepth 100000 in
set_option maxHeartbeats 4000000 in
theorem all_iter_yes (a b c d e f : Int) (hs : MB.okB [a, b, c, d, e, f] = true ∧ MB.P [a, b, c, d, e, f] 6 ≤ 1024) (Bn : Nat) (w : World) (hbox : BB w Bn 24 [a, b, c, d, e, f]) :
    Iter 95 #[.pointer (some ⟨Bn, 0, none⟩)] (fun x => #[aggB x]) (MB.row [a, b, c, d, e, f] 6 (MB.P [a, b, c, d, e, f] 6)) Bn w := by
  intro l W J Jx hW hJ hJx hY h0
  show CallsIn Fence.wide 5 Try.prog 95 #[.func (.yield l) #[] #[], .pointer (some ⟨Bn, 0, none⟩)] W (RI J Jx (MB.row [a, b, c, d, e, f] 6 (MB.P [a, b, c, d, e, f] 6)) W.heap.size)
  have HJ := Lib.hid hJ
  have HJx := Lib.hid hJx
  have HY := Lib.hid hY
  have H0 := Lib.hid h0
  have HCt := Lib.hid (fun w => count_any a b c d e f w)
  rw [cnt_yes hs.1 hs.2] at HCt
  have hP := P_pos' [a, b, c, d, e, f] 6
  have HO := Lib.hid hs.1
  have HBn := Lib.hid (hbox.keep hW hbox.lt)
  have HAl := Lib.hid (row_all [a, b, c, d, e, f] 6 (MB.P [a, b, c, d, e, f] 6) (by decide))
  obtain ⟨xs, hxs⟩ : ∃ xs, xs = MB.row [a, b, c, d, e, f] 6 (MB.P [a, b, c, d, e, f] 6) := ⟨_, rfl⟩
  rw [← hxs] at HY HAl ⊢
  have HXS := Lib.hid hxs
  clear hJ hJx hY h0 hbox hW hs hxs
  generalize ((MB.P [a, b, c, d, e, f] 6 : Nat) : Int) = P at *
  have hq : (P == 0) = false := by simp; omega
  have hmf : ∀ (fn : Fn) (first cap : Array Value) (w : World), (Instr.makeFunc fn first cap).run Try.prog w = .ok (.func fn first cap) w := fun _ _ _ _ => rfl
  refine callsIn_of_wp_marks Try.func95 rfl trivial ?_ rfl
  simp only [Try.ntmps95, List.size_toArray, List.length_cons, List.length_nil, Nat.reduceAdd, Nat.reduceSub, Array.replicate_succ, Array.replicate_zero, List.push_toArray, List.append_toArray, List.nil_append, List.cons_append]
  obtain ⟨c0, c1, c2, c3, c4, c5⟩ := cells6 HBn.out
  have hBn := HBn.out.lt
  gi_wp2_with fail
  refine ⟨trivial, (callsIn_wide.2 (HCt.out _)).mono ?_⟩
  rintro ev1 W1 ⟨rfl, hb⟩
  have Y1 := Lib.hid (Boxed.new W 122 (.func (.yield l) #[] #[]))
  have Bw := Lib.hid (below_new W (.cells #[.func (.yield l) #[] #[]] 122))
  have N1 := Lib.hid (((HBn.out.alloc (.cells #[.func (.yield l) #[] #[]] 122))).keep hb (by simp; omega))
  have Y2 := Lib.hid (Y1.out.kept (W' := W1) (row := none) ⟨hb.os, hb.tape, hb.output, hb.size, fun k hk _ => hb.block k hk⟩ (by simp))
  have Bw1 := Lib.hid (Bw.out.trans (hb.mono Bw.out.size))
  clear hb c0 c1 c2 c3 c4 c5 HBn Y1 Bw
  obtain ⟨c0, c1, c2, c3, c4, c5⟩ := cells6 N1.out
  gi_wp2_with fail
  refine ⟨trivial, (callsIn_wide.2 (upTo_any a b c d e f _)).mono ?_⟩
  rintro ev2 W2 ⟨rfl, rfl⟩
  have Bi := Lib.hid (BB.new W1 24 a b c d e f)
  have Y3 := Lib.hid (Y2.out.alloc (.cells #[.int .i64 a, .int .i64 b, .int .i64 c, .int .i64 d, .int .i64 e, .int .i64 f] 24))
  have Bw2 := Lib.hid (Bw1.out.alloc Bw1.out.size (.cells #[.int .i64 a, .int .i64 b, .int .i64 c, .int .i64 d, .int .i64 e, .int .i64 f] 24))
  have hz1 := Bw1.out.size
  have hz2 := Y2.out.lt
  have hz3 : (W1.alloc (.cells #[.int .i64 a, .int .i64 b, .int .i64 c, .int .i64 d, .int .i64 e, .int .i64 f] 24)).heap.size = W1.heap.size + 1 := by simp
  clear c0 c1 c2 c3 c4 c5 N1 Y2 Bw1
  generalize W1.alloc (.cells #[.int .i64 a, .int .i64 b, .int .i64 c, .int .i64 d, .int .i64 e, .int .i64 f] 24) = W2 at *
  generalize W1.heap.size = g1 at *
  gi_wp2_with fail
  refine range_law (gf := 106) (lb := #[.pointer (some ⟨g1, 0, none⟩)]) (encs := fun x => #[aggB x]) (xs := xs) (Bn := g1) rfl (enters_of Try.func106 (by kernel_rfl) rfl)
    (by rw [HXS.out]; exact upTo_iter a b c d e f HO.out g1 W2 Bi.out) (by omega) (fun _ => rfl)
    (fun e pre X => J e pre X ∧ Boxed X W.heap.size 122 (.func (.yield l) #[] #[]))
    (fun c e pre X => c = .ret ∧ Jx e pre X)
    ?hI ?hIx ?h0
    (fun k0 x a' X => ∃ Bx, k0 ≤ Bx ∧ BB X Bx 24 x ∧ a' = { tmps := #[.func (.yield l) #[] #[], .pointer (some ⟨Bn, 0, none⟩), .pointer (some ⟨W.heap.size, 0, none⟩), .pointer (some ⟨Bx, 0, none⟩), .agg #[.int .i64 a, .int .i64 b, .int .i64 c, .int .i64 d, .int .i64 e, .int .i64 f], .int .i64 P, .bool false, .agg #[.int .i64 a, .int .i64 b, .int .i64 c, .int .i64 d, .int .i64 e, .int .i64 f], .func (.func 106) #[] #[.pointer (some ⟨g1, 0, none⟩)], aggB x, undef, undef, undef, undef], defers := [] })
    ?hAx ?assign ?body ?done ?stop
  case hI =>
    rintro e pre X Y he heX ⟨hj, hb⟩ hs
    exact ⟨HJ.out e pre X Y (by omega) heX hj (hs.mono (by omega) (Nat.le_refl _)), (hs.heap hb.lt (.inl (by omega))).trans hb⟩
  case hIx =>
    rintro c e pre X Y he heX ⟨rfl, hj⟩ hs
    exact ⟨rfl, HJx.out e pre X Y (by omega) heX hj (hs.mono (by omega) (Nat.le_refl _))⟩
  case h0 =>
    intro e X he heX hb
    exact ⟨H0.out e X (by omega) heX (Bw2.out.trans (hb.mono (by omega))), (hb.block _ (by omega)).trans Y3.out⟩
  case hAx =>
    rintro e x a' X Y heX ⟨Bx, h1, h2, rfl⟩ hs
    exact ⟨Bx, h1, ⟨(hs.heap h2.lt (.inr h1)).trans h2.1, h2.2⟩, rfl⟩
  case assign =>
    rintro l' e pre x X he heX hi hpre
    have hx6 : x.length = 6 := HAl.out x (hpre.subset (by simp))
    obtain ⟨x0, x1, x2, x3, x4, x5, rfl⟩ := six hx6
    clear hpre hx6
    simp only [aggB_lit]
    obtain ⟨hj, hb⟩ := hi
    gi_wp2
    exact ⟨Kpt.alloc X _ (by omega) heX, ⟨HJ.out e pre X _ (by omega) heX hj (Stp.alloc _ _ _ _), hb.alloc _⟩, X.heap.size, heX, BB.new X _ _ _ _ _ _ _, rfl⟩
  case body =>
    rintro l' e pre x a' X he heX ⟨hj, hb⟩ hpre ⟨Bx, hBx, hbx, rfl⟩
    have hx6 : x.length = 6 := HAl.out x (hpre.subset (by simp))
    obtain ⟨fn, tmps, assign, body, hy, hRd⟩ := HY.out e pre x X (by omega) heX hj hpre
    obtain ⟨x0, x1, x2, x3, x4, x5, rfl⟩ := six hx6
    rw [aggB_lit] at hy
    simp only [aggB_lit]
    have HRd := Lib.hid hRd
    have HB := Lib.hid hb
    obtain ⟨c0, c1, c2, c3, c4, c5⟩ := cells6 hbx
    have cy := hb.cell
    clear hRd hpre hx6 hb
    gi_wp2_with fail
    refine (round_any HRd.out).mono ?_
    have kpt : ∀ {Y : World}, Kpt Bn W.heap.size e X Y → Kpt g1 W2.heap.size e X Y := fun hk => ⟨hk.size, hk.own _ (by omega) (by omega), fun k h1 h2 => hk.own k (by omega) h2⟩
    rintro ev Y (⟨rfl, hj2, hk⟩ | ⟨rfl, hj2, hk⟩)
    · have hb2 := (hk.own W.heap.size (Nat.le_refl _) (by omega)).trans HB.out
      gi_wp2
      exact ⟨kpt hk, hj2, hb2⟩
    · gi_wp2
      exact ⟨kpt hk, rfl, hj2⟩
  case done =>
    rintro e Y he heY ⟨hj, _⟩ hD
    refine ⟨by simp, .inl ⟨_, _, rfl, run_takeDeferred hD, ?_⟩⟩
    refine ⟨_, results_none rfl _ _ _, ⟨_, rfl⟩, e, by omega, by simp; exact heY, .inl (HJ.out e _ Y _ (by omega) heY hj (Stp.putObj _ _ (by omega) (by omega)))⟩
  case stop =>
    rintro c e pre Y he heY hpre ⟨rfl, hj⟩ hD
    gi_wp2
    refine ⟨by simp, .inl ⟨_, _, rfl, run_takeDeferred hD, ?_⟩⟩
    refine ⟨_, results_none rfl _ _ _, ⟨_, rfl⟩, e, by omega, by simp; exact heY, .inr ⟨pre, hpre, HJx.out e _ Y _ (by omega) heY hj (Stp.putObj _ _ (by omega) (by omega))⟩⟩
set_option maxRecDepth 100000 in
set_option maxHeartbeats 4000000 in
theorem all_iter_no (a b c d e f : Int) (hs : ¬ (MB.okB [a, b, c, d, e, f] = true ∧ MB.P [a, b, c, d, e, f] 6 ≤ 1024)) (Bn : Nat) (w : World) (hbox : BB w Bn 24 [a, b, c, d, e, f]) :
    Iter 95 #[.pointer (some ⟨Bn, 0, none⟩)] (fun x => #[aggB x]) [] Bn w := by
  intro l W J Jx hW hJ hJx hY h0
  show CallsIn Fence.wide 5 Try.prog 95 #[.func (.yield l) #[] #[], .pointer (some ⟨Bn, 0, none⟩)] W (RI J Jx [] W.heap.size)
  have H0 := Lib.hid h0
  have HCt := Lib.hid (fun w => count_any a b c d e f w)
  rw [cnt_no hs] at HCt
  have HBn := Lib.hid (hbox.keep hW hbox.lt)
  clear hJ hJx hY h0 hbox hW hs
  refine callsIn_of_wp_marks Try.func95 rfl trivial ?_ rfl
  simp only [Try.ntmps95, List.size_toArray, List.length_cons, List.length_nil, Nat.reduceAdd, Nat.reduceSub, Array.replicate_succ, Array.replicate_zero, List.push_toArray, List.append_toArray, List.nil_append, List.cons_append]
  obtain ⟨c0, c1, c2, c3, c4, c5⟩ := cells6 HBn.out
  have hBn := HBn.out.lt
  gi_wp2_with fail
  refine ⟨trivial, (callsIn_wide.2 (HCt.out _)).mono ?_⟩
  rintro ev1 W1 ⟨rfl, hb⟩
  have Bw := Lib.hid ((below_new W (.cells #[.func (.yield l) #[] #[]] 122)).trans (hb.mono (by simp)))
  clear hb
  gi_wp2
  refine ⟨_, results_none rfl _ _ _, ⟨_, rfl⟩, W.heap.size, Nat.le_refl _, Bw.out.size, .inl (H0.out _ _ (Nat.le_refl _) Bw.out.size Bw.out)⟩
theorem all_iter (a b c d e f : Int) (Bn : Nat) (w : World) (hbox : BB w Bn 24 [a, b, c, d, e, f]) :
    Iter 95 #[.pointer (some ⟨Bn, 0, none⟩)] (fun x => #[aggB x]) (listB [a, b, c, d, e, f]) Bn w := by
  by_cases hs : MB.okB [a, b, c, d, e, f] = true ∧ MB.P [a, b, c, d, e, f] 6 ≤ 1024
  · rw [list_yes' hs]; exact all_iter_yes a b c d e f hs Bn w hbox
  · rw [list_no' hs]; exact all_iter_no a b c d e f hs Bn w hbox
end Go.Proofs.Ytjjpfpgjpmedmaa
