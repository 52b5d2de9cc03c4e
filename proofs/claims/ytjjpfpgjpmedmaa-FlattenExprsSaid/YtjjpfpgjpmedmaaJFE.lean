/- FIter2, FChunk, joined: no claim of its own. -/
import Derived.Test.YtjjpfpgjpmedmaaJBA
import Derived.Test.YtjjpfpgjpmedmaaJFD
namespace Go.Proofs.Ytjjpfpgjpmedmaa
open Go.RowKit
/-- What a round keeps for the iterator: block Bn, and the iterator's own, from b to below e. -/
structure Kpt2 (Bn : Nat → Prop) (b e : Nat) (X Y : World) : Prop where
  size : X.heap.size ≤ Y.heap.size
  one : ∀ k, Bn k → Y.heap[k]? = X.heap[k]?
  own : ∀ k, b ≤ k → k < e → Y.heap[k]? = X.heap[k]?
theorem Kpt2.refl (Bn : Nat → Prop) (b e : Nat) (X : World) : Kpt2 Bn b e X X := ⟨Nat.le_refl _, fun _ _ => rfl, fun _ _ _ => rfl⟩
theorem Kpt2.trans {Bn : Nat → Prop} {b e : Nat} {X Y Z : World} (h : Kpt2 Bn b e X Y) (k : Kpt2 Bn b e Y Z) : Kpt2 Bn b e X Z :=
  ⟨Nat.le_trans h.size k.size, fun j hj => (k.one j hj).trans (h.one j hj), fun j h1 h2 => (k.own j h1 h2).trans (h.own j h1 h2)⟩
theorem Kpt2.alloc {Bn : Nat → Prop} {b e : Nat} (X : World) (o : Obj) (h1 : ∀ k, Bn k → k < X.heap.size) (h2 : e ≤ X.heap.size) : Kpt2 Bn b e X (X.alloc o) :=
  ⟨by simp, fun k hk => Below.heap_alloc X o k (h1 k hk), fun k _ hk => Below.heap_alloc X o k (by omega)⟩
theorem Kpt2.below {Bn : Nat → Prop} {b e n : Nat} {X Y : World} (h : Below n X Y) (h1 : ∀ k, Bn k → k < n) (h2 : e ≤ n) : Kpt2 Bn b e X Y :=
  ⟨h.size, fun k hk => h.block k (h1 k hk), fun k _ hk => h.block k (by omega)⟩
theorem Kpt2.setCell {Bn : Nat → Prop} {b e g : Nat} (X : World) (k : Nat) (v : Value) (h1 : ∀ k, Bn k → k ≠ g) (h2 : g < b ∨ e ≤ g) : Kpt2 Bn b e X (X.setCell ⟨g, k, none⟩ v) :=
  ⟨(KeepsWalks.setCell X _ v).size, fun k hk => Below.heap_setCell _ _ _ k (h1 k hk), fun j j1 j2 => Below.heap_setCell _ _ _ j (by show j ≠ g; omega)⟩
/-- The promise of an iterator that hands out xs, one after another, until a round says no more. -/
def Iter2 {α : Type} (gf : Nat) (lb : Array Value) (encs : α → Array Value) (xs : List α) (Bn : Nat → Prop) (w : World) : Prop :=
  ∀ (l : Nat) (W : World) (J Jx : Nat → List α → World → Prop), Below w.heap.size w W →
    (∀ e pre X Y, W.heap.size ≤ e → e ≤ X.heap.size → J e pre X → Stp W.heap.size e X Y → J e pre Y) →
    (∀ e pre X Y, W.heap.size ≤ e → e ≤ X.heap.size → Jx e pre X → Stp W.heap.size e X Y → Jx e pre Y) →
    (∀ e pre x X, W.heap.size ≤ e → e ≤ X.heap.size → J e pre X → (pre ++ [x]) <+: xs → YieldAt Fence.wide 5 Try.prog l (encs x) X fun v Y =>
      (v = .returned (.bool true) ∧ J e (pre ++ [x]) Y ∧ Kpt2 Bn W.heap.size e X Y) ∨ (v = .returned (.bool false) ∧ Jx e (pre ++ [x]) Y ∧ Kpt2 Bn W.heap.size e X Y)) →
    (∀ e X, W.heap.size ≤ e → e ≤ X.heap.size → Below W.heap.size W X → J e [] X) →
    CallsIn Fence.wide 5 Try.prog gf (#[.func (.yield l) #[] #[]] ++ lb) W fun v Y => (∃ u, v = .returned u) ∧ ∃ e, W.heap.size ≤ e ∧ e ≤ Y.heap.size ∧ (J e xs Y ∨ ∃ pre, pre <+: xs ∧ Jx e pre Y)
/-- How a round may be left. -/
def leftBy2 {α : Type} (Bn : Nat → Prop) (b e : Nat) (I : Nat → List α → World → Prop) (Ix : Code → Nat → List α → World → Prop) (pre : List α) (X : World) : Exit → Act → World → Prop
  | .normal, _, Y => Kpt2 Bn b e X Y ∧ I e pre Y
  | .ret, _, Y => Kpt2 Bn b e X Y ∧ Ix .ret e pre Y
  | .exit id, _, Y => Kpt2 Bn b e X Y ∧ Ix (.exit id) e pre Y
  | _, _, _ => False
/-- The statement 'for .. := range g { .. }' over such an iterator, in no round. -/
theorem range_law2 {α : Type} {g : Operand} {ps : Array Tmp} {assign body : Code} {Q : Exit → Act → World → Prop} {a : Act} {w : World} {gf : Nat} {lb : Array Value} {encs : α → Array Value} {xs : List α} {Bn : Nat → Prop}
    (hg : a.eval g = .func (.func gf) #[] lb) (eg : ∀ args w, (callFunc gf args).run Try.prog w = .ok (.enter gf args) w) (hit : Iter2 gf lb encs xs Bn w) (hBn : ∀ k, Bn k → k < w.heap.size) (hps : ∀ x, (encs x).size = ps.size)
    (I : Nat → List α → World → Prop) (Ix : Code → Nat → List α → World → Prop)
    (hI : ∀ e pre X Y, w.heap.size + 2 ≤ e → e ≤ X.heap.size → I e pre X → Stp w.heap.size e X Y → I e pre Y)
    (hIx : ∀ c e pre X Y, w.heap.size + 2 ≤ e → e ≤ X.heap.size → Ix c e pre X → Stp w.heap.size e X Y → Ix c e pre Y)
    (h0 : ∀ e X, w.heap.size + 2 ≤ e → e ≤ X.heap.size → Below w.heap.size w X → I e [] X)
    (Ax : Nat → α → Act → World → Prop) (hAx : ∀ e x a' X Y, e ≤ X.heap.size → Ax e x a' X → Stp w.heap.size e X Y → Ax e x a' Y)
    (hassign : ∀ l e pre x X, w.heap.size + 2 ≤ e → e ≤ X.heap.size → I e pre X → (pre ++ [x]) <+: xs →
      assign.wpIn (Fence.wide.inRound l) 5 Try.prog (Exit.then (fun a' X' => Kpt2 Bn w.heap.size e X X' ∧ I e pre X' ∧ Ax e x a' X') (fun _ _ _ => False)) { tmps := (ps.zip (encs x)).foldl (fun t (p, v) => t.setIfInBounds p v) a.tmps, defers := [] } X)
    (hbody : ∀ l e pre x a' X, w.heap.size + 2 ≤ e → e ≤ X.heap.size → I e pre X → (pre ++ [x]) <+: xs → Ax e x a' X →
      body.wpIn (Fence.wide.inRound l) 5 Try.prog (leftBy2 Bn w.heap.size e I Ix (pre ++ [x]) X) a' X)
    (hdone : ∀ e Y, w.heap.size + 2 ≤ e → e ≤ Y.heap.size → I e xs Y → Y.heap[w.heap.size]? = some (.deferred (some [])) → Q .normal { a with defers := { target := .collected w.heap.size, args := #[] } :: a.defers } Y)
    (hstop : ∀ c e pre Y, w.heap.size + 2 ≤ e → e ≤ Y.heap.size → pre <+: xs → Ix c e pre Y → Y.heap[w.heap.size]? = some (.deferred (some [])) → c.wpIn Fence.wide 5 Try.prog Q { a with defers := { target := .collected w.heap.size, args := #[] } :: a.defers } Y) :
    (Code.rangeFunc g ps assign body).wpIn Fence.wide 5 Try.prog Q a w := by
  refine wpIn_rangeFunc fun fn hfn => ?_
  obtain ⟨rec, hrec⟩ : ∃ rec : LoopState → Option Code → Loop, rec = fun st pe => { state := st, pending := pe, fn, tmps := a.tmps, params := ps, assign, body, defers := w.heap.size } := ⟨_, rfl⟩
  obtain ⟨W1, hW1⟩ : ∃ W1, (w.alloc (.deferred (some []))).alloc (.loop (rec .ready none)) = W1 := ⟨_, rfl⟩
  have hs1 : W1.heap.size = w.heap.size + 2 := by rw [← hW1]; simp
  have hL1 : W1.heap[w.heap.size + 1]? = some (.loop (rec .ready none)) := by
    rw [← hW1]; have := World.alloc_heap_new (w.alloc (.deferred (some []))) (.loop (rec .ready none)); rwa [World.size_alloc] at this
  have hD1 : W1.heap[w.heap.size]? = some (.deferred (some [])) := by
    rw [← hW1]; exact (Below.heap_alloc _ _ _ (by simp)).trans (World.alloc_heap_new w _)
  have hb1 : Below w.heap.size w W1 := by
    rw [← hW1]; exact ((Below.refl _ w).alloc (Nat.le_refl _) _).alloc (by simp) _
  refine ⟨w.heap.size + 1, [{ target := .collected w.heap.size, args := #[] }], W1, { target := .fn (.func gf) lb, args := #[.func (.yield (w.heap.size + 1)) #[] #[]] }, W1, gf,
    #[.func (.yield (w.heap.size + 1)) #[] #[]] ++ lb, W1, ?_, ?_, ?_, ?_, (fun _ => by decide), ?_⟩
  · rw [← hW1, hrec]; exact run_enterLoop_outer _ _ _ _ _
  · simp only [resolve, hg]
    simp [go_sem]
  · intro f' _; trivial
  · simp [invoke, go_sem, eg]
  · refine deep_any ((hit (w.heap.size + 1) W1
      (fun e pre X => I e pre X ∧ X.heap[w.heap.size + 1]? = some (.loop (rec .ready none)) ∧ X.heap[w.heap.size]? = some (.deferred (some [])))
      (fun e pre X => ∃ c, Ix c e pre X ∧ X.heap[w.heap.size + 1]? = some (.loop (rec .done (some c))) ∧ X.heap[w.heap.size]? = some (.deferred (some [])))
      hb1 ?_ ?_ ?_ ?_).mono ?_)
    · rintro e pre X Y he heX ⟨hi, hl, hd⟩ hs
      rw [hs1] at he hs
      have hl' := (Array.getElem?_eq_some_iff.1 hl).1
      exact ⟨hI e pre X Y he heX hi (hs.mono (by omega) (Nat.le_refl _)), (hs.heap hl' (.inl (by omega))).trans hl, (hs.heap (by omega) (.inl (by omega))).trans hd⟩
    · rintro e pre X Y he heX ⟨c, hi, hl, hd⟩ hs
      rw [hs1] at he hs
      have hl' := (Array.getElem?_eq_some_iff.1 hl).1
      exact ⟨c, hIx c e pre X Y he heX hi (hs.mono (by omega) (Nat.le_refl _)), (hs.heap hl' (.inl (by omega))).trans hl, (hs.heap (by omega) (.inl (by omega))).trans hd⟩
    · rintro e pre x X he heX ⟨hi, hl, hd⟩ hpre
      rw [hs1] at he ⊢
      have hy := run_yield (P := Try.prog) (args := encs x) hl (by rw [hrec]; exact hps x)
      rw [hrec] at hy
      refine ⟨fn, _, assign, body, hy, roundIn_of_wpIn hfn (wpIn_mono (hassign _ e pre x X he heX hi hpre) ?_)⟩
      intro ex a1 X1 hp
      cases ex with
      | normal =>
        obtain ⟨hk1, hi1, ha1⟩ := hp
        have hl1 := (hk1.own _ (by omega) (by omega)).trans hl
        have hd1 := (hk1.own _ (Nat.le_refl _) (by omega)).trans hd
        have he1 : e ≤ X1.heap.size := Nat.le_trans heX hk1.size
        refine ⟨_, run_beginRound hl1 (by rw [hrec]), ?_⟩
        have hst : Stp w.heap.size e X1 (X1.putObj (w.heap.size + 1) (.loop { rec .ready none with state := .busy })) := Stp.putObj _ _ (by omega) (by omega)
        have hl2 : (X1.putObj (w.heap.size + 1) (.loop { rec .ready none with state := .busy })).heap[w.heap.size + 1]? = some (.loop { rec .ready none with state := .busy }) := World.putObj_heap_same (by omega)
        have hoth : ∀ k, k ≠ w.heap.size + 1 → (X1.putObj (w.heap.size + 1) (.loop { rec .ready none with state := .busy })).heap[k]? = X1.heap[k]? := fun k hk => World.putObj_heap_other hk
        refine wpIn_mono (hbody _ e pre x a1 _ he (by simp; exact he1) (hI e pre _ _ he he1 hi1 hst) hpre (hAx e x a1 _ _ he1 ha1 hst)) ?_
        have fin : ∀ (jump : Option Code) (X3 : World), Kpt2 Bn w.heap.size e (X1.putObj (w.heap.size + 1) (.loop { rec .ready none with state := .busy })) X3 →
            (Instr.endRound (w.heap.size + 1) jump).run Try.prog X3 = .ok (.bool jump.isNone) (X3.putObj (w.heap.size + 1) (.loop (rec (if jump.isNone then .ready else .done) jump))) ∧
            (X3.putObj (w.heap.size + 1) (.loop (rec (if jump.isNone then .ready else .done) jump))).heap[w.heap.size + 1]? = some (.loop (rec (if jump.isNone then .ready else .done) jump)) ∧
            (X3.putObj (w.heap.size + 1) (.loop (rec (if jump.isNone then .ready else .done) jump))).heap[w.heap.size]? = some (.deferred (some [])) ∧ e ≤ X3.heap.size ∧ X.heap.size ≤ X3.heap.size := fun jump X3 hk3 => by
          have hl3 := (hk3.own _ (by omega) (by omega)).trans hl2
          have hd3 := ((hk3.own _ (Nat.le_refl _) (by omega)).trans (hoth _ (by omega))).trans hd1
          have h := run_endRound (P := Try.prog) jump hl3
          have hz := hk3.size
          have hz1 := hk1.size
          simp only [World.putObj_size] at hz
          rw [hrec] at h ⊢
          exact ⟨h, World.putObj_heap_same (by omega), (World.putObj_heap_other (by omega)).trans hd3, by omega, by omega⟩
        have kp : ∀ {X3 : World} {o : Obj}, Kpt2 Bn w.heap.size e (X1.putObj (w.heap.size + 1) (.loop { rec .ready none with state := .busy })) X3 → X.heap.size ≤ X3.heap.size → Kpt2 Bn (w.heap.size + 2) e X (X3.putObj (w.heap.size + 1) o) := fun hk3 hz5 => by
          refine ⟨by simp; omega, ?_, fun k h1 h2 => ?_⟩
          · intro k hk
            have := hBn k hk
            rw [World.putObj_heap_other (by omega), hk3.one k hk, hoth _ (by omega), hk1.one k hk]
          · rw [World.putObj_heap_other (by omega), hk3.own k (by omega) h2, hoth _ (by omega), hk1.own k (by omega) h2]
        rintro ex3 a3 X3 hp3
        cases ex3 with
        | normal =>
          obtain ⟨hk3, hi3⟩ := hp3
          obtain ⟨hr, hl4, hd4, hz4, hz5⟩ := fin none X3 hk3
          exact ⟨_, _, hr, .inl ⟨rfl, ⟨hI e _ _ _ he hz4 hi3 (Stp.putObj _ _ (by omega) (by omega)), hl4, hd4⟩, kp hk3 hz5⟩⟩
        | ret =>
          obtain ⟨hk3, hi3⟩ := hp3
          obtain ⟨hr, hl4, hd4, hz4, hz5⟩ := fin (some .ret) X3 hk3
          exact ⟨_, _, hr, .inr ⟨rfl, ⟨.ret, hIx _ e _ _ _ he hz4 hi3 (Stp.putObj _ _ (by omega) (by omega)), hl4, hd4⟩, kp hk3 hz5⟩⟩
        | exit id =>
          obtain ⟨hk3, hi3⟩ := hp3
          obtain ⟨hr, hl4, hd4, hz4, hz5⟩ := fin (some (.exit id)) X3 hk3
          exact ⟨_, _, hr, .inr ⟨rfl, ⟨.exit id, hIx _ e _ _ _ he hz4 hi3 (Stp.putObj _ _ (by omega) (by omega)), hl4, hd4⟩, kp hk3 hz5⟩⟩
        | goto t => exact hp3.elim
        | panic ch => exact hp3.elim
        | outgrown => exact hp3.elim
      | exit id => exact hp.elim
      | goto t => exact hp.elim
      | ret => exact hp.elim
      | panic ch => exact hp.elim
      | outgrown => exact hp.elim
    · intro e X he heX hbX
      rw [hs1] at he hbX
      exact ⟨h0 e X he heX (hb1.trans (hbX.mono (by omega))), (hbX.block _ (by omega)).trans hL1, (hbX.block _ (by omega)).trans hD1⟩
    · rintro v X2 ⟨⟨u, rfl⟩, e, he, heX, (⟨hi, hl, hd⟩ | ⟨pre, hpre, c, hi, hl, hd⟩)⟩
      · rw [hs1] at he
        have hend := run_endLoop (P := Try.prog) hl (by rw [hrec]; simp)
        rw [hrec] at hend
        exact ⟨none, _, hend, hdone e _ he (by simp; exact heX) (hI e _ _ _ he heX hi (Stp.putObj _ _ (by omega) (by omega))) ((World.putObj_heap_other (by omega)).trans hd)⟩
      · rw [hs1] at he
        have hend := run_endLoop (P := Try.prog) hl (by rw [hrec]; simp)
        rw [hrec] at hend
        exact ⟨some c, _, hend, hstop c e pre _ he (by simp; exact heX) hpre (hIx c e _ _ _ he heX hi (Stp.putObj _ _ (by omega) (by omega))) ((World.putObj_heap_other (by omega)).trans hd)⟩
end Go.Proofs.Ytjjpfpgjpmedmaa
namespace Go.Proofs.Ytjjpfpgjpmedmaa
open Go.RowKit
attribute [local go_sem] Oper.semAt_some
theorem round_deep {m m' l : Nat} {fn : FuncId} {tmps : Array Value} {assign body : Code} {w : World} {R : Ending → World → Prop} (h : RoundIn Fence.wide m Try.prog l fn tmps assign body w R) : RoundIn Fence.wide m' Try.prog l fn tmps assign body w R := ⟨h.1, fun c cs _ => h.2 c cs (room_wide _)⟩
/-- The groups: where each begins, how many it has. -/
def chP (n q : Nat) : List (Nat × Nat) := (List.range q).map fun j => (8 * j, min 8 (n - 8 * j))
def chL (n : Nat) : List (Nat × Nat) := chP n ((n + 7) / 8)
theorem chP_snoc (n q : Nat) : chP n (q + 1) = chP n q ++ [(8 * q, min 8 (n - 8 * q))] := by unfold chP; rw [List.range_succ, List.map_append]; rfl
theorem chP_pre {n q : Nat} (h : 8 * q < n) : chP n (q + 1) <+: chL n := by
  unfold chL
  have : q + 1 ≤ (n + 7) / 8 := by omega
  obtain ⟨d, hd⟩ : ∃ d, (n + 7) / 8 = (q + 1) + d := ⟨(n + 7) / 8 - (q + 1), by omega⟩
  rw [hd]
  clear hd this
  unfold chP
  rw [show List.range (q + 1 + d) = List.range (q + 1) ++ (List.range d).map (fun x => q + 1 + x) from List.range_add .., List.map_append]
  exact List.prefix_append _ _
def encC (ad : Addr) (x : Nat × Nat) : Array Value := #[.slice (some (ad.add (x.1 * 9))) x.2 x.2]
theorem chunk_any (A : Option Addr) (n c : Nat) (w : World) : Calls Try.prog 63 #[.slice A n c, .int .i64 8] w fun v w' => v = .returned (.func (.func 86) #[] #[.pointer (some ⟨w.heap.size, 0, none⟩), .pointer (some ⟨w.heap.size + 1, 0, none⟩)]) ∧ w' = (w.alloc (.cells #[.slice A n c] 26)).alloc (.cells #[.int .i64 8] 3) := by
  have hmf : ∀ (fn : Fn) (first cap : Array Value) (w : World), (Instr.makeFunc fn first cap).run Try.prog w = .ok (.func fn first cap) w := fun _ _ _ _ => rfl
  go_enter Try.func63, Try.ntmps63
  go_wp2
  go_ret
  exact ⟨rfl, rfl⟩
set_option maxRecDepth 100000 in
set_option maxHeartbeats 4000000 in
theorem chunk_iter (ad : Addr) (n c : Nat) (hn : n ≤ 1000000) (hnc : n ≤ c) (B1 B2 : Nat) (w : World) (hb1 : Boxed w B1 26 (.slice (some ad) n c)) (hb2 : Boxed w B2 3 (.int .i64 8)) :
    Iter2 86 #[.pointer (some ⟨B1, 0, none⟩), .pointer (some ⟨B2, 0, none⟩)] (encC ad) (chL n) (fun k => k = B1 ∨ k = B2) w := by
  intro l W J Jx hW hJ hJx hY h0
  show CallsIn Fence.wide 5 Try.prog 86 #[.func (.yield l) #[] #[], .pointer (some ⟨B1, 0, none⟩), .pointer (some ⟨B2, 0, none⟩)] W _
  have HJ := Lib.hid hJ
  have HJx := Lib.hid hJx
  have HY := Lib.hid hY
  have J0 := Lib.hid (h0 W.heap.size W (Nat.le_refl _) (Nat.le_refl _) (Below.refl _ _))
  have X1 := Lib.hid (show Boxed W B1 26 (.slice (some ad) n c) from (hW.block _ hb1.lt).trans hb1)
  have X2 := Lib.hid (show Boxed W B2 3 (.int .i64 8) from (hW.block _ hb2.lt).trans hb2)
  have hmo : Try.prog.follows .mixedOrders = true := by kernel_rfl
  clear hJ hJx hY h0 hb1 hb2 hW
  obtain ⟨R, hR⟩ : ∃ R : Ending → World → Prop, (fun v Y => (∃ u, v = Ending.returned u) ∧ ∃ e, W.heap.size ≤ e ∧ e ≤ Y.heap.size ∧ (J e (chL n) Y ∨ ∃ pre, pre <+: chL n ∧ Jx e pre Y)) = R := ⟨_, rfl⟩
  rw [hR]
  have HR := Lib.hid hR
  clear hR
  refine callsIn_of_wp Try.func86 rfl trivial ?_ rfl
  simp only [Try.ntmps86, List.size_toArray, List.length_cons, List.length_nil, Nat.reduceAdd, Nat.reduceSub, Array.replicate_succ, Array.replicate_zero, List.push_toArray, List.append_toArray, List.nil_append, List.cons_append]
  gi_wp2
  gi_loopw [4] (fun i wr => ∃ q : Nat, q ≤ (n + 7) / 8 ∧ i = .int .i64 ((8 * q : Nat) : Int) ∧ Boxed wr B1 26 (.slice (some ad) n c) ∧ Boxed wr B2 3 (.int .i64 8) ∧ J W.heap.size (chP n q) wr ∧ W.heap.size ≤ wr.heap.size) (fun i _ => n + 8 - (intOf i).toNat)
  case atStart => exact ⟨0, Nat.zero_le _, rfl, X1.out, X2.out, J0.out, Nat.le_refl _⟩
  case round =>
    obtain ⟨q, hq, rfl, hx1, hx2, hj, hsz⟩ := hrel
    have Y1 := Lib.hid hx1
    have Y2 := Lib.hid hx2
    have HJk := Lib.hid hj
    have d1 := hx1.cell
    have d2 := hx2.cell
    clear hx1 hx2 hj X1 X2 J0
    by_cases hlt : 8 * q < n
    · have dl : decide (((8 * q : Nat) : Int) < n) = true := decide_eq_true (by omega)
      generalize h8 : 8 * q = i at *
      gi_wp2_with fail
      clear d1 d2 dl
      have Z1 := Lib.hid (show Boxed wr.drew B1 26 (.slice (some ad) n c) from Y1.out)
      have Z2 := Lib.hid (show Boxed wr.drew B2 3 (.int .i64 8) from Y2.out)
      have HJd := Lib.hid (HJ.out _ _ _ _ (Nat.le_refl _) hsz HJk.out (Stp.below (below_drawn wr)))
      have hzd : W.heap.size ≤ wr.drew.heap.size := hsz
      have hic : i < c := by omega
      have hin : i ≤ n := by omega
      clear Y1 Y2 HJk hsz
      refine wpIn_wide.2 ?_
      refine wp_region_held_drew (S := fun w' => Boxed w' B1 26 (.slice (some ad) n c) ∧ Boxed w' B2 3 (.int .i64 8)) hmo ⟨Z1.out, Z2.out⟩ (fun hHeld => ?_)
      generalize wr.drew = Y at *
      refine wpAnyH_take (i := 0) (oi := { dst := some 13, op := Op.load 3 (Operand.tmp 2), type := 3, pos := "iter.go:105", after := #[], guard := none }) (v := ?_) rfl (by kernel_rfl) (by kernel_rfl) (by kernel_rfl) (fun _ _ _ h => h) (Or.inl ⟨by rfl, ?_⟩) (by assumption) ?_
      rotate_left
      · intro w hSw; (try dsimp only at hSw); obtain ⟨h1, h2⟩ := hSw; have d1 := h1.cell; have d2 := h2.cell; go_simp; try with_reducible rfl
      (try simp only [Act.put, List.setIfInBounds_toArray, List.set_cons_zero, List.set_cons_succ])
      refine wpAnyH_take (i := 1) (oi := { dst := some 14, op := Op.load 26 (Operand.tmp 1), type := 26, pos := "iter.go:105", after := #[], guard := none }) (v := ?_) rfl (by kernel_rfl) (by kernel_rfl) (by kernel_rfl) (fun _ _ _ h => h) (Or.inl ⟨by rfl, ?_⟩) (by assumption) ?_
      rotate_left
      · intro w hSw; (try dsimp only at hSw); obtain ⟨h1, h2⟩ := hSw; have d1 := h1.cell; have d2 := h2.cell; go_simp; try with_reducible rfl
      (try simp only [Act.put, List.setIfInBounds_toArray, List.set_cons_zero, List.set_cons_succ])
      refine wpAnyH_take (i := 2) (oi := { dst := some 15, op := Op.move (Operand.tmp 4), type := 3, pos := "iter.go:105", after := #[], guard := none }) (v := ?_) rfl (by kernel_rfl) (by kernel_rfl) (by kernel_rfl) (fun _ _ _ h => h) (Or.inl ⟨by rfl, ?_⟩) (by assumption) ?_
      rotate_left
      · intro w hSw; (try dsimp only at hSw); obtain ⟨h1, h2⟩ := hSw; have d1 := h1.cell; have d2 := h2.cell; go_simp; try with_reducible rfl
      (try simp only [Act.put, List.setIfInBounds_toArray, List.set_cons_zero, List.set_cons_succ])
      refine wpAnyH_take (i := 3) (oi := { dst := some 16, op := Op.slice 26 (Operand.tmp 14) (some (Operand.tmp 15)) none none, type := 26, pos := "iter.go:105", after := #[{ on := 1, ground := Ground.data }, { on := 2, ground := Ground.data }], guard := none }) (v := ?_) rfl (by kernel_rfl) (by kernel_rfl) (by kernel_rfl) (fun _ _ _ h => h) (Or.inl ⟨by rfl, ?_⟩) (by assumption) ?_
      rotate_left
      · intro w hSw; (try dsimp only at hSw); obtain ⟨h1, h2⟩ := hSw; have d1 := h1.cell; have d2 := h2.cell; go_simp; try with_reducible rfl
      (try simp only [Act.put, List.setIfInBounds_toArray, List.set_cons_zero, List.set_cons_succ])
      refine wpAnyH_take (i := 4) (oi := { dst := some 17, op := Op.call { callee := Callee.builtin Builtin.len, args := #[Operand.tmp 16], argTypes := #[26] }, type := 3, pos := "iter.go:105", after := #[{ on := 3, ground := Ground.data }], guard := none }) (v := ?_) rfl (by kernel_rfl) (by kernel_rfl) (by kernel_rfl) (fun _ _ _ h => h) (Or.inl ⟨by rfl, ?_⟩) (by assumption) ?_
      rotate_left
      · intro w hSw; (try dsimp only at hSw); obtain ⟨h1, h2⟩ := hSw; have d1 := h1.cell; have d2 := h2.cell; go_simp; try with_reducible rfl
      (try simp only [Act.put, List.setIfInBounds_toArray, List.set_cons_zero, List.set_cons_succ])
      refine wpAnyH_take (i := 5) (oi := { dst := some 18, op := Op.call { callee := Callee.builtin Builtin.min, args := #[Operand.tmp 13, Operand.tmp 17], argTypes := #[3, 3] }, type := 3, pos := "iter.go:105", after := #[{ on := 0, ground := Ground.data }, { on := 4, ground := Ground.data }], guard := none }) (v := ?_) rfl (by kernel_rfl) (by kernel_rfl) (by kernel_rfl) (fun _ _ _ h => h) (Or.inl ⟨by rfl, ?_⟩) (by assumption) ?_
      rotate_left
      · intro w hSw; (try dsimp only at hSw); obtain ⟨h1, h2⟩ := hSw; have d1 := h1.cell; have d2 := h2.cell; go_simp; try with_reducible rfl
      (try simp only [Act.put, List.setIfInBounds_toArray, List.set_cons_zero, List.set_cons_succ])
      refine wpAnyH_take (i := 6) (oi := { dst := some 5, op := Op.assign (Operand.tmp 18), type := 3, pos := "iter.go:105", after := #[{ on := 5, ground := Ground.data }, { on := 0, ground := Ground.phase }, { on := 1, ground := Ground.phase }, { on := 2, ground := Ground.phase }, { on := 3, ground := Ground.phase }, { on := 4, ground := Ground.phase }, { on := 5, ground := Ground.phase }], guard := none }) (v := ?_) rfl (by kernel_rfl) (by kernel_rfl) (by kernel_rfl) (fun _ _ _ h => h) (Or.inl ⟨by rfl, ?_⟩) (by assumption) ?_
      rotate_left
      · intro w hSw; (try dsimp only at hSw); obtain ⟨h1, h2⟩ := hSw; have d1 := h1.cell; have d2 := h2.cell; go_simp; try with_reducible rfl
      (try simp only [Act.put, List.setIfInBounds_toArray, List.set_cons_zero, List.set_cons_succ])
      refine wpAnyH_done (by kernel_rfl) ?_ _
      obtain ⟨m, hm1, hm2, hm3, hm4⟩ : ∃ m : Nat, (if ((n - i : Nat) : Int) < 8 then ((n - i : Nat) : Int) else 8) = (m : Int) ∧ m = min 8 (n - i) ∧ 0 < m ∧ i + m ≤ n := ⟨min 8 (n - i), by split <;> omega, rfl, by omega, by omega⟩
      rw [hm1]
      have d1 := hHeld.1.cell
      obtain ⟨fn, tmps, assign, body, hy, hRd⟩ := HY.out W.heap.size (chP n q) (8 * q, min 8 (n - 8 * q)) Y (Nat.le_refl _) hzd HJd.out (by rw [← chP_snoc]; exact chP_pre (by omega))
      rw [h8, ← hm2] at hy
      have HRd := Lib.hid hRd
      clear hRd hm1 hm2
      unfold encC at hy
      dsimp only at hy
      gi_wp2
      refine (round_deep HRd.out).mono ?_
      rintro ev W3 (⟨rfl, hJ3, hk3⟩ | ⟨rfl, hJx3, hk3⟩)
      · rw [← chP_snoc] at hJ3
        have hsz3 := hk3.size
        have HJ3 := Lib.hid hJ3
        have W1 := Lib.hid (show Boxed W3 B1 26 (.slice (some ad) n c) from (hk3.one B1 (.inl rfl)).trans hHeld.1)
        have W2 := Lib.hid (show Boxed W3 B2 3 (.int .i64 8) from (hk3.one B2 (.inr rfl)).trans hHeld.2)
        have e2 := W2.out.cell
        clear hJ3 hk3 hy d1 hHeld
        gi_wp2
        go_roundw
        case rel => exact ⟨q + 1, by omega, by rw [show ((8 * (q + 1) : Nat) : Int) = (i : Int) + 8 from by omega], W1.out, W2.out, HJ3.out, by omega⟩
        case measure => simp [intOf]; omega
      · have hsz3 := hk3.size
        have HJ3 := Lib.hid hJx3
        clear hJx3 hk3 hy d1 hHeld
        gi_wp2
        go_end0
        rw [← HR.out]
        exact ⟨⟨_, rfl⟩, W.heap.size, Nat.le_refl _, by omega, .inr ⟨_, by rw [← chP_snoc]; exact chP_pre (by omega), HJ3.out⟩⟩
    · have dl : decide (((8 * q : Nat) : Int) < n) = false := decide_eq_false (by omega)
      have HQ := Lib.hid (show chP n q = chL n from by unfold chL; rw [show q = (n + 7) / 8 by omega])
      generalize h8 : 8 * q = i at *
      gi_wp2
      go_end0
      rw [← HR.out]
      exact ⟨⟨_, rfl⟩, W.heap.size, Nat.le_refl _, hsz, .inl (by rw [← HQ.out]; exact HJk.out)⟩
end Go.Proofs.Ytjjpfpgjpmedmaa
