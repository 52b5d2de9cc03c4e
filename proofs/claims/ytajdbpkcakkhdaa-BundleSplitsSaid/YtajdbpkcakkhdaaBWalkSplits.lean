/- The walk of BundleSplits: no claim of its own. -/
import Derived.Test.YtajdbpkcakkhdaaBSplits
import Derived.Test.YtajdbpkcakkhdaaBWalkAll
namespace Go.Proofs.Ytajdbpkcakkhdaa
open Go.RowKit
attribute [local go_sem] Oper.semAt_some
/-- What lay when the loop began: all of it below L. -/
structure OldS (w : World) (L Bw : Nat) (A : Option Addr) (n c : Nat) (rs : List (List Int)) (s : List Int) (X : World) : Prop where
  res : Boxed X (w.heap.size + 1) 4 (.bool false)
  want : Boxed X Bw 41 (.slice A n c)
  rows : Reads X L 6 A n (cellsRs rs)
  sup : BB X w.heap.size 23 s
  below : Below w.heap.size w X
  size : L ≤ X.heap.size
  lt : w.heap.size + 1 < L ∧ Bw < L
section
variable {w X Y : World} {L Bw : Nat} {A : Option Addr} {n c : Nat} {rs : List (List Int)} {s : List Int}
theorem OldS.keep (h : OldS w L Bw A n c rs s X) (hb : Below L X Y) : OldS w L Bw A n c rs s Y := by
  obtain ⟨l1, l2⟩ := h.lt
  exact ⟨(hb.block _ l1).trans h.res, (hb.block _ l2).trans h.want, h.rows.below hb, h.sup.keep hb (by omega), h.below.trans (hb.mono (by omega)), Nat.le_trans h.size hb.size, h.lt⟩
theorem OldS.step {b e : Nat} (h : OldS w L Bw A n c rs s X) (hs : Stp b e X Y) (hL : L ≤ b) : OldS w L Bw A n c rs s Y := h.keep (hs.isBelow hL h.size)
end
theorem resS_box {w : World} {R : Nat} {v : Bool} (tmps : Array Value) (ht : tmps.getD 2 undef = .pointer (some ⟨R, 0, none⟩)) (h : w.cell? ⟨R, 0, none⟩ = some (.bool v)) : (results Try.f8 tmps).run Try.prog w = .ok (.bool v) w := by
  have ht' : tmps[2]?.getD undef = .pointer (some ⟨R, 0, none⟩) := by simpa using ht
  simp [results, Try.results8, ht', asAddr, go_sem, h]
/-- The way out behind one such statement: its mark, the result's box. -/
theorem leave_one (tmps : Array Value) (D1 R : Nat) (w0 w : World) (h10 : w0.heap.size ≤ D1) (hne : R ≠ D1) (ht : tmps.getD 2 undef = .pointer (some ⟨R, 0, none⟩))
    (d1 : w.heap[D1]? = some (.deferred (some []))) (hr : Boxed w R 4 (.bool true)) (hb : Below w0.heap.size w0 w) :
    bodyPostM Fence.wide 5 Try.prog Try.f8 (Gives (.bool true) w0) .ret { tmps, defers := [{ target := .collected D1, args := #[] }] } w := by
  refine ⟨by simp, .inl ⟨_, _, rfl, run_takeDeferred d1, ?_⟩⟩
  have hr2 : Boxed (w.putObj D1 (.deferred none)) R 4 (.bool true) := (World.putObj_heap_other hne).trans hr
  refine ⟨_, resS_box tmps ht hr2.cell, rfl, ?_⟩
  refine hb.trans ⟨rfl, rfl, rfl, by simp, fun k hk => ?_⟩
  rw [World.putObj_heap_other (by omega)]
/-- The law of the statement where the loop has two variables, each in a box of its own. -/
theorem range_two (p p' q q' : Nat) {s : List Int} {g : Operand} {ps : Array Tmp} {assign body : Code} {Q : Exit → Act → World → Prop} {a : Act} {w : World} {gf : Nat} {lb : Array Value} {xs : List (List Int)} {Bn : Nat}
    (hg : a.eval g = .func (.func gf) #[] lb) (eg : ∀ args w, (callFunc gf args).run Try.prog w = .ok (.enter gf args) w) (hit : Iter gf lb (encS s) xs Bn w) (hBn : Bn < w.heap.size) (hps : 2 = ps.size)
    (I : Nat → List (List Int) → World → Prop)
    (hI : ∀ e pre X Y, w.heap.size + 2 ≤ e → e ≤ X.heap.size → I e pre X → Stp w.heap.size e X Y → I e pre Y)
    (h0 : ∀ e X, w.heap.size + 2 ≤ e → e ≤ X.heap.size → Below w.heap.size w X → I e [] X)
    (hassign : ∀ l e pre x X, w.heap.size + 2 ≤ e → e ≤ X.heap.size → I e pre X → (pre ++ [x]) <+: xs →
      assign.wpIn (Fence.wide.inRound l) 5 Try.prog (Exit.then (fun a' X' => Kpt Bn w.heap.size e X X' ∧ I e pre X' ∧ ∃ Bx By, e ≤ Bx ∧ e ≤ By ∧ BB X' Bx 23 x ∧ BB X' By 23 (subB s x) ∧ a' = { tmps := (((a.tmps.setIfInBounds p (aggB x)).setIfInBounds p' (aggB (subB s x))).setIfInBounds q (.pointer (some ⟨Bx, 0, none⟩))).setIfInBounds q' (.pointer (some ⟨By, 0, none⟩)), defers := [] }) (fun _ _ _ => False)) { tmps := (ps.zip (encS s x)).foldl (fun t (p, v) => t.setIfInBounds p v) a.tmps, defers := [] } X)
    (hbody : ∀ l e pre x Bx By X, w.heap.size + 2 ≤ e → e ≤ X.heap.size → I e pre X → (pre ++ [x]) <+: xs → e ≤ Bx → e ≤ By → BB X Bx 23 x → BB X By 23 (subB s x) →
      body.wpIn (Fence.wide.inRound l) 5 Try.prog (leftBy Bn w.heap.size e I (fun _ _ _ _ => False) (pre ++ [x]) X) { tmps := (((a.tmps.setIfInBounds p (aggB x)).setIfInBounds p' (aggB (subB s x))).setIfInBounds q (.pointer (some ⟨Bx, 0, none⟩))).setIfInBounds q' (.pointer (some ⟨By, 0, none⟩)), defers := [] } X)
    (hdone : ∀ e Y, w.heap.size + 2 ≤ e → e ≤ Y.heap.size → I e xs Y → Y.heap[w.heap.size]? = some (.deferred (some [])) → Q .normal { a with defers := { target := .collected w.heap.size, args := #[] } :: a.defers } Y) :
    (Code.rangeFunc g ps assign body).wpIn Fence.wide 5 Try.prog Q a w :=
  range_law hg eg hit hBn (fun _ => hps) I (fun _ _ _ _ => False) hI (fun _ _ _ _ _ _ _ h _ => h) h0
    (fun e x a' X => ∃ Bx By, e ≤ Bx ∧ e ≤ By ∧ BB X Bx 23 x ∧ BB X By 23 (subB s x) ∧ a' = { tmps := (((a.tmps.setIfInBounds p (aggB x)).setIfInBounds p' (aggB (subB s x))).setIfInBounds q (.pointer (some ⟨Bx, 0, none⟩))).setIfInBounds q' (.pointer (some ⟨By, 0, none⟩)), defers := [] })
    (fun _ _ _ _ _ _ h hs => by obtain ⟨Bx, By, h1, h2, h3, h4, h5⟩ := h; exact ⟨Bx, By, h1, h2, ⟨(hs.heap h3.lt (.inr h1)).trans h3.1, h3.2⟩, ⟨(hs.heap h4.lt (.inr h2)).trans h4.1, h4.2⟩, h5⟩)
    hassign (fun l e pre x a' X he heX hi hpre ha => by obtain ⟨Bx, By, h1, h2, h3, h4, rfl⟩ := ha; exact hbody l e pre x Bx By X he heX hi hpre h1 h2 h3 h4) hdone (fun _ _ _ _ _ _ _ h _ => h.elim)
theorem sub_len (s x : List Int) : (subB s x).length = 6 := rfl
theorem halves_all (s : List Int) : All6 (halvesB s) := by
  unfold halvesB
  split
  · exact row_all s 6 (MB.P s 6) (by decide)
  · intro r h; cases h
set_option maxRecDepth 100000 in
set_option maxHeartbeats 4000000 in
theorem bundleSplits_walk (q0 q1 q2 q3 q4 q5 : Int) (w : World) : Calls Try.prog 8 #[.agg #[.int .i64 q0, .int .i64 q1, .int .i64 q2, .int .i64 q3, .int .i64 q4, .int .i64 q5]] w (Gives (.bool true) w) := by
  have HHa := Lib.hid (fun w => halves_any q0 q1 q2 q3 q4 q5 w)
  have HIt := Lib.hid (fun Bn w h => splits_iter q0 q1 q2 q3 q4 q5 Bn w h)
  have HLv := Lib.hid (fun w => lives_any w)
  have HSb := Lib.hid (fun x0 x1 x2 x3 x4 x5 w => rsub_any q0 q1 q2 q3 q4 q5 x0 x1 x2 x3 x4 x5 w)
  generalize halvesB [q0, q1, q2, q3, q4, q5] = rs at *
  refine (callsIn_wide (n := 5)).1 ?_
  refine callsIn_of_wp_marks Try.func8 rfl trivial ?_ rfl
  simp only [Try.ntmps8, List.size_toArray, List.length_cons, List.length_nil, Nat.reduceAdd, Nat.reduceSub, Array.replicate_succ, Array.replicate_zero, List.push_toArray, List.append_toArray, List.nil_append, List.cons_append]
  refine wpIn_wide.2 ?_
  have G0 := Lib.hid ((BB.new w 23 q0 q1 q2 q3 q4 q5).alloc (.cells #[.bool false] 4))
  have R0 := Lib.hid (Boxed.new (w.alloc (.cells #[.int .i64 q0, .int .i64 q1, .int .i64 q2, .int .i64 q3, .int .i64 q4, .int .i64 q5] 23)) 4 (.bool false))
  simp only [World.size_alloc] at R0
  have B0 := Lib.hid ((below_new w (.cells #[.int .i64 q0, .int .i64 q1, .int .i64 q2, .int .i64 q3, .int .i64 q4, .int .i64 q5] 23)).alloc (by simp) (.cells #[.bool false] 4))
  go_upto_region 1 with (fail)
  generalize (w.alloc (.cells #[.int .i64 q0, .int .i64 q1, .int .i64 q2, .int .i64 q3, .int .i64 q4, .int .i64 q5] 23)).alloc (.cells #[.bool false] 4) = W0 at G0 R0 B0 ⊢
  obtain ⟨c0, c1, c2, c3, c4, c5⟩ := cells6 G0.out
  have hz0 : w.heap.size + 1 < W0.heap.size := R0.out.lt
  go_wp2_with fail
  refine (HHa.out _).mono ?_
  rintro ev1 W1 ⟨Ad, n, cap, rfl, hr, hb⟩
  have G1 := Lib.hid (G0.out.keep hb G0.out.lt)
  have R1 := Lib.hid ((hb.block _ R0.out.lt).trans R0.out)
  have B1 := Lib.hid (B0.out.trans (hb.mono B0.out.size))
  have RW := Lib.hid hr
  have hz1 := hb.size
  have hn := hr.few
  clear hb hr c0 c1 c2 c3 c4 c5 G0 R0 B0 HHa
  go_upto_region 2 with (fail)
  have G2 := Lib.hid (G1.out.alloc (.cells #[.slice Ad n cap] 41))
  have R2 := Lib.hid (Boxed.alloc R1.out (.cells #[.slice Ad n cap] 41))
  have B2 := Lib.hid (B1.out.alloc B1.out.size (.cells #[.slice Ad n cap] 41))
  have T2 := Lib.hid (Boxed.new W1 41 (.slice Ad n cap))
  have RW2 := Lib.hid (RW.out.reads.below (below_new W1 (.cells #[.slice Ad n cap] 41)))
  have hz2 : W1.heap.size + 1 ≤ (W1.alloc (.cells #[.slice Ad n cap] 41)).heap.size := by simp
  have HN := Lib.hid RW.out.len
  have HC := Lib.hid RW.out.cap
  have HAl := Lib.hid RW.out.all
  clear G1 R1 B1 RW
  generalize W1.alloc (.cells #[.slice Ad n cap] 41) = W2 at *
  generalize W1.heap.size = Bw at *
  by_cases hbig : 500 < (n : Int)
  · have hbd : decide (500 < (n : Int)) = true := by simpa using hbig
    have cw := T2.out.cell
    go_wp2_with fail
    refine (HLv.out _).mono ?_
    rintro ev9 W9 ⟨rfl, hb9⟩
    have R9 := Lib.hid ((hb9.block _ R2.out.lt).trans R2.out)
    have cr := (show Boxed W9 (w.heap.size + 1) 4 (.bool false) from R9.out).cell
    have fr := (show Boxed W9 (w.heap.size + 1) 4 (.bool false) from R9.out).frozen
    have B9 := Lib.hid (B2.out.trans (hb9.mono B2.out.size))
    clear hb9
    go_wp2
    exact ⟨_, resS_box _ rfl (Boxed.set (.bool true) R9.out).cell, rfl, B9.out.setCell (p := ⟨w.heap.size + 1, 0, none⟩) (by show w.heap.size ≤ w.heap.size + 1; omega) (.bool true)⟩
  · have hbd : decide (500 < (n : Int)) = false := by simpa using hbig
    have hn5 : n ≤ 500 := by omega
    have cw := T2.out.cell
    obtain ⟨c0, c1, c2, c3, c4, c5⟩ := cells6 G2.out
    have hnf : ∀ w, (binOp .eql 48 (.func (.func 43) #[] #[.pointer (some ⟨W2.heap.size, 0, none⟩)]) .nilFunc).run Try.prog w = .ok (.bool false) w := fun w => by kernel_rfl
    go_wp2_with fail
    refine (splits_any q0 q1 q2 q3 q4 q5 _).mono ?_
    rintro ev2 W3 ⟨rfl, rfl⟩
    clear c0 c1 c2 c3 c4 c5 cw
    go_upto_region 5 with (fail)
    have O3 : OldS w (Bw + 1) Bw Ad n cap rs [q0, q1, q2, q3, q4, q5] (W2.alloc (.cells #[.int .i64 q0, .int .i64 q1, .int .i64 q2, .int .i64 q3, .int .i64 q4, .int .i64 q5] 23)) :=
      ⟨Boxed.alloc R2.out _, T2.out.alloc _, ((RW2.out.more (by omega)).below (below_new W2 _ |>.mono (by omega))), G2.out.alloc _, B2.out.alloc B2.out.size _, by simp; omega, by omega, by omega⟩
    have GB := Lib.hid (BB.new W2 23 q0 q1 q2 q3 q4 q5)
    have hs3 : (W2.alloc (.cells #[.int .i64 q0, .int .i64 q1, .int .i64 q2, .int .i64 q3, .int .i64 q4, .int .i64 q5] 23)).heap.size = W2.heap.size + 1 := by simp
    have hBB : Bw + 1 ≤ W2.heap.size := by omega
    clear R2 T2 RW2 B2 G2 hz2
    generalize W2.alloc (.cells #[.int .i64 q0, .int .i64 q1, .int .i64 q2, .int .i64 q3, .int .i64 q4, .int .i64 q5] 23) = W3 at *
    generalize W2.heap.size = Ba at *
    have O4 := Lib.hid (O3.keep (Y := W3.alloc (.cells #[.int .i64 0] 3)) ((below_new _ _).mono (by omega)))
    have N4 := Lib.hid (Boxed.new W3 3 (.int .i64 0))
    have G4 := Lib.hid (GB.out.alloc (.cells #[.int .i64 0] 3))
    rw [hs3] at N4
    have hs4 : (W3.alloc (.cells #[.int .i64 0] 3)).heap.size = Ba + 2 := by simp; omega
    clear O3 GB
    go_wp2
    generalize W3.alloc (.cells #[.int .i64 0] 3) = W4 at *
    refine (wpIn_wide (n := 5)).1 (range_two 19 20 6 7 (s := [q0, q1, q2, q3, q4, q5]) (gf := 43) (lb := #[.pointer (some ⟨Ba, 0, none⟩)]) (xs := rs) (Bn := Ba) rfl (enters_of Try.func43 (by kernel_rfl) rfl)
      (HIt.out Ba W4 G4.out) (by omega) (by rfl)
      (fun _ pre X => OldS w (Bw + 1) Bw Ad n cap rs [q0, q1, q2, q3, q4, q5] X ∧ Boxed X (Ba + 1) 3 (.int .i64 pre.length))
      ?hI ?h0 ?assign ?body ?done)
    case hI =>
      rintro e pre X Z he heX ⟨ho, hb⟩ hs
      exact ⟨ho.step hs (by omega), (hs.heap hb.lt (.inl (by omega))).trans hb⟩
    case h0 =>
      intro e X he heX hb
      exact ⟨O4.out.keep (hb.mono (by omega)), (hb.block _ (by omega)).trans N4.out⟩
    case assign =>
      rintro l e pre x X he heX ⟨ho, hb⟩ hpre
      have hx6 : x.length = 6 := HAl.out x (hpre.subset (by simp))
      obtain ⟨y0, y1, y2, y3, y4, y5, hy⟩ := six (sub_len [q0, q1, q2, q3, q4, q5] x)
      obtain ⟨x0, x1, x2, x3, x4, x5, rfl⟩ := six hx6
      clear hpre hx6
      unfold encS
      rw [hy]
      clear hy
      simp only [aggB_lit, List.setIfInBounds_toArray, List.set_cons_zero, List.set_cons_succ]
      gi_wp2
      exact ⟨(Kpt.alloc X _ (by omega) heX).trans (Kpt.alloc _ _ (by simp; omega) (by simp; omega)), ⟨ho.step ((Stp.alloc (Bw + 1) e X _)) (Nat.le_refl _) |>.step (Stp.alloc (Bw + 1) e _ _) (Nat.le_refl _), (hb.alloc _).alloc _⟩, X.heap.size, X.heap.size + 1, heX, by omega, (two_boxes X _ _ x0 x1 x2 x3 x4 x5 y0 y1 y2 y3 y4 y5).1, (two_boxes X _ _ x0 x1 x2 x3 x4 x5 y0 y1 y2 y3 y4 y5).2, rfl⟩
    case body =>
      rintro l e pre x Bx By X he heX ⟨ho, hb⟩ hpre hBx hBy hbx hby
      have hx6 : x.length = 6 := HAl.out x (hpre.subset (by simp))
      have hlen : pre.length + 1 ≤ n := by have := hpre.length_le; rw [HN.out] at this; simpa using this
      have hrow : rs[pre.length]? = some x := by
        obtain ⟨suf, hsuf⟩ := hpre
        rw [← hsuf]
        simp
      have RWn : Rws X Ad n cap rs := ⟨ho.rows.more ho.size, HN.out, HC.out, hn, HAl.out⟩
      obtain ⟨x0, x1, x2, x3, x4, x5, rfl⟩ := six hx6
      obtain ⟨ad, z0, z1, z2, z3, z4, z5, rfl, hrow2, hadl, e0, e1, e2, e3, e4, e5⟩ := RWn.at_ (k := pre.length) (by omega)
      have hh := hrow.symm.trans hrow2
      simp only [Option.some.injEq, List.cons.injEq, and_true] at hh
      obtain ⟨rfl, rfl, rfl, rfl, rfl, rfl⟩ := hh
      have HSx := Lib.hid (HSb.out x0 x1 x2 x3 x4 x5)
      obtain ⟨y0, y1, y2, y3, y4, y5, hy⟩ := six (sub_len [q0, q1, q2, q3, q4, q5] [x0, x1, x2, x3, x4, x5])
      rw [hy] at HSx hby ⊢
      have qx : ∀ w, (Op.equalIn 10000 23 (.agg #[.int .i64 x0, .int .i64 x1, .int .i64 x2, .int .i64 x3, .int .i64 x4, .int .i64 x5]) (.agg #[.int .i64 x0, .int .i64 x1, .int .i64 x2, .int .i64 x3, .int .i64 x4, .int .i64 x5])).run Try.prog w = .ok true w := same_one [x0, x1, x2, x3, x4, x5] rfl
      have qy : ∀ w, (Op.equalIn 10000 23 (.agg #[.int .i64 y0, .int .i64 y1, .int .i64 y2, .int .i64 y3, .int .i64 y4, .int .i64 y5]) (.agg #[.int .i64 y0, .int .i64 y1, .int .i64 y2, .int .i64 y3, .int .i64 y4, .int .i64 y5])).run Try.prog w = .ok true w := same_one [y0, y1, y2, y3, y4, y5] rfl
      clear hx6 hpre hrow hrow2 hy
      simp only [aggB_lit, List.setIfInBounds_toArray, List.set_cons_zero, List.set_cons_succ] at HSx ⊢
      obtain ⟨c0, c1, c2, c3, c4, c5⟩ := cells6 hbx
      obtain ⟨d0, d1, d2, d3, d4, d5⟩ := cells6 hby
      obtain ⟨s0, s1, s2, s3, s4, s5⟩ := cells6 ho.sup
      have cb := hb.cell
      have cw := ho.want.cell
      have hd1 : decide (n ≤ pre.length) = false := by simp; omega
      have HO := Lib.hid ho
      have HB := Lib.hid hb
      generalize hpl : pre.length = m at *
      have HPL := Lib.hid hpl
      have HS4 := Lib.hid hs4
      have hBaX : Ba < X.heap.size := by omega
      clear ho hb hpl RWn hbx hby hs4
      have k0 := cell_regrown c0
      have k1 := cell_regrown c1
      have k2 := cell_regrown c2
      have k3 := cell_regrown c3
      have k4 := cell_regrown c4
      have k5 := cell_regrown c5
      have l0 := cell_regrown d0
      have l1 := cell_regrown d1
      have l2 := cell_regrown d2
      have l3 := cell_regrown d3
      have l4 := cell_regrown d4
      have l5 := cell_regrown d5
      have m0 := cell_regrown s0
      have m1 := cell_regrown s1
      have m2 := cell_regrown s2
      have m3 := cell_regrown s3
      have m4 := cell_regrown s4
      have m5 := cell_regrown s5
      have n0 := cell_regrown e0
      have n1 := cell_regrown e1
      have n2 := cell_regrown e2
      have n3 := cell_regrown e3
      have n4 := cell_regrown e4
      have n5 := cell_regrown e5
      have kb := cell_regrown cb
      have kw := cell_regrown cw
      have cS := fun d os => Calls.regrown_of (HSx.out (Go.Sort.grow (redrawn X d) os))
      have hBX : ∀ p : Regrown, Below X.heap.size X (Go.Sort.grow (redrawn X p.d) p.os) := fun p => below_regrown X p.d p.os
      clear c0 c1 c2 c3 c4 c5 d0 d1 d2 d3 d4 d5 s0 s1 s2 s3 s4 s5 e0 e1 e2 e3 e4 e5 cb cw
      gi_wp2_with fail
      refine round_quiet (C := fun w' => ∃ p : Regrown, w' = Go.Sort.grow (redrawn X p.d) p.os) (plain_of (by kernel_rfl)) (by kernel_rfl) (by kernel_rfl) ⟨⟨X.drawn + 1, #[]⟩, by rw [Go.Sort.grow_empty]; rfl⟩ ?_
      repeat (any_goals (first | go_big_quiet_step (exact cS _ _) | quiet_step (exact cS _ _)))
      refine wpQuiet_nil ?_
      rintro _ ⟨pg, rfl⟩
      have hBV := hBX pg
      have hKX : Kpt Ba W4.heap.size e X (Go.Sort.grow (redrawn X pg.d) pg.os) := Kpt.below hBV hBaX heX
      have B7 := Lib.hid ((hBV.block _ HB.out.lt).trans HB.out)
      have O7 := Lib.hid (HO.out.keep (hBV.mono HO.out.size))
      clear hBV k0 k1 k2 k3 k4 k5 l0 l1 l2 l3 l4 l5 m0 m1 m2 m3 m4 m5 n0 n1 n2 n3 n4 n5 kb kw cS hBX qx qy HB HO
      generalize Go.Sort.grow (redrawn X pg.d) pg.os = X7 at *
      have cb := (show Boxed X7 (Ba + 1) 3 (.int .i64 m) from B7.out).cell
      have fb := (show Boxed X7 (Ba + 1) 3 (.int .i64 m) from B7.out).frozen
      have hm1 : (m : Int) + 1 ≤ 100001 := by omega
      gi_wp2
      have hs4 := HS4.out
      refine ⟨hKX.trans (Kpt.setCell _ 0 _ (by omega) (.inl (by omega))), O7.out.keep ((Below.refl _ _).setCell (p := ⟨Ba + 1, 0, none⟩) (by show Bw + 1 ≤ Ba + 1; omega) _), ?_⟩
      rw [List.length_append, HPL.out]
      exact Boxed.set _ B7.out
    case done =>
      rintro e2 Z he2 heZ ⟨ho, hb⟩ hD
      dsimp only
      rw [HN.out] at hb
      have cb := hb.cell
      have cw := ho.want.cell
      have HO := Lib.hid ho
      have HD1 := Lib.hid hD
      clear ho hb hD
      go_wp2_with fail
      refine (HLv.out _).mono ?_
      rintro ev9 W9 ⟨rfl, hb9⟩
      have O9 := HO.out.keep (hb9.mono HO.out.size)
      have cr := O9.res.cell
      have fr := O9.res.frozen
      have D1 := (hb9.block _ (Array.getElem?_eq_some_iff.1 HD1.out).1).trans HD1.out
      have hol := O9.lt
      have HR9 := Lib.hid O9.res
      have HB9 := Lib.hid O9.below
      have HS4 := Lib.hid hs4
      have HD1' := Lib.hid D1
      clear D1 O9 hs4 hb9
      go_wp2
      have hs4 := HS4.out
      have d1 := (Below.heap_setCell W9 ⟨w.heap.size + 1, 0, none⟩ (.bool true) W4.heap.size (by show W4.heap.size ≠ w.heap.size + 1; omega)).trans HD1'.out
      have hr := Boxed.set (.bool true) HR9.out
      have hb := HB9.out.setCell (p := ⟨w.heap.size + 1, 0, none⟩) (by show w.heap.size ≤ w.heap.size + 1; omega) (.bool true)
      exact leave_one _ _ _ _ _ (by omega) (by omega) rfl (by first | exact d1 | (rw [hs4] at d1; exact d1)) hr hb
end Go.Proofs.Ytajdbpkcakkhdaa
