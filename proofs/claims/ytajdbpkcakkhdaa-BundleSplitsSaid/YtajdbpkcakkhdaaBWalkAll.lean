/- The walk of BundleAll: no claim of its own. -/
import Derived.Test.YtajdbpkcakkhdaaBRound
import Derived.Test.YtajdbpkcakkhdaaBAwake
import Derived.Deep.DeepCutAuto
import Derived.Laws.EntriesVeiled
namespace Go.Proofs.Ytajdbpkcakkhdaa
open Go.RowKit
attribute [local go_sem] Oper.semAt_some
/-- What lay when the loops began: all of it below L. -/
structure Old (w : World) (L Bw Ba : Nat) (stop : Int) (A : Option Addr) (n c : Nat) (rs : List (List Int)) (s : List Int) (X : World) : Prop where
  stop : Boxed X (w.heap.size + 1) 5 (.int .u8 stop)
  res : Boxed X (w.heap.size + 1 + 1) 4 (.bool false)
  want : Boxed X Bw 41 (.slice A n c)
  rows : Reads X L 6 A n (cellsRs rs)
  sup : BB X Ba 23 s
  below : Below w.heap.size w X
  size : L ≤ X.heap.size
  lt : w.heap.size + 2 < L ∧ Bw < L ∧ Ba < L
section
variable {w X Y : World} {L Bw Ba : Nat} {stop : Int} {A : Option Addr} {n c : Nat} {rs : List (List Int)} {s : List Int}
theorem Old.keep (h : Old w L Bw Ba stop A n c rs s X) (hb : Below L X Y) : Old w L Bw Ba stop A n c rs s Y := by
  obtain ⟨l1, l2, l3⟩ := h.lt
  exact ⟨(hb.block _ (by omega)).trans h.stop, (hb.block _ (by omega)).trans h.res, (hb.block _ l2).trans h.want, h.rows.below hb, h.sup.keep hb l3, h.below.trans (hb.mono (by omega)), Nat.le_trans h.size hb.size, h.lt⟩
theorem Old.step {b e : Nat} (h : Old w L Bw Ba stop A n c rs s X) (hs : Stp b e X Y) (hL : L ≤ b) : Old w L Bw Ba stop A n c rs s Y := h.keep (hs.isBelow hL h.size)
end
theorem same_one (X : List Int) (h : X.length = 6) (w : World) : (Op.equalIn 10000 23 (.agg (cellsB X)) (.agg (cellsB X))).run Try.prog w = .ok true w := by
  rw [run_same X X h h w]
  simp
theorem own_step {b e base n : Nat} {X Y : World} {v : Value} {xs : List Value} (h : X.ownsRow base 23 6 v n xs) (hs : Stp b e X Y) (he : e ≤ base) : Y.ownsRow base 23 6 v n xs := by
  obtain ⟨row, hg, hr⟩ := hs
  refine h.kept hg ?_
  cases hv : v.ownBlock with
  | none => exact .inl rfl
  | some g =>
    refine .inr fun hrow => ?_
    have h1 := (h.lt g hv).1
    have h2 := hr g hrow.symm
    omega
theorem res_box {w : World} {R : Nat} (tmps : Array Value) (ht : tmps.getD 4 undef = .pointer (some ⟨R, 0, none⟩)) (h : w.cell? ⟨R, 0, none⟩ = some (.bool true)) : (results Try.f7 tmps).run Try.prog w = .ok (.bool true) w := by
  have ht' : tmps[4]?.getD undef = .pointer (some ⟨R, 0, none⟩) := by simpa using ht
  simp [results, Try.results7, ht', asAddr, go_sem, h]
/-- The way out of a function behind two such statements: both marks, the result's box. -/
theorem leave_two (tmps : Array Value) (D2 D1 R : Nat) (w0 w : World) (h20 : w0.heap.size ≤ D2) (h10 : w0.heap.size ≤ D1) (hR2 : R ≠ D2) (hne : D1 ≠ D2 ∧ R ≠ D1) (ht : tmps.getD 4 undef = .pointer (some ⟨R, 0, none⟩))
    (d2 : w.heap[D2]? = some (.deferred (some []))) (d1 : w.heap[D1]? = some (.deferred (some []))) (hr : Boxed w R 4 (.bool true)) (hb : Below w0.heap.size w0 w) :
    bodyPostM Fence.wide 5 Try.prog Try.f7 (Gives (.bool true) w0) .ret { tmps, defers := [{ target := .collected D2, args := #[] }, { target := .collected D1, args := #[] }] } w := by
  refine ⟨by simp, .inl ⟨_, _, rfl, run_takeDeferred d2, ?_⟩⟩
  refine ⟨by simp, .inl ⟨_, _, rfl, run_takeDeferred ((World.putObj_heap_other hne.1).trans d1), ?_⟩⟩
  have hr2 : Boxed ((w.putObj D2 (.deferred none)).putObj D1 (.deferred none)) R 4 (.bool true) := (World.putObj_heap_other hne.2).trans ((World.putObj_heap_other hR2).trans hr)
  refine ⟨_, res_box tmps ht hr2.cell, rfl, ?_⟩
  refine hb.trans ⟨rfl, rfl, rfl, by simp, fun k hk => ?_⟩
  rw [World.putObj_heap_other (by omega), World.putObj_heap_other (by omega)]
set_option maxRecDepth 100000 in
set_option maxHeartbeats 4000000 in
theorem bundleAll_walk (q0 q1 q2 q3 q4 q5 stop : Int) (w : World) (hst : 0 ≤ stop ∧ stop ≤ 255) : Calls Try.prog 7 #[.agg #[.int .i64 q0, .int .i64 q1, .int .i64 q2, .int .i64 q3, .int .i64 q4, .int .i64 q5], .int .u8 stop] w (Gives (.bool true) w) := by
  have HLi := Lib.hid (fun w => list_any q0 q1 q2 q3 q4 q5 w)
  have HIt := Lib.hid (fun Bn w h => all_iter q0 q1 q2 q3 q4 q5 Bn w h)
  have HFew := Lib.hid (list_few [q0, q1, q2, q3, q4, q5])
  have HLv := Lib.hid (fun w => lives_any w)
  generalize listB [q0, q1, q2, q3, q4, q5] = rs at *
  refine (callsIn_wide (n := 5)).1 ?_
  refine callsIn_of_wp_marks Try.func7 rfl trivial ?_ rfl
  simp only [Try.ntmps7, List.size_toArray, List.length_cons, List.length_nil, Nat.reduceAdd, Nat.reduceSub, Array.replicate_succ, Array.replicate_zero, List.push_toArray, List.append_toArray, List.nil_append, List.cons_append]
  refine wpIn_wide.2 ?_
  have G0 := Lib.hid (((BB.new w 23 q0 q1 q2 q3 q4 q5).alloc (.cells #[.int .u8 stop] 5)).alloc (.cells #[.bool false] 4))
  have S0 := Lib.hid ((Boxed.new (w.alloc (.cells #[.int .i64 q0, .int .i64 q1, .int .i64 q2, .int .i64 q3, .int .i64 q4, .int .i64 q5] 23)) 5 (.int .u8 stop)).alloc (.cells #[.bool false] 4))
  have R0 := Lib.hid (Boxed.new ((w.alloc (.cells #[.int .i64 q0, .int .i64 q1, .int .i64 q2, .int .i64 q3, .int .i64 q4, .int .i64 q5] 23)).alloc (.cells #[.int .u8 stop] 5)) 4 (.bool false))
  simp only [World.size_alloc] at S0 R0
  have B0 := Lib.hid (below_three w (.cells #[.int .i64 q0, .int .i64 q1, .int .i64 q2, .int .i64 q3, .int .i64 q4, .int .i64 q5] 23) (.cells #[.int .u8 stop] 5) (.cells #[.bool false] 4))
  go_upto_region 1 with (fail)
  generalize ((w.alloc (.cells #[.int .i64 q0, .int .i64 q1, .int .i64 q2, .int .i64 q3, .int .i64 q4, .int .i64 q5] 23)).alloc (.cells #[.int .u8 stop] 5)).alloc (.cells #[.bool false] 4) = W0 at G0 S0 R0 B0 ⊢
  obtain ⟨c0, c1, c2, c3, c4, c5⟩ := cells6 G0.out
  have hz0 : w.heap.size + 2 < W0.heap.size := R0.out.lt
  go_wp2_with fail
  refine (HLi.out _).mono ?_
  rintro ev1 W1 ⟨Ad, n, cap, rfl, hr, hb⟩
  have G1 := Lib.hid (G0.out.keep hb G0.out.lt)
  have S1 := Lib.hid ((hb.block _ S0.out.lt).trans S0.out)
  have R1 := Lib.hid ((hb.block _ R0.out.lt).trans R0.out)
  have B1 := Lib.hid (B0.out.trans (hb.mono B0.out.size))
  have RW := Lib.hid hr
  have hz1 := hb.size
  have hn := hr.few
  clear hb hr c0 c1 c2 c3 c4 c5 G0 S0 R0 B0 HLi
  go_upto_region 2 with (fail)
  have G2 := Lib.hid (G1.out.alloc (.cells #[.slice Ad n cap] 41))
  have S2 := Lib.hid (Boxed.alloc S1.out (.cells #[.slice Ad n cap] 41))
  have R2 := Lib.hid (Boxed.alloc R1.out (.cells #[.slice Ad n cap] 41))
  have B2 := Lib.hid (B1.out.alloc B1.out.size (.cells #[.slice Ad n cap] 41))
  have T2 := Lib.hid (Boxed.new W1 41 (.slice Ad n cap))
  have RW2 := Lib.hid (RW.out.reads.below (below_new W1 (.cells #[.slice Ad n cap] 41)))
  have hz2 : W1.heap.size < (W1.alloc (.cells #[.slice Ad n cap] 41)).heap.size := by simp
  have HN := Lib.hid RW.out.len
  have HC := Lib.hid RW.out.cap
  have HAl := Lib.hid RW.out.all
  clear G1 S1 R1 B1 RW
  generalize W1.alloc (.cells #[.slice Ad n cap] 41) = W2 at *
  generalize W1.heap.size = Bw at *
  obtain ⟨c0, c1, c2, c3, c4, c5⟩ := cells6 G2.out
  have hnf : ∀ w, (binOp .eql 44 (.func (.func 41) #[] #[.pointer (some ⟨W2.heap.size, 0, none⟩)]) .nilFunc).run Try.prog w = .ok (.bool false) w := fun w => by kernel_rfl
  go_wp2_with fail
  refine (all_any q0 q1 q2 q3 q4 q5 _).mono ?_
  rintro ev2 W3 ⟨rfl, rfl⟩
  clear c0 c1 c2 c3 c4 c5
  go_upto_region 5 with (fail)
  have O3 : Old w (W2.heap.size + 1) Bw W2.heap.size stop Ad n cap rs [q0, q1, q2, q3, q4, q5] (W2.alloc (.cells #[.int .i64 q0, .int .i64 q1, .int .i64 q2, .int .i64 q3, .int .i64 q4, .int .i64 q5] 23)) :=
    ⟨Boxed.alloc S2.out _, Boxed.alloc R2.out _, T2.out.alloc _, ((RW2.out.more (Nat.le_of_lt hz2)).below (below_new W2 _)).more (by simp), BB.new W2 _ _ _ _ _ _ _, B2.out.alloc B2.out.size _, by simp, by omega, by omega, by omega⟩
  have hs3 : (W2.alloc (.cells #[.int .i64 q0, .int .i64 q1, .int .i64 q2, .int .i64 q3, .int .i64 q4, .int .i64 q5] 23)).heap.size = W2.heap.size + 1 := by simp
  clear S2 R2 T2 RW2 B2 G2 hnf
  generalize W2.alloc (.cells #[.int .i64 q0, .int .i64 q1, .int .i64 q2, .int .i64 q3, .int .i64 q4, .int .i64 q5] 23) = W3 at *
  generalize W2.heap.size = Ba at *
  have O4 := Lib.hid (O3.keep (Y := W3.alloc (.cells #[.slice none 0 0] 41)) (by rw [← hs3]; exact below_new _ _))
  have T4 := Lib.hid (Boxed.new W3 41 (.slice none 0 0))
  rw [hs3] at T4
  have hs4 : (W3.alloc (.cells #[.slice none 0 0] 41)).heap.size = Ba + 2 := by simp; omega
  clear O3
  go_wp2
  generalize W3.alloc (.cells #[.slice none 0 0] 41) = W4 at *
  obtain ⟨i0, hi, hz0', hz1', hz2'⟩ := info_parts infoBun
  refine (wpIn_wide (n := 5)).1 (range_one 19 8 (gf := 41) (lb := #[.pointer (some ⟨Ba, 0, none⟩)]) (encs := fun x => #[aggB x]) (xs := rs) (Bn := Ba) rfl (enters_of Try.func41 (by kernel_rfl) rfl)
    (HIt.out Ba W4 O4.out.sup) (by omega) (fun _ => rfl)
    (fun e pre X => Old w (Ba + 1) Bw Ba stop Ad n cap rs [q0, q1, q2, q3, q4, q5] X ∧ ∃ v, Boxed X (Ba + 1) 41 v ∧ X.ownsRow e 23 6 v pre.length (cellsRs pre))
    (fun _ _ _ _ => False)
    ?hI (fun _ _ _ _ _ _ _ h _ => h) ?h0 ?assign ?body ?done (fun _ _ _ _ _ _ _ h _ => h.elim))
  case hI =>
    rintro e pre X Y he heX ⟨ho, v, hv, hr⟩ hs
    exact ⟨ho.step hs (by omega), v, (hs.heap hv.lt (.inl (by omega))).trans hv, own_step hr hs (Nat.le_refl _)⟩
  case h0 =>
    intro e X he heX hb
    exact ⟨O4.out.keep (hb.mono (by omega)), _, (hb.block _ (by omega)).trans T4.out, World.ownsRow_nil _ _ _ _⟩
  case assign =>
    rintro l e pre x X he heX ⟨ho, v, hv, hr⟩ hpre
    have hx6 : x.length = 6 := HAl.out x (hpre.subset (by simp))
    obtain ⟨x0, x1, x2, x3, x4, x5, rfl⟩ := six hx6
    clear hpre hx6
    simp only [aggB_lit, List.setIfInBounds_toArray, List.set_cons_zero, List.set_cons_succ]
    gi_wp2
    exact ⟨Kpt.alloc X _ (by omega) heX, ⟨ho.step (Stp.alloc (Ba + 1) e _ _) (Nat.le_refl _), v, hv.alloc _, hr.alloc _⟩, X.heap.size, heX, BB.new X _ _ _ _ _ _ _, rfl⟩
  case body =>
    rintro l e pre x Bx X he heX ⟨ho, v, hv, hr⟩ hpre hBx hbx
    have hx6 : x.length = 6 := HAl.out x (hpre.subset (by simp))
    have hlen : pre.length + 1 ≤ n := by have := hpre.length_le; rw [HN.out] at this; simpa using this
    obtain ⟨x0, x1, x2, x3, x4, x5, rfl⟩ := six hx6
    clear hx6 hpre
    simp only [aggB_lit, List.setIfInBounds_toArray, List.set_cons_zero, List.set_cons_succ]
    obtain ⟨c0, c1, c2, c3, c4, c5⟩ := cells6 hbx
    have cv := hv.cell
    have cw := ho.want.cell
    have HX2 := Lib.hid (BB.new X 23 x0 x1 x2 x3 x4 x5).row
    have LT := Lib.hid (fun g hg => hr.lt g hg)
    have hd : decide (n < pre.length + 1) = false := by simp; omega
    have HV := Lib.hid hv
    have HR := Lib.hid hr
    have HO := Lib.hid ho
    have HW := Lib.hid ho.want
    clear hv hr ho hbx
    gi_wp2_with (gi_at_builtin; refine wpListIn_append_own _ rfl _ _ 41 rfl e 23 i0 (.agg #[.int .i64 0, .int .i64 0, .int .i64 0, .int .i64 0, .int .i64 0, .int .i64 0]) 6 48 Try.underlying41 hi hz0' hz1' hz2' rfl (by decide) _ _ _ rfl (HR.out.alloc _) ⟨X.heap.size, 0, none⟩ 1 1 (cellsR [x0, x1, x2, x3, x4, x5]) rfl rfl HX2.out (cellsR_one _) (by unfold maxLen; omega) (by omega) (by simp; omega) ?_; intro v' w1 hown' hgrow _; obtain ⟨g', cap', rfl⟩ := ownsRow_succ hown'; have hv1 := (HV.out.alloc (.cells #[.int .i64 x0, .int .i64 x1, .int .i64 x2, .int .i64 x3, .int .i64 x4, .int .i64 x5] 23)).kept hgrow (fun he => absurd (LT.out _ he.symm).1 (by omega)); have hw1 := (HW.out.alloc (.cells #[.int .i64 x0, .int .i64 x1, .int .i64 x2, .int .i64 x3, .int .i64 x4, .int .i64 x5] 23)).kept hgrow (fun he => absurd (LT.out _ he.symm).1 (by have := HO.out.lt; omega)); have hc1 := hv1.cell; have hf1 := hv1.frozen; have hc2 := hw1.cell)
    have hg1 := LT.out
    have hol := HO.out.lt
    have lg : ∀ g, v.ownBlock = some g → e ≤ g := fun g hg => (hg1 g hg).1
    have k1 : Kpt Ba W4.heap.size e X w1 := by
      refine (Kpt.alloc X (.cells #[.int .i64 x0, .int .i64 x1, .int .i64 x2, .int .i64 x3, .int .i64 x4, .int .i64 x5] 23) (by omega) heX).trans ⟨hgrow.size, hgrow.block Ba (by simp; omega) (fun he => absurd (lg _ he.symm) (by omega)), fun k _ h2 => hgrow.block k (by simp; omega) (fun he => absurd (lg _ he.symm) (by omega))⟩
    have b1 : Below (Ba + 1) X w1 := ((Below.refl _ X).alloc (by omega) _).grown hgrow (by simp; omega) (fun k hk => by have := lg k hk; omega)
    have hown2 := hown'.lt g' rfl
    refine ⟨k1.trans (Kpt.setCell _ 0 _ (by omega) (.inl (by omega))), HO.out.keep (b1.setCell (p := ⟨Ba + 1, 0, none⟩) (Nat.le_refl _) _), _, hv1.set _, ?_⟩
    rw [List.length_append, cellsRs_append, cellsRs_one]
    exact hown'.kept (grownBy_setCell' w1 (Ba + 1) _) (.inr fun he => by
      have : g' = Ba + 1 := by simpa [Value.ownBlock] using he
      omega)
  case done =>
    rintro e Y he heY ⟨ho, v, hv, hr⟩ hD
    dsimp only
    have cv := hv.cell
    have cw := ho.want.cell
    rw [HN.out] at hr
    obtain ⟨A', cap', hv', hrw⟩ := (OwnR.form (B := e) (v := v) (rs := rs) ⟨by rw [HN.out]; exact hr, HAl.out⟩ (by rw [HN.out]; exact hn) : ∃ A' c', v = .slice A' rs.length c' ∧ Rws Y A' rs.length c' rs)
    subst hv'
    rw [HN.out] at hrw cv
    have RG := Lib.hid hrw
    have RWn : Hid (Rws Y Ad n cap rs) := Lib.hid ⟨ho.rows.more ho.size, HN.out, HC.out, hn, HAl.out⟩
    have HO := Lib.hid ho
    have HT := Lib.hid hv
    have HD := Lib.hid hD
    clear hr hrw ho hv hD
    go_wp2_with fail
    go_loopw [9] (fun t wr => ∃ k q : Nat, k ≤ n ∧ t = .int .i64 k ∧ wr = Y.drewN q) (fun t _ => n - (intOf t).toNat)
    case atStart => exact ⟨0, 0, Nat.zero_le _, rfl, rfl⟩
    case round =>
      obtain ⟨k, q, hk, rfl, rfl⟩ := hrel
      by_cases hlt : k < n
      · obtain ⟨ad, x0, x1, x2, x3, x4, x5, rfl, hrow, hadl, e0, e1, e2, e3, e4, e5⟩ := RG.out.at_ hlt
        obtain ⟨ad2, y0, y1, y2, y3, y4, y5, rfl, hrow2, hadl2, f0, f1, f2, f3, f4, f5⟩ := RWn.out.at_ hlt
        have hh := hrow.symm.trans hrow2
        simp only [Option.some.injEq, List.cons.injEq, and_true] at hh
        obtain ⟨rfl, rfl, rfl, rfl, rfl, rfl⟩ := hh
        have qe := same_one [x0, x1, x2, x3, x4, x5] rfl
        have qe' : ∀ w, (Op.equalIn 10000 23 (.agg #[.int .i64 x0, .int .i64 x1, .int .i64 x2, .int .i64 x3, .int .i64 x4, .int .i64 x5]) (.agg #[.int .i64 x0, .int .i64 x1, .int .i64 x2, .int .i64 x3, .int .i64 x4, .int .i64 x5])).run Try.prog w = .ok true w := qe
        clear hrow hrow2 qe
        go_wp2
        go_quiet (fail)
        go_wp2
        go_roundw
        case rel => exact ⟨k + 1, _, hlt, by go_num, rfl⟩
        case measure => simp [intOf]; omega
      · obtain rfl : k = n := by omega
        have hzY := HO.out.size
        have hq : Below Y.heap.size Y (Y.drewN q) := below_drewN (Below.refl _ _) q
        have O5 := Lib.hid (HO.out.keep (hq.mono hzY))
        have D5 := Lib.hid ((hq.block _ (Array.getElem?_eq_some_iff.1 HD.out).1).trans HD.out)
        have hY5 := hq.size
        clear hq cv cw RG RWn HT HO HD
        generalize Y.drewN q = V at *
        have cw := O5.out.want.cell
        have O6 := Lib.hid (O5.out.keep (Y := V.alloc (.cells #[.int .i64 0] 3)) ((Below.refl _ _).alloc O5.out.size _))
        have N6 := Lib.hid (Boxed.new V 3 (.int .i64 0))
        have D6 := Lib.hid ((Below.heap_alloc V (.cells #[.int .i64 0] 3) _ (Array.getElem?_eq_some_iff.1 D5.out).1).trans D5.out)
        have hs6 : (V.alloc (.cells #[.int .i64 0] 3)).heap.size = V.heap.size + 1 := by simp
        go_wp2
        generalize V.alloc (.cells #[.int .i64 0] 3) = W6 at *
        generalize V.heap.size = Bk at *
        clear O5 D5 cw
        rw [hs4] at D6
        refine (wpIn_wide (n := 5)).1 (range_one 50 11 (gf := 41) (lb := #[.pointer (some ⟨Ba, 0, none⟩)]) (encs := fun x => #[aggB x]) (xs := rs) (Bn := Ba) rfl (enters_of Try.func41 (by kernel_rfl) rfl)
          (HIt.out Ba W6 O6.out.sup) (by omega) (fun _ => rfl)
          (fun _ pre X => Old w (Ba + 1) Bw Ba stop Ad k cap rs [q0, q1, q2, q3, q4, q5] X ∧ Boxed X Bk 3 (.int .i64 pre.length) ∧ X.heap[Ba + 2]? = some (.deferred (some [])) ∧ (pre.length : Int) ≤ stop)
          (fun c _ pre X => c = .exit 4 ∧ Old w (Ba + 1) Bw Ba stop Ad k cap rs [q0, q1, q2, q3, q4, q5] X ∧ Boxed X Bk 3 (.int .i64 pre.length) ∧ X.heap[Ba + 2]? = some (.deferred (some [])) ∧ (pre.length : Int) = stop + 1)
          ?hI ?hIx ?h0 ?assign ?body ?done ?stop)
        case hI =>
          rintro e pre X Z he heX ⟨ho, hb, hd, hl⟩ hs
          exact ⟨ho.step hs (by omega), (hs.heap hb.lt (.inl (by omega))).trans hb, (hs.heap (Array.getElem?_eq_some_iff.1 hd).1 (.inl (by omega))).trans hd, hl⟩
        case hIx =>
          rintro c e pre X Z he heX ⟨rfl, ho, hb, hd, hl⟩ hs
          exact ⟨rfl, ho.step hs (by omega), (hs.heap hb.lt (.inl (by omega))).trans hb, (hs.heap (Array.getElem?_eq_some_iff.1 hd).1 (.inl (by omega))).trans hd, hl⟩
        case h0 =>
          intro e X he heX hb
          exact ⟨O6.out.keep (hb.mono (by omega)), (hb.block _ (by omega)).trans N6.out, (hb.block _ (by omega)).trans D6.out, hst.1⟩
        case assign =>
          rintro l e pre x X he heX ⟨ho, hb, hd, hl⟩ hpre
          have hx6 : x.length = 6 := HAl.out x (hpre.subset (by simp))
          obtain ⟨x0, x1, x2, x3, x4, x5, rfl⟩ := six hx6
          clear hpre hx6
          simp only [aggB_lit, List.setIfInBounds_toArray, List.set_cons_zero, List.set_cons_succ]
          gi_wp2
          exact ⟨Kpt.alloc X _ (by omega) heX, ⟨ho.step (Stp.alloc (Ba + 1) e _ _) (Nat.le_refl _), hb.alloc _, (Below.heap_alloc X _ _ (Array.getElem?_eq_some_iff.1 hd).1).trans hd, hl⟩, X.heap.size, heX, BB.new X _ _ _ _ _ _ _, rfl⟩
        case body =>
          rintro l e pre x Bx X he heX ⟨ho, hb, hd, hl⟩ hpre hBx hbx
          have hx6 : x.length = 6 := HAl.out x (hpre.subset (by simp))
          have hlen : pre.length + 1 ≤ k := by have := hpre.length_le; rw [HN.out] at this; simpa using this
          have hrow : rs[pre.length]? = some x := by
            obtain ⟨suf, hsuf⟩ := hpre
            rw [← hsuf]
            simp
          have RWn : Rws X Ad k cap rs := ⟨ho.rows.more ho.size, HN.out, HC.out, hn, HAl.out⟩
          obtain ⟨x0, x1, x2, x3, x4, x5, rfl⟩ := six hx6
          obtain ⟨ad, y0, y1, y2, y3, y4, y5, rfl, hrow2, hadl, e0, e1, e2, e3, e4, e5⟩ := RWn.at_ (k := pre.length) (by omega)
          have hh := hrow.symm.trans hrow2
          simp only [Option.some.injEq, List.cons.injEq, and_true] at hh
          obtain ⟨rfl, rfl, rfl, rfl, rfl, rfl⟩ := hh
          have qe : ∀ w, (Op.equalIn 10000 23 (.agg #[.int .i64 x0, .int .i64 x1, .int .i64 x2, .int .i64 x3, .int .i64 x4, .int .i64 x5]) (.agg #[.int .i64 x0, .int .i64 x1, .int .i64 x2, .int .i64 x3, .int .i64 x4, .int .i64 x5])).run Try.prog w = .ok true w := same_one [x0, x1, x2, x3, x4, x5] rfl
          clear hx6 hpre hrow hrow2
          simp only [aggB_lit, List.setIfInBounds_toArray, List.set_cons_zero, List.set_cons_succ]
          obtain ⟨c0, c1, c2, c3, c4, c5⟩ := cells6 hbx
          have cb := hb.cell
          have fb := hb.frozen
          have cw := ho.want.cell
          have cs := ho.stop.cell
          have hd1 : decide (k ≤ pre.length) = false := by simp; omega
          have hlK : (pre.length : Int) + 1 ≤ 100001 := by omega
          have HO := Lib.hid ho
          have HB := Lib.hid hb
          have HDx := Lib.hid hd
          generalize hpl : pre.length = m at *
          have HPL := Lib.hid hpl
          clear ho hb hd hpl RWn hbx
          gi_wp2_with fail
          refine round_quiet (C := fun w' => ∃ n, w' = X.drewN n) (plain_of (by kernel_rfl)) (by kernel_rfl) (by kernel_rfl) ⟨1, rfl⟩ ?_
          repeat (any_goals (first | go_big_quiet_step (fail) | quiet_step (fail)))
          refine wpQuiet_nil ?_
          rintro _ ⟨nq, rfl⟩
          obtain ⟨hst0, hst1⟩ := hst
          have hBX : Below X.heap.size X (X.drewN nq) := below_drewN (Below.refl _ _) nq
          have hKX : Kpt Ba W6.heap.size e X (X.drewN nq) := Kpt.below hBX (by omega) heX
          have B7 := Lib.hid ((hBX.block _ HB.out.lt).trans HB.out)
          have O7 := Lib.hid (HO.out.keep (hBX.mono HO.out.size))
          have D7 := Lib.hid ((hBX.block _ (Array.getElem?_eq_some_iff.1 HDx.out).1).trans HDx.out)
          clear hBX c0 c1 c2 c3 c4 c5 e0 e1 e2 e3 e4 e5 qe cb fb cw cs
          generalize X.drewN nq = X7 at *
          have cb := (show Boxed X7 Bk 3 (.int .i64 m) from B7.out).cell
          have fb := (show Boxed X7 Bk 3 (.int .i64 m) from B7.out).frozen
          have cs := O7.out.stop.cell
          have HS6 := Lib.hid hs6
          clear hs6
          by_cases hgt : stop < (m : Int) + 1
          · have hgd : decide (stop < (m : Int) + 1) = true := by simpa using hgt
            gi_wp2
            have hs6 := HS6.out
            refine ⟨hKX.trans (Kpt.setCell _ 0 _ (by omega) (.inl (by omega))), rfl, O7.out.keep ((Below.refl _ _).setCell (p := ⟨Bk, 0, none⟩) (by show Ba + 1 ≤ Bk; omega) _), ?_, ?_, ?_⟩
            · rw [List.length_append, HPL.out]
              exact Boxed.set _ B7.out
            · exact (Below.heap_setCell _ _ _ _ (by show Ba + 2 ≠ Bk; omega)).trans D7.out
            · rw [List.length_append, HPL.out]
              simp only [List.length_cons, List.length_nil]
              omega
          · have hgd : decide (stop < (m : Int) + 1) = false := by simpa using hgt
            gi_wp2
            have hs6 := HS6.out
            refine ⟨hKX.trans (Kpt.setCell _ 0 _ (by omega) (.inl (by omega))), O7.out.keep ((Below.refl _ _).setCell (p := ⟨Bk, 0, none⟩) (by show Ba + 1 ≤ Bk; omega) _), ?_, ?_, ?_⟩
            · rw [List.length_append, HPL.out]
              exact Boxed.set _ B7.out
            · exact (Below.heap_setCell _ _ _ _ (by show Ba + 2 ≠ Bk; omega)).trans D7.out
            · rw [List.length_append, HPL.out]
              simp only [List.length_cons, List.length_nil]
              omega
        case done =>
          rintro e2 Z he2 heZ ⟨ho, hb, hd, hl⟩ hD
          dsimp only
          rw [HN.out] at hb hl
          obtain ⟨hst0, hst1⟩ := hst
          have cb := hb.cell
          have cw := ho.want.cell
          have cs := ho.stop.cell
          have hmn : ¬ (stop + 1 < (k : Int)) := by omega
          have hmd : decide (stop + 1 < (k : Int)) = false := by simpa using hmn
          have HO := Lib.hid ho
          have HD1 := Lib.hid hd
          rw [hs6] at hD
          have HD2 := Lib.hid hD
          clear ho hb hd hD
          go_wp2_with fail
          refine (HLv.out _).mono ?_
          rintro ev9 W9 ⟨rfl, hb9⟩
          have O9 := HO.out.keep (hb9.mono HO.out.size)
          have cr := O9.res.cell
          have fr := O9.res.frozen
          have D1 := (hb9.block _ (Array.getElem?_eq_some_iff.1 HD1.out).1).trans HD1.out
          have D2 := (hb9.block _ (Array.getElem?_eq_some_iff.1 HD2.out).1).trans HD2.out
          have hol := O9.lt
          have HR9 := Lib.hid O9.res
          have HB9 := Lib.hid O9.below
          have HS6 := Lib.hid hs6
          have HS4 := Lib.hid hs4
          have HD1' := Lib.hid D1
          have HD2' := Lib.hid D2
          clear D1 D2 O9 hs6 hs4 hb9
          go_wp2
          have hs6 := HS6.out
          have hs4 := HS4.out
          have d2 := (Below.heap_setCell W9 ⟨w.heap.size + 1 + 1, 0, none⟩ (.bool true) (Bk + 1) (by show Bk + 1 ≠ w.heap.size + 1 + 1; omega)).trans HD2'.out
          have d1 := (Below.heap_setCell W9 ⟨w.heap.size + 1 + 1, 0, none⟩ (.bool true) (Ba + 2) (by show Ba + 2 ≠ w.heap.size + 1 + 1; omega)).trans HD1'.out
          have hr := Boxed.set (.bool true) HR9.out
          have hb := HB9.out.setCell (p := ⟨w.heap.size + 1 + 1, 0, none⟩) (by show w.heap.size ≤ w.heap.size + 1 + 1; omega) (.bool true)
          exact leave_two _ _ _ _ _ _ (by omega) (by omega) (by omega) ⟨by omega, by omega⟩ rfl (by first | exact d2 | (rw [hs6]; exact d2)) (by first | exact d1 | (rw [hs4]; exact d1)) hr hb
        case stop =>
          rintro c e2 pre Z he2 heZ hpre ⟨rfl, ho, hb, hd, hl⟩ hD
          dsimp only
          refine (wpIn_wide (n := 5)).2 ?_
          have hpk : pre.length ≤ k := by have := hpre.length_le; rw [HN.out] at this; exact this
          obtain ⟨hst0, hst1⟩ := hst
          rw [hl] at hb
          have cb := hb.cell
          have cw := ho.want.cell
          have cs := ho.stop.cell
          have hkk : (k : Int) ≤ 100000 := by omega
          have HO := Lib.hid ho
          have HD1 := Lib.hid hd
          rw [hs6] at hD
          have HD2 := Lib.hid hD
          have hle : stop + 1 ≤ (k : Int) := by omega
          have HL := Lib.hid hl
          clear ho hb hd hD hl hpre hpk
          by_cases hmn : stop + 1 < (k : Int)
          · have hmd : decide (stop + 1 < (k : Int)) = true := by simpa using hmn
            go_wp2_with fail
            refine (HLv.out _).mono ?_
            rintro ev9 W9 ⟨rfl, hb9⟩
            have O9 := HO.out.keep (hb9.mono HO.out.size)
            have cr := O9.res.cell
            have fr := O9.res.frozen
            have D1 := (hb9.block _ (Array.getElem?_eq_some_iff.1 HD1.out).1).trans HD1.out
            have D2 := (hb9.block _ (Array.getElem?_eq_some_iff.1 HD2.out).1).trans HD2.out
            have hol := O9.lt
            have HR9 := Lib.hid O9.res
            have HB9 := Lib.hid O9.below
            have HS6 := Lib.hid hs6
            have HS4 := Lib.hid hs4
            have HD1' := Lib.hid D1
            have HD2' := Lib.hid D2
            clear D1 D2 O9 hs6 hs4 hb9
            go_wp2
            have hs6 := HS6.out
            have hs4 := HS4.out
            have d2 := (Below.heap_setCell W9 ⟨w.heap.size + 1 + 1, 0, none⟩ (.bool true) (Bk + 1) (by show Bk + 1 ≠ w.heap.size + 1 + 1; omega)).trans HD2'.out
            have d1 := (Below.heap_setCell W9 ⟨w.heap.size + 1 + 1, 0, none⟩ (.bool true) (Ba + 2) (by show Ba + 2 ≠ w.heap.size + 1 + 1; omega)).trans HD1'.out
            have hr := Boxed.set (.bool true) HR9.out
            have hb := HB9.out.setCell (p := ⟨w.heap.size + 1 + 1, 0, none⟩) (by show w.heap.size ≤ w.heap.size + 1 + 1; omega) (.bool true)
            exact leave_two _ _ _ _ _ _ (by omega) (by omega) (by omega) ⟨by omega, by omega⟩ rfl (by first | exact d2 | (rw [hs6]; exact d2)) (by first | exact d1 | (rw [hs4]; exact d1)) hr hb
          · have hmd : decide (stop + 1 < (k : Int)) = false := by simpa using hmn
            have hme : ((stop + 1 : Int) == (k : Int)) = true := by simp; omega
            go_wp2_with fail
            refine (HLv.out _).mono ?_
            rintro ev9 W9 ⟨rfl, hb9⟩
            have O9 := HO.out.keep (hb9.mono HO.out.size)
            have cr := O9.res.cell
            have fr := O9.res.frozen
            have D1 := (hb9.block _ (Array.getElem?_eq_some_iff.1 HD1.out).1).trans HD1.out
            have D2 := (hb9.block _ (Array.getElem?_eq_some_iff.1 HD2.out).1).trans HD2.out
            have hol := O9.lt
            have HR9 := Lib.hid O9.res
            have HB9 := Lib.hid O9.below
            have HS6 := Lib.hid hs6
            have HS4 := Lib.hid hs4
            have HD1' := Lib.hid D1
            have HD2' := Lib.hid D2
            clear D1 D2 O9 hs6 hs4 hb9
            go_wp2
            have hs6 := HS6.out
            have hs4 := HS4.out
            have d2 := (Below.heap_setCell W9 ⟨w.heap.size + 1 + 1, 0, none⟩ (.bool true) (Bk + 1) (by show Bk + 1 ≠ w.heap.size + 1 + 1; omega)).trans HD2'.out
            have d1 := (Below.heap_setCell W9 ⟨w.heap.size + 1 + 1, 0, none⟩ (.bool true) (Ba + 2) (by show Ba + 2 ≠ w.heap.size + 1 + 1; omega)).trans HD1'.out
            have hr := Boxed.set (.bool true) HR9.out
            have hb := HB9.out.setCell (p := ⟨w.heap.size + 1 + 1, 0, none⟩) (by show w.heap.size ≤ w.heap.size + 1 + 1; omega) (.bool true)
            exact leave_two _ _ _ _ _ _ (by omega) (by omega) (by omega) ⟨by omega, by omega⟩ rfl (by first | exact d2 | (rw [hs6]; exact d2)) (by first | exact d1 | (rw [hs4]; exact d1)) hr hb
end Go.Proofs.Ytajdbpkcakkhdaa
