/- Splits's iterator: no claim of its own. -/
import Derived.Test.YtajdbpkcakkhdaaBTail
namespace Go.Proofs.Ytajdbpkcakkhdaa
open Go.RowKit
attribute [local go_sem] Oper.semAt_some
theorem halves_yes' {s : List Int} (h : MB.okB s = true) : halvesB s = MB.row s 6 (MB.P s 6) := if_pos h
theorem halves_no' {s : List Int} (h : MB.okB s = false) : halvesB s = [] := if_neg (by rw [h]; exact fun k => by cases k)
/-- What a round is handed: a bundle, and what it lacks. -/
def encS (s x : List Int) : Array Value := #[aggB x, aggB (subB s x)]
set_option maxRecDepth 100000 in
set_option maxHeartbeats 4000000 in
theorem splits_iter_yes (q0 q1 q2 q3 q4 q5 : Int) (hs : MB.okB [q0, q1, q2, q3, q4, q5] = true) (Bn : Nat) (w : World) (hbox : BB w Bn 23 [q0, q1, q2, q3, q4, q5]) :
    Iter 43 #[.pointer (some ⟨Bn, 0, none⟩)] (encS [q0, q1, q2, q3, q4, q5]) (MB.row [q0, q1, q2, q3, q4, q5] 6 (MB.P [q0, q1, q2, q3, q4, q5] 6)) Bn w := by
  intro l W J Jx hW hJ hJx hY h0
  show CallsIn Fence.wide 5 Try.prog 43 #[.func (.yield l) #[] #[], .pointer (some ⟨Bn, 0, none⟩)] W (RI J Jx (MB.row [q0, q1, q2, q3, q4, q5] 6 (MB.P [q0, q1, q2, q3, q4, q5] 6)) W.heap.size)
  have HJ := Lib.hid hJ
  have HJx := Lib.hid hJx
  have HY := Lib.hid hY
  have H0 := Lib.hid h0
  have HCh := Lib.hid (fun w => check_any q0 q1 q2 q3 q4 q5 w)
  rw [chk_ok hs] at HCh
  have HSb := Lib.hid (fun x0 x1 x2 x3 x4 x5 w => sub_any q0 q1 q2 q3 q4 q5 x0 x1 x2 x3 x4 x5 w)
  have HO := Lib.hid hs
  have HBn := Lib.hid (hbox.keep hW hbox.lt)
  have HAl := Lib.hid (row_all [q0, q1, q2, q3, q4, q5] 6 (MB.P [q0, q1, q2, q3, q4, q5] 6) (by decide))
  obtain ⟨xs, hxs⟩ : ∃ xs, xs = MB.row [q0, q1, q2, q3, q4, q5] 6 (MB.P [q0, q1, q2, q3, q4, q5] 6) := ⟨_, rfl⟩
  rw [← hxs] at HY HAl ⊢
  have HXS := Lib.hid hxs
  clear hJ hJx hY h0 hbox hW hs hxs
  have hmf : ∀ (fn : Fn) (first cap : Array Value) (w : World), (Instr.makeFunc fn first cap).run Try.prog w = .ok (.func fn first cap) w := fun _ _ _ _ => rfl
  refine callsIn_of_wp_marks Try.func43 rfl trivial ?_ rfl
  simp only [Try.ntmps43, List.size_toArray, List.length_cons, List.length_nil, Nat.reduceAdd, Nat.reduceSub, Array.replicate_succ, Array.replicate_zero, List.push_toArray, List.append_toArray, List.nil_append, List.cons_append]
  obtain ⟨c0, c1, c2, c3, c4, c5⟩ := cells6 HBn.out
  have hBn := HBn.out.lt
  gi_wp2_with fail
  refine ⟨trivial, (callsIn_wide.2 (HCh.out _)).mono ?_⟩
  rintro ev1 W1 ⟨rfl, hb⟩
  have Y1 := Lib.hid (Boxed.new W 27 (.func (.yield l) #[] #[]))
  have Bw := Lib.hid (below_new W (.cells #[.func (.yield l) #[] #[]] 27))
  have N1 := Lib.hid (((HBn.out.alloc (.cells #[.func (.yield l) #[] #[]] 27))).keep hb (by simp; omega))
  have Y2 := Lib.hid (Y1.out.kept (W' := W1) (row := none) ⟨hb.os, hb.tape, hb.output, hb.size, fun k hk _ => hb.block k hk⟩ (by simp))
  have Bw1 := Lib.hid (Bw.out.trans (hb.mono Bw.out.size))
  clear hb c0 c1 c2 c3 c4 c5 HBn Y1 Bw
  obtain ⟨c0, c1, c2, c3, c4, c5⟩ := cells6 N1.out
  gi_wp2_with fail
  refine ⟨trivial, (callsIn_wide.2 (upTo_any q0 q1 q2 q3 q4 q5 _)).mono ?_⟩
  rintro ev2 W2 ⟨rfl, rfl⟩
  have Bi := Lib.hid (BB.new W1 23 q0 q1 q2 q3 q4 q5)
  have Y3 := Lib.hid (Y2.out.alloc (.cells #[.int .i64 q0, .int .i64 q1, .int .i64 q2, .int .i64 q3, .int .i64 q4, .int .i64 q5] 23))
  have N3 := Lib.hid (N1.out.alloc (.cells #[.int .i64 q0, .int .i64 q1, .int .i64 q2, .int .i64 q3, .int .i64 q4, .int .i64 q5] 23))
  have Bw2 := Lib.hid (Bw1.out.alloc Bw1.out.size (.cells #[.int .i64 q0, .int .i64 q1, .int .i64 q2, .int .i64 q3, .int .i64 q4, .int .i64 q5] 23))
  have hz1 := Bw1.out.size
  have hz2 := Y2.out.lt
  have hz3 : (W1.alloc (.cells #[.int .i64 q0, .int .i64 q1, .int .i64 q2, .int .i64 q3, .int .i64 q4, .int .i64 q5] 23)).heap.size = W1.heap.size + 1 := by simp
  clear c0 c1 c2 c3 c4 c5 N1 Y2 Bw1
  generalize W1.alloc (.cells #[.int .i64 q0, .int .i64 q1, .int .i64 q2, .int .i64 q3, .int .i64 q4, .int .i64 q5] 23) = W2 at *
  generalize W1.heap.size = g1 at *
  gi_wp2_with fail
  refine range_law (gf := 45) (lb := #[.pointer (some ⟨g1, 0, none⟩)]) (encs := fun x => #[aggB x]) (xs := xs) (Bn := g1) rfl (enters_of Try.func45 (by kernel_rfl) rfl)
    (by rw [HXS.out]; exact upTo_iter q0 q1 q2 q3 q4 q5 HO.out g1 W2 Bi.out) (by omega) (fun _ => rfl)
    (fun e pre X => J e pre X ∧ Boxed X W.heap.size 27 (.func (.yield l) #[] #[]) ∧ BB X Bn 23 [q0, q1, q2, q3, q4, q5])
    (fun c e pre X => c = .ret ∧ Jx e pre X)
    ?hI ?hIx ?h0
    (fun k0 x a' X => ∃ Bx, k0 ≤ Bx ∧ BB X Bx 23 x ∧ a' = { tmps := #[.func (.yield l) #[] #[], .pointer (some ⟨Bn, 0, none⟩), .pointer (some ⟨W.heap.size, 0, none⟩), .pointer (some ⟨Bx, 0, none⟩), .agg #[.int .i64 q0, .int .i64 q1, .int .i64 q2, .int .i64 q3, .int .i64 q4, .int .i64 q5], .int .i64 0, .bool false, .agg #[.int .i64 q0, .int .i64 q1, .int .i64 q2, .int .i64 q3, .int .i64 q4, .int .i64 q5], .func (.func 45) #[] #[.pointer (some ⟨g1, 0, none⟩)], aggB x, undef, undef, undef, undef, undef, undef, undef], defers := [] })
    ?hAx ?assign ?body ?done ?stop
  case hI =>
    rintro e pre X Y he heX ⟨hj, hb, hn⟩ hs
    exact ⟨HJ.out e pre X Y (by omega) heX hj (hs.mono (by omega) (Nat.le_refl _)), (hs.heap hb.lt (.inl (by omega))).trans hb, ⟨(hs.heap hn.lt (.inl (by omega))).trans hn.1, hn.2⟩⟩
  case hIx =>
    rintro c e pre X Y he heX ⟨rfl, hj⟩ hs
    exact ⟨rfl, HJx.out e pre X Y (by omega) heX hj (hs.mono (by omega) (Nat.le_refl _))⟩
  case h0 =>
    intro e X he heX hb
    exact ⟨H0.out e X (by omega) heX (Bw2.out.trans (hb.mono (by omega))), (hb.block _ (by omega)).trans Y3.out, N3.out.keep hb (by omega)⟩
  case hAx =>
    rintro e x a' X Y heX ⟨Bx, h1, h2, rfl⟩ hs
    exact ⟨Bx, h1, ⟨(hs.heap h2.lt (.inr h1)).trans h2.1, h2.2⟩, rfl⟩
  case assign =>
    rintro l' e pre x X he heX hi hpre
    have hx6 : x.length = 6 := HAl.out x (hpre.subset (by simp))
    obtain ⟨x0, x1, x2, x3, x4, x5, rfl⟩ := six hx6
    clear hpre hx6
    simp only [aggB_lit]
    obtain ⟨hj, hb, hn⟩ := hi
    gi_wp2
    exact ⟨Kpt.alloc X _ (by omega) heX, ⟨HJ.out e pre X _ (by omega) heX hj (Stp.alloc _ _ _ _), hb.alloc _, hn.alloc _⟩, X.heap.size, heX, BB.new X _ _ _ _ _ _ _, rfl⟩
  case body =>
    rintro l' e pre x a' X he heX ⟨hj, hb, hn⟩ hpre ⟨Bx, hBx, hbx, rfl⟩
    have hx6 : x.length = 6 := HAl.out x (hpre.subset (by simp))
    obtain ⟨x0, x1, x2, x3, x4, x5, rfl⟩ := six hx6
    simp only [aggB_lit]
    have HSx := Lib.hid (HSb.out x0 x1 x2 x3 x4 x5)
    have HPre := Lib.hid hpre
    have HJX := Lib.hid hj
    have HB := Lib.hid hb
    have HN := Lib.hid hn
    obtain ⟨c0, c1, c2, c3, c4, c5⟩ := cells6 hbx
    obtain ⟨d0, d1, d2, d3, d4, d5⟩ := cells6 hn
    have cy := hb.cell
    obtain ⟨ys, hys⟩ : ∃ ys, ys = subB [q0, q1, q2, q3, q4, q5] [x0, x1, x2, x3, x4, x5] := ⟨_, rfl⟩
    rw [← hys] at HSx
    have HYS := Lib.hid hys
    have hBX : ∀ p : Regrown, Below X.heap.size X (Go.Sort.grow (redrawn X p.d) p.os) := fun p => below_regrown X p.d p.os
    have hkX := heX
    clear hpre hx6 hb hn hj hys hbx
    have k0 := cell_regrown c0
    have k1 := cell_regrown c1
    have k2 := cell_regrown c2
    have k3 := cell_regrown c3
    have k4 := cell_regrown c4
    have k5 := cell_regrown c5
    have m0 := cell_regrown d0
    have m1 := cell_regrown d1
    have m2 := cell_regrown d2
    have m3 := cell_regrown d3
    have m4 := cell_regrown d4
    have m5 := cell_regrown d5
    have ky := cell_regrown cy
    have cS := fun d os => Calls.regrown_of (HSx.out (Go.Sort.grow (redrawn X d) os))
    have hmo : Try.prog.follows .mixedOrders = true := by kernel_rfl
    clear c0 c1 c2 c3 c4 c5 d0 d1 d2 d3 d4 d5 cy
    gi_wp2_with fail
    refine round_cut (C := fun w' => ∃ p : Regrown, w' = Go.Sort.grow (redrawn X p.d) p.os) 5 (by kernel_rfl) (by kernel_rfl) hmo (by kernel_rfl) (by kernel_rfl) ⟨⟨X.drawn + 1, #[]⟩, by rw [Go.Sort.grow_empty]; rfl⟩ ?_
    simp only [List.take_succ_cons, List.take_zero, List.drop_succ_cons, List.drop_zero]
    repeat (quiet_step (exact cS _ _))
    refine wpQuiet_nil ?_
    rintro _ ⟨pg, rfl⟩
    have hBV := hBX pg
    have NV := Lib.hid (HN.out.keep hBV HN.out.lt)
    have YV := Lib.hid ((hBV.block _ HB.out.lt).trans HB.out)
    have JV := Lib.hid (HJ.out e pre X _ (by omega) heX HJX.out (Stp.below hBV))
    have hzV := hBV.size
    have KV : Kpt Bn W.heap.size e X (Go.Sort.grow (redrawn X pg.d) pg.os) := Kpt.below hBV (by omega) heX
    clear hBV k0 k1 k2 k3 k4 k5 m0 m1 m2 m3 m4 m5 ky cS hmo hBX HB HN HJX
    generalize Go.Sort.grow (redrawn X pg.d) pg.os = V at *
    obtain ⟨fn, tmps, assign, body, hy, hRd⟩ := HY.out e pre [x0, x1, x2, x3, x4, x5] V (by omega) (by omega) JV.out HPre.out
    rw [show encS [q0, q1, q2, q3, q4, q5] [x0, x1, x2, x3, x4, x5] = #[aggB [x0, x1, x2, x3, x4, x5], aggB ys] by rw [HYS.out]; rfl, aggB_lit] at hy
    have HRd := Lib.hid hRd
    have cy := (show Boxed V W.heap.size 27 (.func (.yield l) #[] #[]) from YV.out).cell
    clear hRd
    gi_wp2_with fail
    refine (round_any HRd.out).mono ?_
    have kpt : ∀ {Y : World}, Kpt Bn W.heap.size e V Y → Kpt g1 W2.heap.size e X Y := fun hk' => by
      have hk := KV.trans hk'
      exact ⟨hk.size, hk.own _ (by omega) (by omega), fun k h1 h2 => hk.own k (by omega) h2⟩
    rintro ev Y (⟨rfl, hj2, hk⟩ | ⟨rfl, hj2, hk⟩)
    · have hb2 := (hk.own W.heap.size (Nat.le_refl _) (by omega)).trans YV.out
      have hn2 : BB Y Bn 23 [q0, q1, q2, q3, q4, q5] := ⟨hk.one.trans NV.out.1, NV.out.2⟩
      gi_wp2
      exact ⟨kpt hk, hj2, hb2, hn2⟩
    · gi_wp2
      exact ⟨kpt hk, rfl, hj2⟩
  case done =>
    rintro e Y he heY ⟨hj, _⟩ hD
    refine ⟨by simp, .inl ⟨_, _, rfl, run_takeDeferred hD, ?_⟩⟩
    refine ⟨_, results_none rfl _ _ _, ⟨_, rfl⟩, e, by omega, by simp; exact heY, .inl (HJ.out e _ Y _ (by omega) heY hj (Stp.putObj _ _ (by omega) (by omega)))⟩
  case stop =>
    rintro c e pre Y he heY hpre ⟨rfl, hj⟩ hD
    gi_wp2
    refine ⟨by simp, .inl ⟨_, _, rfl, run_takeDeferred hD, ?_⟩⟩
    refine ⟨_, results_none rfl _ _ _, ⟨_, rfl⟩, e, by omega, by simp; exact heY, .inr ⟨pre, hpre, HJx.out e _ Y _ (by omega) heY hj (Stp.putObj _ _ (by omega) (by omega))⟩⟩
set_option maxRecDepth 100000 in
set_option maxHeartbeats 4000000 in
theorem splits_iter_no (q0 q1 q2 q3 q4 q5 : Int) (hs : MB.okB [q0, q1, q2, q3, q4, q5] = false) (Bn : Nat) (w : World) (hbox : BB w Bn 23 [q0, q1, q2, q3, q4, q5]) :
    Iter 43 #[.pointer (some ⟨Bn, 0, none⟩)] (encS [q0, q1, q2, q3, q4, q5]) [] Bn w := by
  intro l W J Jx hW hJ hJx hY h0
  show CallsIn Fence.wide 5 Try.prog 43 #[.func (.yield l) #[] #[], .pointer (some ⟨Bn, 0, none⟩)] W (RI J Jx [] W.heap.size)
  have H0 := Lib.hid h0
  have HCh := Lib.hid (fun w => check_any q0 q1 q2 q3 q4 q5 w)
  rw [chk_no hs] at HCh
  have HBn := Lib.hid (hbox.keep hW hbox.lt)
  clear hJ hJx hY h0 hbox hW hs
  refine callsIn_of_wp_marks Try.func43 rfl trivial ?_ rfl
  simp only [Try.ntmps43, List.size_toArray, List.length_cons, List.length_nil, Nat.reduceAdd, Nat.reduceSub, Array.replicate_succ, Array.replicate_zero, List.push_toArray, List.append_toArray, List.nil_append, List.cons_append]
  obtain ⟨c0, c1, c2, c3, c4, c5⟩ := cells6 HBn.out
  have hBn := HBn.out.lt
  gi_wp2_with fail
  refine ⟨trivial, (callsIn_wide.2 (HCh.out _)).mono ?_⟩
  rintro ev1 W1 ⟨rfl, hb⟩
  have Bw := Lib.hid ((below_new W (.cells #[.func (.yield l) #[] #[]] 27)).trans (hb.mono (by simp)))
  clear hb
  gi_wp2
  refine ⟨_, results_none rfl _ _ _, ⟨_, rfl⟩, W.heap.size, Nat.le_refl _, Bw.out.size, .inl (H0.out _ _ (Nat.le_refl _) Bw.out.size Bw.out)⟩
theorem splits_iter (q0 q1 q2 q3 q4 q5 : Int) (Bn : Nat) (w : World) (hbox : BB w Bn 23 [q0, q1, q2, q3, q4, q5]) :
    Iter 43 #[.pointer (some ⟨Bn, 0, none⟩)] (encS [q0, q1, q2, q3, q4, q5]) (halvesB [q0, q1, q2, q3, q4, q5]) Bn w := by
  cases hs : MB.okB [q0, q1, q2, q3, q4, q5] with
  | true => rw [halves_yes' hs]; exact splits_iter_yes q0 q1 q2 q3 q4 q5 hs Bn w hbox
  | false => rw [halves_no' hs]; exact splits_iter_no q0 q1 q2 q3 q4 q5 hs Bn w hbox
end Go.Proofs.Ytajdbpkcakkhdaa
