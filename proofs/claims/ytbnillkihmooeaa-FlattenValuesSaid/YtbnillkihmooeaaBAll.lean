/- All's iterator: no claim of its own. -/
import Derived.Test.YtbnillkihmooeaaBUpto
namespace Go.Proofs.Ytbnillkihmooeaa
open Go.RowKit
attribute [local go_sem] Oper.semAt_some
theorem upTo_any (a b c d e f : Int) (w : World) : Calls Try.prog 107 #[.agg #[.int .i64 a, .int .i64 b, .int .i64 c, .int .i64 d, .int .i64 e, .int .i64 f]] w fun v w' => v = .returned (.func (.func 118) #[] #[.pointer (some ⟨w.heap.size, 0, none⟩)]) ∧ w' = w.alloc (.cells #[.int .i64 a, .int .i64 b, .int .i64 c, .int .i64 d, .int .i64 e, .int .i64 f] 23) := by
  have hmf : ∀ (fn : Fn) (first cap : Array Value) (w : World), (Instr.makeFunc fn first cap).run Try.prog w = .ok (.func fn first cap) w := fun _ _ _ _ => rfl
  go_enter Try.func107, Try.ntmps107
  go_wp2
  go_ret
  exact ⟨rfl, rfl⟩
theorem all_any (a b c d e f : Int) (w : World) : Calls Try.prog 81 #[.agg #[.int .i64 a, .int .i64 b, .int .i64 c, .int .i64 d, .int .i64 e, .int .i64 f]] w fun v w' => v = .returned (.func (.func 106) #[] #[.pointer (some ⟨w.heap.size, 0, none⟩)]) ∧ w' = w.alloc (.cells #[.int .i64 a, .int .i64 b, .int .i64 c, .int .i64 d, .int .i64 e, .int .i64 f] 23) := by
  have hmf : ∀ (fn : Fn) (first cap : Array Value) (w : World), (Instr.makeFunc fn first cap).run Try.prog w = .ok (.func fn first cap) w := fun _ _ _ _ => rfl
  go_enter Try.func81, Try.ntmps81
  go_wp2
  go_ret
  exact ⟨rfl, rfl⟩
/-- What an iterator that runs another leaves. -/
def RI (J Jx : Nat → List (List Int) → World → Prop) (xs : List (List Int)) (b : Nat) (v : Ending) (Y : World) : Prop := (∃ u, v = .returned u) ∧ ∃ e, b ≤ e ∧ e ≤ Y.heap.size ∧ (J e xs Y ∨ ∃ pre, pre <+: xs ∧ Jx e pre Y)
set_option maxRecDepth 100000 in
set_option maxHeartbeats 4000000 in
theorem all_iter_yes (a b c d e f : Int) (hs : MB.okB [a, b, c, d, e, f] = true ∧ MB.P [a, b, c, d, e, f] 6 ≤ 1024) (Bn : Nat) (w : World) (hbox : BB w Bn 23 [a, b, c, d, e, f]) :
    Iter 106 #[.pointer (some ⟨Bn, 0, none⟩)] (fun x => #[aggB x]) (MB.row [a, b, c, d, e, f] 6 (MB.P [a, b, c, d, e, f] 6)) Bn w := by
  intro l W J Jx hW hJ hJx hY h0
  show CallsIn Fence.wide 5 Try.prog 106 #[.func (.yield l) #[] #[], .pointer (some ⟨Bn, 0, none⟩)] W (RI J Jx (MB.row [a, b, c, d, e, f] 6 (MB.P [a, b, c, d, e, f] 6)) W.heap.size)
  have HJ := Lib.hid hJ
  have HJx := Lib.hid hJx
  have HY := Lib.hid hY
  have H0 := Lib.hid h0
  have HCt := Lib.hid (fun w => count_any a b c d e f w)
  rw [cnt_yes hs.1 hs.2] at HCt
  have hP := P_pos' [a, b, c, d, e, f] 6
  have HO := Lib.hid hs.1
  have HBn := Lib.hid (hbox.keep hW hbox.lt)
  have HAl := Lib.hid (row_all [a, b, c, d, e, f] 6 (MB.P [a, b, c, d, e, f] 6) (by decide))
  obtain ⟨xs, hxs⟩ : ∃ xs, xs = MB.row [a, b, c, d, e, f] 6 (MB.P [a, b, c, d, e, f] 6) := ⟨_, rfl⟩
  rw [← hxs] at HY HAl ⊢
  have HXS := Lib.hid hxs
  clear hJ hJx hY h0 hbox hW hs hxs
  generalize ((MB.P [a, b, c, d, e, f] 6 : Nat) : Int) = P at *
  have hq : (P == 0) = false := by simp; omega
  have hmf : ∀ (fn : Fn) (first cap : Array Value) (w : World), (Instr.makeFunc fn first cap).run Try.prog w = .ok (.func fn first cap) w := fun _ _ _ _ => rfl
  refine callsIn_of_wp_marks Try.func106 rfl trivial ?_ rfl
  simp only [Try.ntmps106, List.size_toArray, List.length_cons, List.length_nil, Nat.reduceAdd, Nat.reduceSub, Array.replicate_succ, Array.replicate_zero, List.push_toArray, List.append_toArray, List.nil_append, List.cons_append]
  obtain ⟨c0, c1, c2, c3, c4, c5⟩ := cells6 HBn.out
  have hBn := HBn.out.lt
  gi_wp2_with fail
  refine ⟨trivial, (callsIn_wide.2 (HCt.out _)).mono ?_⟩
  rintro ev1 W1 ⟨rfl, hb⟩
  have Y1 := Lib.hid (Boxed.new W 129 (.func (.yield l) #[] #[]))
  have Bw := Lib.hid (below_new W (.cells #[.func (.yield l) #[] #[]] 129))
  have N1 := Lib.hid (((HBn.out.alloc (.cells #[.func (.yield l) #[] #[]] 129))).keep hb (by simp; omega))
  have Y2 := Lib.hid (Y1.out.kept (W' := W1) (row := none) ⟨hb.os, hb.tape, hb.output, hb.size, fun k hk _ => hb.block k hk⟩ (by simp))
  have Bw1 := Lib.hid (Bw.out.trans (hb.mono Bw.out.size))
  clear hb c0 c1 c2 c3 c4 c5 HBn Y1 Bw
  obtain ⟨c0, c1, c2, c3, c4, c5⟩ := cells6 N1.out
  gi_wp2_with fail
  refine ⟨trivial, (callsIn_wide.2 (upTo_any a b c d e f _)).mono ?_⟩
  rintro ev2 W2 ⟨rfl, rfl⟩
  have Bi := Lib.hid (BB.new W1 23 a b c d e f)
  have Y3 := Lib.hid (Y2.out.alloc (.cells #[.int .i64 a, .int .i64 b, .int .i64 c, .int .i64 d, .int .i64 e, .int .i64 f] 23))
  have Bw2 := Lib.hid (Bw1.out.alloc Bw1.out.size (.cells #[.int .i64 a, .int .i64 b, .int .i64 c, .int .i64 d, .int .i64 e, .int .i64 f] 23))
  have hz1 := Bw1.out.size
  have hz2 := Y2.out.lt
  have hz3 : (W1.alloc (.cells #[.int .i64 a, .int .i64 b, .int .i64 c, .int .i64 d, .int .i64 e, .int .i64 f] 23)).heap.size = W1.heap.size + 1 := by simp
  clear c0 c1 c2 c3 c4 c5 N1 Y2 Bw1
  generalize W1.alloc (.cells #[.int .i64 a, .int .i64 b, .int .i64 c, .int .i64 d, .int .i64 e, .int .i64 f] 23) = W2 at *
  generalize W1.heap.size = g1 at *
  gi_wp2_with fail
  refine range_law (gf := 118) (lb := #[.pointer (some ⟨g1, 0, none⟩)]) (encs := fun x => #[aggB x]) (xs := xs) (Bn := g1) rfl (enters_of Try.func118 (by kernel_rfl) rfl)
    (by rw [HXS.out]; exact upTo_iter a b c d e f HO.out g1 W2 Bi.out) (by omega) (fun _ => rfl)
    (fun e pre X => J e pre X ∧ Boxed X W.heap.size 129 (.func (.yield l) #[] #[]))
    (fun c e pre X => c = .ret ∧ Jx e pre X)
    ?hI ?hIx ?h0
    (fun k0 x a' X => ∃ Bx, k0 ≤ Bx ∧ BB X Bx 23 x ∧ a' = { tmps := #[.func (.yield l) #[] #[], .pointer (some ⟨Bn, 0, none⟩), .pointer (some ⟨W.heap.size, 0, none⟩), .pointer (some ⟨Bx, 0, none⟩), .agg #[.int .i64 a, .int .i64 b, .int .i64 c, .int .i64 d, .int .i64 e, .int .i64 f], .int .i64 P, .bool false, .agg #[.int .i64 a, .int .i64 b, .int .i64 c, .int .i64 d, .int .i64 e, .int .i64 f], .func (.func 118) #[] #[.pointer (some ⟨g1, 0, none⟩)], aggB x, undef, undef, undef, undef], defers := [] })
    ?hAx ?assign ?body ?done ?stop
  case hI =>
    rintro e pre X Y he heX ⟨hj, hb⟩ hs
    exact ⟨HJ.out e pre X Y (by omega) heX hj (hs.mono (by omega) (Nat.le_refl _)), (hs.heap hb.lt (.inl (by omega))).trans hb⟩
  case hIx =>
    rintro c e pre X Y he heX ⟨rfl, hj⟩ hs
    exact ⟨rfl, HJx.out e pre X Y (by omega) heX hj (hs.mono (by omega) (Nat.le_refl _))⟩
  case h0 =>
    intro e X he heX hb
    exact ⟨H0.out e X (by omega) heX (Bw2.out.trans (hb.mono (by omega))), (hb.block _ (by omega)).trans Y3.out⟩
  case hAx =>
    rintro e x a' X Y heX ⟨Bx, h1, h2, rfl⟩ hs
    exact ⟨Bx, h1, ⟨(hs.heap h2.lt (.inr h1)).trans h2.1, h2.2⟩, rfl⟩
  case assign =>
    rintro l' e pre x X he heX hi hpre
    have hx6 : x.length = 6 := HAl.out x (hpre.subset (by simp))
    obtain ⟨x0, x1, x2, x3, x4, x5, rfl⟩ := six hx6
    clear hpre hx6
    simp only [aggB_lit]
    obtain ⟨hj, hb⟩ := hi
    gi_wp2
    exact ⟨Kpt.alloc X _ (by omega) heX, ⟨HJ.out e pre X _ (by omega) heX hj (Stp.alloc _ _ _ _), hb.alloc _⟩, X.heap.size, heX, BB.new X _ _ _ _ _ _ _, rfl⟩
  case body =>
    rintro l' e pre x a' X he heX ⟨hj, hb⟩ hpre ⟨Bx, hBx, hbx, rfl⟩
    have hx6 : x.length = 6 := HAl.out x (hpre.subset (by simp))
    obtain ⟨fn, tmps, assign, body, hy, hRd⟩ := HY.out e pre x X (by omega) heX hj hpre
    obtain ⟨x0, x1, x2, x3, x4, x5, rfl⟩ := six hx6
    rw [aggB_lit] at hy
    simp only [aggB_lit]
    have HRd := Lib.hid hRd
    have HB := Lib.hid hb
    obtain ⟨c0, c1, c2, c3, c4, c5⟩ := cells6 hbx
    have cy := hb.cell
    clear hRd hpre hx6 hb
    gi_wp2_with fail
    refine (round_any HRd.out).mono ?_
    have kpt : ∀ {Y : World}, Kpt Bn W.heap.size e X Y → Kpt g1 W2.heap.size e X Y := fun hk => ⟨hk.size, hk.own _ (by omega) (by omega), fun k h1 h2 => hk.own k (by omega) h2⟩
    rintro ev Y (⟨rfl, hj2, hk⟩ | ⟨rfl, hj2, hk⟩)
    · have hb2 := (hk.own W.heap.size (Nat.le_refl _) (by omega)).trans HB.out
      gi_wp2
      exact ⟨kpt hk, hj2, hb2⟩
    · gi_wp2
      exact ⟨kpt hk, rfl, hj2⟩
  case done =>
    rintro e Y he heY ⟨hj, _⟩ hD
    refine ⟨by simp, .inl ⟨_, _, rfl, run_takeDeferred hD, ?_⟩⟩
    refine ⟨_, results_none rfl _ _ _, ⟨_, rfl⟩, e, by omega, by simp; exact heY, .inl (HJ.out e _ Y _ (by omega) heY hj (Stp.putObj _ _ (by omega) (by omega)))⟩
  case stop =>
    rintro c e pre Y he heY hpre ⟨rfl, hj⟩ hD
    gi_wp2
    refine ⟨by simp, .inl ⟨_, _, rfl, run_takeDeferred hD, ?_⟩⟩
    refine ⟨_, results_none rfl _ _ _, ⟨_, rfl⟩, e, by omega, by simp; exact heY, .inr ⟨pre, hpre, HJx.out e _ Y _ (by omega) heY hj (Stp.putObj _ _ (by omega) (by omega))⟩⟩
set_option maxRecDepth 100000 in
set_option maxHeartbeats 4000000 in
theorem all_iter_no (a b c d e f : Int) (hs : ¬ (MB.okB [a, b, c, d, e, f] = true ∧ MB.P [a, b, c, d, e, f] 6 ≤ 1024)) (Bn : Nat) (w : World) (hbox : BB w Bn 23 [a, b, c, d, e, f]) :
    Iter 106 #[.pointer (some ⟨Bn, 0, none⟩)] (fun x => #[aggB x]) [] Bn w := by
  intro l W J Jx hW hJ hJx hY h0
  show CallsIn Fence.wide 5 Try.prog 106 #[.func (.yield l) #[] #[], .pointer (some ⟨Bn, 0, none⟩)] W (RI J Jx [] W.heap.size)
  have H0 := Lib.hid h0
  have HCt := Lib.hid (fun w => count_any a b c d e f w)
  rw [cnt_no hs] at HCt
  have HBn := Lib.hid (hbox.keep hW hbox.lt)
  clear hJ hJx hY h0 hbox hW hs
  refine callsIn_of_wp_marks Try.func106 rfl trivial ?_ rfl
  simp only [Try.ntmps106, List.size_toArray, List.length_cons, List.length_nil, Nat.reduceAdd, Nat.reduceSub, Array.replicate_succ, Array.replicate_zero, List.push_toArray, List.append_toArray, List.nil_append, List.cons_append]
  obtain ⟨c0, c1, c2, c3, c4, c5⟩ := cells6 HBn.out
  have hBn := HBn.out.lt
  gi_wp2_with fail
  refine ⟨trivial, (callsIn_wide.2 (HCt.out _)).mono ?_⟩
  rintro ev1 W1 ⟨rfl, hb⟩
  have Bw := Lib.hid ((below_new W (.cells #[.func (.yield l) #[] #[]] 129)).trans (hb.mono (by simp)))
  clear hb
  gi_wp2
  refine ⟨_, results_none rfl _ _ _, ⟨_, rfl⟩, W.heap.size, Nat.le_refl _, Bw.out.size, .inl (H0.out _ _ (Nat.le_refl _) Bw.out.size Bw.out)⟩
theorem all_iter (a b c d e f : Int) (Bn : Nat) (w : World) (hbox : BB w Bn 23 [a, b, c, d, e, f]) :
    Iter 106 #[.pointer (some ⟨Bn, 0, none⟩)] (fun x => #[aggB x]) (listB [a, b, c, d, e, f]) Bn w := by
  by_cases hs : MB.okB [a, b, c, d, e, f] = true ∧ MB.P [a, b, c, d, e, f] 6 ≤ 1024
  · rw [list_yes' hs]; exact all_iter_yes a b c d e f hs Bn w hbox
  · rw [list_no' hs]; exact all_iter_no a b c d e f hs Bn w hbox
end Go.Proofs.Ytbnillkihmooeaa
