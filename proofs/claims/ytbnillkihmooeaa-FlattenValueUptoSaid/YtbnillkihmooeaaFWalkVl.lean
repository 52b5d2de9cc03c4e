/- The law FlattenValue. No claim of its own. -/
import Derived.Test.YtbnillkihmooeaaJFG
import Derived.Test.YtbnillkihmooeaaMathFX
import Derived.Test.YtbnillkihmooeaaJFH
import Derived.Test.YtbnillkihmooeaaJVS
namespace Go.Proofs.Ytbnillkihmooeaa
open Go.RowKit
attribute [local go_sem] Oper.semAt_some
set_option maxRecDepth 100000 in
set_option maxHeartbeats 8000000 in
theorem flattenValue_walk (x : NT) (hx : x.size ≤ 1000000) (q0 q1 q2 q3 q4 q5 : Int) (w : World) (ok : Nat → Prop) (hok : x.Ok w ok) : Calls Try.prog 5 #[x.val, .agg #[.int .i64 q0, .int .i64 q1, .int .i64 q2, .int .i64 q3, .int .i64 q4, .int .i64 q5]] w (Gives (.bool true) w) := by
  have CS := Lib.hid (fun w' (hb : Below w.heap.size w w') => small14_any x hx q0 q1 q2 q3 q4 q5 w' ok (hok.below hb))
  have CF := Lib.hid (fun w' (hb : Below w.heap.size w w') => foffers_any x (Nat.le_trans hx (by decide)) q0 q1 q2 q3 q4 q5 w' ok (hok.below hb))
  have CR := Lib.hid (fun w' (hb : Below w.heap.size w w') => rtable_any x hx q0 q1 q2 q3 q4 q5 w' ok (hok.below hb))
  have HOK : Hid ((offersE x.n [q0, q1, q2, q3, q4, q5]).2 = 0 → ∃ n : Nat, n ≤ 1024 ∧ VV.Bu [q0, q1, q2, q3, q4, q5] ∧ n = VV.cnt [q0, q1, q2, q3, q4, q5] ∧ listB [q0, q1, q2, q3, q4, q5] = VV.all [q0, q1, q2, q3, q4, q5] ∧ (tabE x.n [q0, q1, q2, q3, q4, q5]).1.length = n ∧ ∀ i, i < n → VV.worth (MF.stp (offersE x.n [q0, q1, q2, q3, q4, q5]).1) (VV.at6 [q0, q1, q2, q3, q4, q5] i) = (tabE x.n [q0, q1, q2, q3, q4, q5]).1.getD i 0) := Lib.hid (fun h => by
    obtain ⟨h1, _, _, _⟩ := offersE_ok h
    obtain ⟨hc, hk, hcn, ht⟩ := tabE_ok h1
    have hs : VV.Bu [q0, q1, q2, q3, q4, q5] := VV.bu_of_ok rfl (VV.ok_of_chk hk)
    have hy := cnt_yes' hcn
    refine ⟨VV.cnt [q0, q1, q2, q3, q4, q5], hy.1.2, hs, rfl, ?_, by rw [ht, tab_len], fun i hi => ?_⟩
    · unfold VV.all; exact list_yes' hy.1
    · have h6 := VV.at6_bu hs i
      rw [offers_worth rfl h h6.1 h6.2, ht, tab_getD hi])
  generalize offersE x.n [q0, q1, q2, q3, q4, q5] = T at *
  generalize tabE x.n [q0, q1, q2, q3, q4, q5] = TT at *
  obtain ⟨TL, te⟩ := T
  obtain ⟨UL, ue⟩ := TT
  dsimp only at HOK
  obtain ⟨o, bb, v, A, cc, k⟩ := x
  obtain ⟨x0, x1, x2, x3, x4, x5, rfl⟩ := six hok.six
  rw [NT.val_lit] at CS CF CR ⊢
  clear hok hx
  generalize (decide (NT.size ⟨o, [x0, x1, x2, x3, x4, x5], v, A, cc, k⟩ ≤ 60) && decide (cntB [q0, q1, q2, q3, q4, q5] ≤ 100)) = sm at *
  have I0 := Lib.hid (IV14.start w (.int .i64 o) (.int .i64 x0) (.int .i64 x1) (.int .i64 x2) (.int .i64 x3) (.int .i64 x4) (.int .i64 x5) (.int .i64 v) (.slice A k.len cc) q0 q1 q2 q3 q4 q5)
  go_enter Try.func5, Try.ntmps5
  go_upto_region 1 with (fail)
  generalize (w.alloc (.cells #[.int .i64 o, .int .i64 x0, .int .i64 x1, .int .i64 x2, .int .i64 x3, .int .i64 x4, .int .i64 x5, .int .i64 v, .slice A k.len cc] 26)).alloc (.cells #[.int .i64 q0, .int .i64 q1, .int .i64 q2, .int .i64 q3, .int .i64 q4, .int .i64 q5] 23) = w1 at *
  obtain ⟨e0, e1, e2, e3, e4, e5, e6, e7, e8⟩ := I0.out.e.cells
  obtain ⟨r0, r1, r2, r3, r4, r5⟩ := cells6 I0.out.q
  go_wp2_with fail
  refine (CS.out _ I0.out.below).mono ?_
  rintro ev w2 ⟨rfl, nb⟩
  have I2 := Lib.hid (I0.out.keep nb)
  clear nb I0 CS e0 e1 e2 e3 e4 e5 e6 e7 e8 r0 r1 r2 r3 r4 r5
  cases sm with
  | false =>
    go_wp2_with fail
    refine (awake14_any _).mono ?_
    rintro ev w9 ⟨rfl, nb⟩
    have B9_ := Lib.hid (I2.out.below.trans (nb.mono I2.out.below.size))
    clear nb
    go_wp2
    go_ret
    exact ⟨rfl, B9_.out⟩
  | true =>
    obtain ⟨e0, e1, e2, e3, e4, e5, e6, e7, e8⟩ := I2.out.e.cells
    obtain ⟨r0, r1, r2, r3, r4, r5⟩ := cells6 I2.out.q
    go_wp2_with fail
    refine (CF.out _ I2.out.below).mono ?_
    rintro ev w3 ⟨A3, n3, c3, rfl, hl3, nb⟩
    have I3 := Lib.hid (I2.out.keep nb)
    have K3 := Lib.hid hl3
    clear nb hl3 I2 CF e0 e1 e2 e3 e4 e5 e6 e7 e8 r0 r1 r2 r3 r4 r5
    dsimp only at K3 ⊢
    by_cases hte : te = 0
    · have dte : (te == 0) = true := beq_iff_eq.2 hte
      obtain ⟨n, hn, hbu, hnc, hrs, hul, hval⟩ := HOK.out hte
      have HBU := Lib.hid hbu
      have HNC := Lib.hid hnc
      have HVA := Lib.hid hval
      have HRS := Lib.hid hrs
      have HUL := Lib.hid hul
      clear HOK hte hbu hnc hval hrs hul
      obtain ⟨e0, e1, e2, e3, e4, e5, e6, e7, e8⟩ := I3.out.e.cells
      obtain ⟨r0, r1, r2, r3, r4, r5⟩ := cells6 I3.out.q
      go_wp2_with fail
      refine (CR.out _ I3.out.below).mono ?_
      rintro ev w4 ⟨A4, n4, c4, rfl, hl4, nb⟩
      have I4 := Lib.hid (I3.out.keep nb)
      have K4 := Lib.hid (K3.out.keep nb)
      have hn4 : n4 = n := by rw [← hl4.len]; exact HUL.out
      subst hn4
      have U4 := Lib.hid hl4
      clear nb hl4 I3 K3 CR e0 e1 e2 e3 e4 e5 e6 e7 e8 r0 r1 r2 r3 r4 r5
      dsimp only at U4 ⊢
      obtain ⟨r0, r1, r2, r3, r4, r5⟩ := cells6 I4.out.q
      go_wp2_with fail
      refine (list_any q0 q1 q2 q3 q4 q5 _).mono ?_
      rintro ev w5 ⟨Ap, np, cp, rfl, hps, nb⟩
      rw [HRS.out] at hps
      have hnp : n4 = np := by
        have h1 := hps.len
        have h2 : (VV.all [q0, q1, q2, q3, q4, q5]).length = VV.cnt [q0, q1, q2, q3, q4, q5] := by unfold VV.all; exact MB.row_length _ _ _
        rw [h2] at h1; have := HNC.out; omega
      subst hnp
      have I5 := Lib.hid (I4.out.keep nb)
      have K5 := Lib.hid (K4.out.keep nb)
      have U5 := Lib.hid (U4.out.keep nb)
      have P5 := Lib.hid hps
      clear nb hps I4 K4 U4 r0 r1 r2 r3 r4 r5 HRS
      go_wp2_with fail
      go_loopw [36] (fun t wr => ∃ i : Nat, i ≤ n4 ∧ t = .int .i64 i ∧ Below w5.heap.size w5 wr) (fun t _ => n4 - (intOf t).toNat)
      case atStart => exact ⟨0, Nat.zero_le _, rfl, Below.refl _ _⟩
      case round =>
        obtain ⟨i, hi, rfl, hbw⟩ := hrel
        have BW := Lib.hid hbw
        clear hbw
        by_cases hlt : i < n4
        · obtain ⟨y0, y1, y2, y3, y4, y5, hy⟩ := six (VV.at6_bu HBU.out i).1.len
          obtain ⟨ad, had, hvr, hadl, cv⟩ := int_getD (U5.out.keep BW.out) hlt
          subst had
          obtain ⟨ap, _, _, _, _, _, _, hap, _⟩ := P5.out.at_ hlt
          subst hap
          have hr : (VV.all [q0, q1, q2, q3, q4, q5])[i]? = some [y0, y1, y2, y3, y4, y5] := by
            have h2 : (VV.all [q0, q1, q2, q3, q4, q5]).length = VV.cnt [q0, q1, q2, q3, q4, q5] := by unfold VV.all; exact MB.row_length _ _ _
            have hk' : i < (VV.all [q0, q1, q2, q3, q4, q5]).length := by rw [h2, ← HNC.out]; exact hlt
            rw [List.getElem?_eq_getElem hk', (fall_get (List.getElem?_eq_getElem hk')).2, hy]
          obtain ⟨u0, u1, u2, u3, u4, u5⟩ := rws_cells (P5.out.keep BW.out) hlt hr
          have HV := HVA.out i hlt
          rw [hy] at HV
          have HC := Lib.hid (fval_any TL A3 n3 c3 y0 y1 y2 y3 y4 y5 wr (K5.out.keep BW.out))
          rw [HV] at HC
          generalize UL.getD i 0 = vv at *
          clear HV hr hy
          go_wp2_with fail
          refine HC.out.mono ?_
          rintro ev w7 ⟨rfl, nb⟩
          have B7 := Lib.hid (BW.out.trans (nb.mono BW.out.size))
          clear nb HC BW u0 u1 u2 u3 u4 u5 cv
          go_wp2
          go_roundw
          case rel => exact ⟨i + 1, hlt, by go_num, B7.out⟩
          case measure => simp [intOf]; omega
        · have B6 := Lib.hid (I5.out.below.trans (BW.out.mono I5.out.below.size))
          go_wp2_with fail
          refine (awake14_any _).mono ?_
          rintro ev w9 ⟨rfl, nb⟩
          have B9_ := Lib.hid (B6.out.trans (nb.mono B6.out.size))
          clear nb
          go_wp2
          go_ret
          exact ⟨rfl, B9_.out⟩
    · have dte : (te == 0) = false := beq_eq_false_iff_ne.2 hte
      go_wp2_with fail
      refine (awake14_any _).mono ?_
      rintro ev w9 ⟨rfl, nb⟩
      have B9_ := Lib.hid (I3.out.below.trans (nb.mono I3.out.below.size))
      clear nb
      go_wp2
      go_ret
      exact ⟨rfl, B9_.out⟩
end Go.Proofs.Ytbnillkihmooeaa
