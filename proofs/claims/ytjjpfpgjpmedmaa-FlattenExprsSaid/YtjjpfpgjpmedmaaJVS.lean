/- The reference's Value, Most and Table. No claim of its own. -/
import Derived.Test.YtjjpfpgjpmedmaaVAll
import Derived.Test.YtjjpfpgjpmedmaaJVA
import Derived.Test.YtjjpfpgjpmedmaaVFew
import Derived.Test.YtjjpfpgjpmedmaaERef2
import Derived.Test.YtjjpfpgjpmedmaaMathVE
namespace Go.Proofs.Ytjjpfpgjpmedmaa
open Go.RowKit
attribute [local go_sem] Oper.semAt_some
/-- Masked up to the i-th product. -/
def mk6 (U : Nat → Bool) (b : List Int) (i : Nat) (j : Nat) : Int := if j < i then (if U j = true then MB.at_ b j else 0) else MB.at_ b j
theorem mk6_full {U : Nat → Bool} {b zs : List Int} (hz : zs.length = 6) (h : ∀ j, j < 6 → MB.at_ zs j = mk6 U b 6 j) : zs = VV.mask U b := MB.ext6 hz rfl fun j hj => by
  rw [h j hj]; unfold mk6 VV.mask; rw [if_pos hj, VV.six_at _ hj]
theorem mk6_yes {U : Nat → Bool} {b : List Int} {i : Nat} (hu : U i = true) {j : Nat} : mk6 U b (i + 1) j = mk6 U b i j := by
  by_cases e : j = i
  · subst e; simp [mk6, hu]
  · by_cases h : j < i
    · simp only [mk6, h, if_true, show j < i + 1 by omega]
    · simp only [mk6, h, if_false, show ¬ j < i + 1 by omega]
theorem mk6_no {U : Nat → Bool} {b zs : List Int} (hz : zs.length = 6) {i : Nat} (_hi : i < 6) (hu : U i = false) (h : ∀ j, j < 6 → MB.at_ zs j = mk6 U b i j) : ∀ j, j < 6 → MB.at_ (zs.set i 0) j = mk6 U b (i + 1) j := fun j hj => by
  by_cases e : j = i
  · subst e
    rw [at_set_same _ (by rw [hz]; exact hj)]
    simp [mk6, hu]
  · rw [at_set_other _ e, h j hj]
    by_cases h : j < i
    · simp only [mk6, h, if_true, show j < i + 1 by omega]
    · simp only [mk6, h, if_false, show ¬ j < i + 1 by omega]
theorem mask_ok {U : Nat → Bool} {b : List Int} (hb : K4 b) : MB.okB (VV.mask U b) = true :=
  (K4.of_le hb (VV.mask_bu hb.bu) (VV.leB_iff.2 fun j hj => by unfold VV.mask; rw [VV.six_at _ hj]; have := hb.bu.pos j hj; split <;> omega)).ok
set_option maxRecDepth 100000 in
set_option maxHeartbeats 8000000 in
theorem rvalue_any (x : NT) (hx : x.size ≤ 1000000) (q0 q1 q2 q3 q4 q5 : Int) (w : World) (ok : Nat → Prop) (hok : x.Ok w ok) : Calls Try.prog 14 #[x.val, .agg #[.int .i64 q0, .int .i64 q1, .int .i64 q2, .int .i64 q3, .int .i64 q4, .int .i64 q5]] w (Gives (.int .i64 (VV.value x.n [q0, q1, q2, q3, q4, q5])) w) := by
  have CK := Lib.hid (fun w' (hb : Below w.heap.size w w') => rcheck_any x hx w' ok (hok.below hb))
  have CB := Lib.hid (fun w' => rbcheck_any q0 q1 q2 q3 q4 q5 w')
  have CU := Lib.hid (fun w' (hb : Below w.heap.size w w') (j : Nat) (hj : j < 6) => uses_any x.size x (Nat.le_refl _) j hj w' ok (hok.below hb))
  have CA := Lib.hid (fun (h : VV.AllOk x.n) (y0 y1 y2 y3 y4 y5 : Int) (h2 : MB.okB [y0, y1, y2, y3, y4, y5] = true) w' (hb : Below w.heap.size w w') => rall_any 2000000 x (Nat.le_trans hx (by decide)) (Nat.le_refl _) h y0 y1 y2 y3 y4 y5 w' ok h2 (hok.below hb))
  have V1 := Lib.hid (value_bad (n := x.n) (b := [q0, q1, q2, q3, q4, q5]))
  have V2 := Lib.hid (value_bad2 (n := x.n) (b := [q0, q1, q2, q3, q4, q5]))
  have V3 := Lib.hid (value_ok (n := x.n) (b := [q0, q1, q2, q3, q4, q5]))
  obtain ⟨V, hV⟩ : ∃ V, V = VV.value x.n [q0, q1, q2, q3, q4, q5] := ⟨_, rfl⟩
  rw [← hV] at V1 V2 V3 ⊢
  clear hV
  have MV := Lib.hid (fun (h : VV.Bu [q0, q1, q2, q3, q4, q5]) => VV.mask_val (n := x.n) h)
  have AO := Lib.hid (fun (h : ME.checkE x.n = 0) => VV.AllOk.of h)
  have HVN := Lib.hid (fun (h : VV.AllOk x.n) (b : List Int) (hb : VV.Bu b) => (show 0 ≤ VV.valN x.n b ∧ VV.valN x.n b ≤ 1000000 from ⟨h.mono.pos b hb, VV.valN_max x.n b⟩))
  obtain ⟨o, bb, v, A, cc, k⟩ := x
  obtain ⟨x0, x1, x2, x3, x4, x5, rfl⟩ := six hok.six
  rw [NT.val_lit] at CK CU CA ⊢
  obtain ⟨N, hN⟩ : ∃ N, N = NT.n ⟨o, [x0, x1, x2, x3, x4, x5], v, A, cc, k⟩ := ⟨_, rfl⟩
  rw [← hN] at CK CU CA V1 V3 MV AO HVN
  clear hok hx hN
  generalize ME.checkE N = ck at *
  have HB := Lib.hid (below_two w (.cells #[.int .i64 o, .int .i64 x0, .int .i64 x1, .int .i64 x2, .int .i64 x3, .int .i64 x4, .int .i64 x5, .int .i64 v, .slice A k.len cc] 28) (.cells #[.int .i64 q0, .int .i64 q1, .int .i64 q2, .int .i64 q3, .int .i64 q4, .int .i64 q5] 24))
  have X0 := Lib.hid (below_new (w.alloc (.cells #[.int .i64 o, .int .i64 x0, .int .i64 x1, .int .i64 x2, .int .i64 x3, .int .i64 x4, .int .i64 x5, .int .i64 v, .slice A k.len cc] 28)) (.cells #[.int .i64 q0, .int .i64 q1, .int .i64 q2, .int .i64 q3, .int .i64 q4, .int .i64 q5] 24))
  have E0 := Lib.hid (show B9 ((w.alloc (.cells #[.int .i64 o, .int .i64 x0, .int .i64 x1, .int .i64 x2, .int .i64 x3, .int .i64 x4, .int .i64 x5, .int .i64 v, .slice A k.len cc] 28)).alloc (.cells #[.int .i64 q0, .int .i64 q1, .int .i64 q2, .int .i64 q3, .int .i64 q4, .int .i64 q5] 24)) w.heap.size (.int .i64 o) (.int .i64 x0) (.int .i64 x1) (.int .i64 x2) (.int .i64 x3) (.int .i64 x4) (.int .i64 x5) (.int .i64 v) (.slice A k.len cc) from (X0.out.block w.heap.size (by simp)).trans (heap_new w _))
  have S0 := Lib.hid (show BB ((w.alloc (.cells #[.int .i64 o, .int .i64 x0, .int .i64 x1, .int .i64 x2, .int .i64 x3, .int .i64 x4, .int .i64 x5, .int .i64 v, .slice A k.len cc] 28)).alloc (.cells #[.int .i64 q0, .int .i64 q1, .int .i64 q2, .int .i64 q3, .int .i64 q4, .int .i64 q5] 24)) (w.heap.size + 1) 24 [q0, q1, q2, q3, q4, q5] from by
    have := BB.new (w.alloc (.cells #[.int .i64 o, .int .i64 x0, .int .i64 x1, .int .i64 x2, .int .i64 x3, .int .i64 x4, .int .i64 x5, .int .i64 v, .slice A k.len cc] 28)) 24 q0 q1 q2 q3 q4 q5
    rwa [World.size_alloc] at this)
  clear X0
  go_enter Try.func14, Try.ntmps14
  go_upto_region 1 with (fail)
  generalize (w.alloc (.cells #[.int .i64 o, .int .i64 x0, .int .i64 x1, .int .i64 x2, .int .i64 x3, .int .i64 x4, .int .i64 x5, .int .i64 v, .slice A k.len cc] 28)).alloc (.cells #[.int .i64 q0, .int .i64 q1, .int .i64 q2, .int .i64 q3, .int .i64 q4, .int .i64 q5] 24) = w1 at *
  obtain ⟨e0, e1, e2, e3, e4, e5, e6, e7, e8⟩ := E0.out.cells
  obtain ⟨r0, r1, r2, r3, r4, r5⟩ := cells6 S0.out
  by_cases hck : ck = 0
  · subst hck
    have AOK := Lib.hid (AO.out rfl)
    by_cases hcb : chk [q0, q1, q2, q3, q4, q5] = 0
    · have HV := Lib.hid (V3.out rfl hcb)
      have KK := Lib.hid (k4_of (b := [q0, q1, q2, q3, q4, q5]) rfl hcb)
      rw [hcb] at CB
      clear V1 V2 V3 AO hcb
      go_wp2_with fail
      refine (CK.out _ HB.out).mono ?_
      rintro ev w2 ⟨rfl, nb⟩
      have B2 := Lib.hid (HB.out.trans (nb.mono HB.out.size))
      have E2 := Lib.hid (E0.out.keep nb)
      have S2 := Lib.hid (S0.out.keep nb S0.out.lt)
      clear nb HB E0 S0 CK e0 e1 e2 e3 e4 e5 e6 e7 e8 r0 r1 r2 r3 r4 r5
      obtain ⟨e0, e1, e2, e3, e4, e5, e6, e7, e8⟩ := E2.out.cells
      obtain ⟨r0, r1, r2, r3, r4, r5⟩ := cells6 S2.out
      go_wp2_with fail
      refine (CB.out _).mono ?_
      rintro ev w3 ⟨rfl, nb⟩
      have B3 := Lib.hid (B2.out.trans (nb.mono B2.out.size))
      have E3 := Lib.hid (E2.out.keep nb)
      have S3 := Lib.hid (S2.out.keep nb S2.out.lt)
      clear nb B2 E2 S2 CB e0 e1 e2 e3 e4 e5 e6 e7 e8 r0 r1 r2 r3 r4 r5
      go_wp2_with fail
      go_loopw [5] (fun t wr => ∃ (i : Nat) (zs : List Int), i ≤ 6 ∧ t = .int .i64 i ∧ Below w.heap.size w wr ∧ B9 wr w.heap.size (.int .i64 o) (.int .i64 x0) (.int .i64 x1) (.int .i64 x2) (.int .i64 x3) (.int .i64 x4) (.int .i64 x5) (.int .i64 v) (.slice A k.len cc) ∧ BB wr (w.heap.size + 1) 24 zs ∧ ∀ j, j < 6 → MB.at_ zs j = mk6 (VV.useN N) [q0, q1, q2, q3, q4, q5] i j) (fun t _ => 6 - (intOf t).toNat)
      case atStart => exact ⟨0, _, Nat.zero_le _, rfl, B3.out, E3.out, S3.out, fun j _ => by unfold mk6; rw [if_neg (Nat.not_lt_zero _)]⟩
      case round =>
        obtain ⟨i, zs, hi, rfl, hbw, hE, hS, hz⟩ := hrel
        have HB1 := Lib.hid hbw
        have E1 := Lib.hid hE
        have S1 := Lib.hid hS
        have HZ := Lib.hid hz
        clear hbw hE hS hz B3 E3 S3
        by_cases hlt : i < 6
        · obtain ⟨e0, e1, e2, e3, e4, e5, e6, e7, e8⟩ := E1.out.cells
          have CU1 := Lib.hid (CU.out wr HB1.out i hlt)
          have Z1 := Lib.hid (fun (h : VV.useN N i = true) (j : Nat) => mk6_yes (b := [q0, q1, q2, q3, q4, q5]) h (j := j))
          have Z2 := Lib.hid (fun (h : VV.useN N i = false) => mk6_no (zs := zs) S1.out.2 hlt h HZ.out)
          generalize VV.useN N i = u at CU1 Z1 Z2
          go_wp2_with fail
          refine CU1.out.mono ?_
          rintro ev w5 ⟨rfl, nb⟩
          have B5 := Lib.hid (HB1.out.trans (nb.mono HB1.out.size))
          have E5 := Lib.hid (E1.out.keep nb)
          have S5 := Lib.hid (S1.out.keep nb S1.out.lt)
          clear nb HB1 E1 S1 e0 e1 e2 e3 e4 e5 e6 e7 e8 CU1
          cases u with
          | true =>
            have HZ2 := Lib.hid (show ∀ j, j < 6 → MB.at_ zs j = mk6 (VV.useN N) [q0, q1, q2, q3, q4, q5] (i + 1) j from fun j hj => by rw [Z1.out rfl j]; exact HZ.out j hj)
            clear Z1 Z2 HZ
            go_wp2
            go_roundw
            case rel => exact ⟨i + 1, zs, by omega, by go_num, B5.out, E5.out, S5.out, HZ2.out⟩
            case measure => simp [intOf]; omega
          | false =>
            have HZ2 := Lib.hid (Z2.out rfl)
            have c1 := S5.out.cell hlt
            have f1 := S5.out.free i
            clear Z1 Z2 HZ
            go_wp2
            go_roundw
            case rel => exact ⟨i + 1, zs.set i 0, by omega, by go_num, B5.out.setCell (p := ⟨w.heap.size + 1, i, none⟩) (by show w.heap.size ≤ w.heap.size + 1; omega) _, B9.same E5.out (heap_setCell_other w5 _ w.heap.size _ (by simp)), S5.out.set i 0, HZ2.out⟩
            case measure => simp [intOf]; omega
        · obtain rfl : i = 6 := by omega
          have hzs := mk6_full S1.out.2 HZ.out
          have hzo : MB.okB zs = true := by rw [hzs]; exact mask_ok KK.out
          have hzb : VV.Bu zs := by rw [hzs]; exact VV.mask_bu KK.out.bu
          have hzv : V = VV.valN N zs := by rw [hzs, HV.out]; exact (MV.out KK.out.bu).symm
          obtain ⟨z0, z1, z2, z3, z4, z5, rfl⟩ := six S1.out.2
          have CA1 := Lib.hid (CA.out AOK.out z0 z1 z2 z3 z4 z5 hzo wr HB1.out)
          have hcp := VV.cnt_pos [z0, z1, z2, z3, z4, z5]
          have hal := VV.at_last hzb
          have hcs := P_small hzo rfl (Nat.le_refl 6)
          change VV.cnt [z0, z1, z2, z3, z4, z5] ≤ 15625 at hcs
          have HVV := Lib.hid (show V = VV.valN N (VV.at6 [z0, z1, z2, z3, z4, z5] (VV.cnt [z0, z1, z2, z3, z4, z5] - 1)) from by rw [hal]; exact hzv)
          obtain ⟨e0, e1, e2, e3, e4, e5, e6, e7, e8⟩ := E1.out.cells
          obtain ⟨r0, r1, r2, r3, r4, r5⟩ := cells6 S1.out
          generalize VV.cnt [z0, z1, z2, z3, z4, z5] = n at *
          clear hzs hzo hzb hzv hal HZ CA CU MV HVN
          go_wp2_with fail
          refine CA1.out.mono ?_
          rintro ev w5 ⟨Bt, rfl, ht, htB, nb⟩
          have B5 := Lib.hid (HB1.out.trans (nb.mono HB1.out.size))
          have cv := ht.cell (F_at (fun i => VV.valN N (VV.at6 [z0, z1, z2, z3, z4, z5] i)) (show n - 1 < n by omega))
          try dsimp only at cv
          rw [← HVV.out] at cv
          clear nb HB1 E1 S1 e0 e1 e2 e3 e4 e5 e6 e7 e8 r0 r1 r2 r3 r4 r5 CA1 ht htB
          obtain ⟨m, rfl⟩ : ∃ m, n = m + 1 := ⟨n - 1, by omega⟩
          rw [show m + 1 - 1 = m by omega] at cv
          have hm1 : ((m + 1 : Nat) : Int) - 1 = (m : Int) := by omega
          have hm2 : wrap64 (((m + 1 : Nat) : Int) - 1) = (m : Int) := by unfold wrap64; omega
          have hm3 : wrap64 ((m : Int) + 1 - 1) = (m : Int) := by unfold wrap64; omega
          go_wp2
          go_ret
          exact ⟨rfl, B5.out⟩
    · have HV := Lib.hid (V2.out hcb)
      have hne3 : (chk [q0, q1, q2, q3, q4, q5] == 0) = false := beq_eq_false_iff_ne.2 hcb
      generalize chk [q0, q1, q2, q3, q4, q5] = cb at *
      clear V1 V2 V3 AO
      go_wp2_with fail
      refine (CK.out _ HB.out).mono ?_
      rintro ev w2 ⟨rfl, nb⟩
      have B2 := Lib.hid (HB.out.trans (nb.mono HB.out.size))
      have S2 := Lib.hid (S0.out.keep nb S0.out.lt)
      clear nb HB E0 S0 CK e0 e1 e2 e3 e4 e5 e6 e7 e8 r0 r1 r2 r3 r4 r5
      obtain ⟨r0, r1, r2, r3, r4, r5⟩ := cells6 S2.out
      go_wp2_with fail
      refine (CB.out _).mono ?_
      rintro ev w3 ⟨rfl, nb⟩
      have B3 := Lib.hid (B2.out.trans (nb.mono B2.out.size))
      clear nb B2 S2 CB r0 r1 r2 r3 r4 r5
      go_wp2
      go_ret
      exact ⟨by rw [HV.out]; try rfl, B3.out⟩
  · have HV := Lib.hid (V1.out hck)
    have hne2 : (ck == 0) = false := beq_eq_false_iff_ne.2 hck
    go_wp2_with fail
    refine (CK.out _ HB.out).mono ?_
    rintro ev w2 ⟨rfl, nb⟩
    have B2 := Lib.hid (HB.out.trans (nb.mono HB.out.size))
    clear nb HB E0 S0 CK e0 e1 e2 e3 e4 e5 e6 e7 e8 r0 r1 r2 r3 r4 r5
    go_wp2
    go_ret
    exact ⟨by rw [HV.out]; try rfl, B2.out⟩
end Go.Proofs.Ytjjpfpgjpmedmaa
