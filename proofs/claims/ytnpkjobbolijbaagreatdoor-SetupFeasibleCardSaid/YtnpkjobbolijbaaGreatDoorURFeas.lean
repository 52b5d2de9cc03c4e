/- The reference's Feasible: no claim of its own. -/
import Derived.Test.YtnpkjobbolijbaaGreatDoorURAllow
namespace Go.Proofs.YtnpkjobbolijbaaGreatDoor
open Go.RowKit
open MU (Su Cp As)
/-- What lies while the sums are made. -/
structure Fsb (wo : World) (v1 v2 v3 v4 : Value) (o c : List Int) (Bo Bc : Nat) (wr : World) : Prop where
  box : TB wr wo.heap.size 27 v1 v2 v3 v4
  op : BB wr Bo 39 o
  cl : BB wr Bc 39 c
  below : Below wo.heap.size wo wr
theorem Fsb.keep {wo wr wr' : World} {v1 v2 v3 v4 : Value} {o c : List Int} {Bo Bc : Nat} (h : Fsb wo v1 v2 v3 v4 o c Bo Bc wr) (hb : Below wr.heap.size wr wr') : Fsb wo v1 v2 v3 v4 o c Bo Bc wr' :=
  ⟨h.box.keep hb, h.op.keep hb h.op.lt, h.cl.keep hb h.cl.lt, h.below.trans (hb.mono h.below.size)⟩
/-- The sums stay small: all bundles are right. -/
theorem tot_rng {l : List (List Int)} {k : Nat} (hk : k < 6) : ∀ n, (∀ i, i < n → MB.okB (l.getD i []) = true) → 0 ≤ MU.totK l k n ∧ MU.totK l k n ≤ 4 * (n : Int)
  | 0, _ => ⟨Int.le_refl _, by show (0 : Int) ≤ _; omega⟩
  | n + 1, h => by
    have ih := tot_rng hk n fun i hi => h i (by omega)
    have h1 := MC.okB_at (h n (by omega)) k
    rw [MU.totK]; push_cast; omega
theorem out_rng {s : Su} {l : List (List Int)} {k : Nat} (hk : k < 6) : ∀ n, (∀ i, i < n → MB.okB (l.getD i []) = true) → 0 ≤ MU.outK s l k n ∧ MU.outK s l k n ≤ 4 * (n : Int)
  | 0, _ => ⟨Int.le_refl _, by show (0 : Int) ≤ _; omega⟩
  | n + 1, h => by
    have ih := out_rng (s := s) hk n fun i hi => h i (by omega)
    have h1 := MC.okB_at (h n (by omega)) k
    rw [MU.outK]; push_cast
    split <;> omega
theorem add_wrap {x u : Int} (h1 : 0 ≤ x ∧ x ≤ 1000) (h2 : 0 ≤ u ∧ u ≤ 1000) : wrap64 (x + u) = x + u := by unfold wrap64; omega
set_option maxRecDepth 100000 in
set_option maxHeartbeats 8000000 in
theorem rfeas_any (A1 : Option Addr) (n1 c1 : Nat) (A2 : Option Addr) (n2 c2 : Nat) (A3 : Option Addr) (n3 c3 : Nat) (A4 : Option Addr) (n4 c4 : Nat) (s : Su) (A : Option Addr) (n c : Nat) (l : List (List Int)) (w : World) (h : SuAt w A1 n1 c1 A2 n2 c2 A3 n3 c3 A4 n4 c4 s) (h' : Lst bunE w A n c l) :
    Calls Tryz.prog 24 #[.agg #[.slice A1 n1 c1, .slice A2 n2 c2, .slice A3 n3 c3, .slice A4 n4 c4], .slice A n c] w (Gives (.int .i64 (MU.feasE s l)) w) := by
  have hn1 := h.ps.few
  have hn2 := h.bs.few
  have hn := h'.few
  have hc1 := h.ps.cap
  have hc2 := h.bs.cap
  have hc := h'.cap
  have HL1 := Lib.hid h.ps.len
  have HL2 := Lib.hid h.bs.len
  have HL := Lib.hid h'.len
  have H := Lib.hid h
  have H' := Lib.hid h'
  clear h h'
  have CK := Lib.hid (fun w' (hb : Below w.heap.size w w') => rcheck10_any A1 n1 c1 A2 n2 c2 A3 n3 c3 A4 n4 c4 s w' (H.out.keep hb))
  have OP := Lib.hid (fun w' (hb : Below w.heap.size w w') => ropen_any A1 n1 c1 A2 n2 c2 A3 n3 c3 A4 n4 c4 s w' (H.out.keep hb))
  have AW := Lib.hid (fun i b0 b1 b2 b3 b4 b5 w' (hb : Below w.heap.size w w') => rallow_any A1 n1 c1 A2 n2 c2 A3 n3 c3 A4 n4 c4 s i b0 b1 b2 b3 b4 b5 w' (H.out.keep hb))
  have T0 := Lib.hid (TB.new w 27 (.slice A1 n1 c1) (.slice A2 n2 c2) (.slice A3 n3 c3) (.slice A4 n4 c4))
  have B0 := Lib.hid (below_new w (.cells #[.slice A1 n1 c1, .slice A2 n2 c2, .slice A3 n3 c3, .slice A4 n4 c4] 27))
  have hmo : Tryz.prog.follows .mixedOrders = true := by kernel_rfl
  go_enter Tryz.func24, Tryz.ntmps24
  obtain ⟨er, her⟩ : ∃ er, MU.chkS s = er := ⟨_, rfl⟩
  have HE := Lib.hid her
  rw [her] at CK
  clear her
  obtain ⟨x0, x1, x2, x3⟩ := T0.out.cells
  go_wp2_with fail
  refine (CK.out _ B0.out).mono ?_
  rintro ev w1 ⟨rfl, hb⟩
  have T1 := Lib.hid (T0.out.keep hb)
  have B1 := Lib.hid (B0.out.trans (hb.mono B0.out.size))
  clear hb CK T0 B0 x0 x1 x2 x3
  obtain ⟨x0, x1, x2, x3⟩ := T1.out.cells
  by_cases h1 : er = 0
  · subst h1
    have GS := Lib.hid (MU.chkS_good HE.out)
    by_cases hl : n = n2
    · subst hl
      have hn8 : n ≤ 8 := by rw [← HL2.out]; exact (MR.chk_good GS.out.bs).few
      have hn6 : n1 ≤ 6 := by rw [← HL1.out]; exact (MC.chk_good GS.out.ps).few
      have HLL := Lib.hid (show l.length = s.bs.length by rw [HL.out, HL2.out])
      have HST := Lib.hid (fun (k : Nat) (er : Int) (hk : k < n) (hu : NoE (MU.eachE s l) k) (he : MU.eachE s l k = er) (h0 : er ≠ 0) => ret_int (k := .i64) (show er = MU.feasE s l by
        have e := hu.stop (by rw [he]; exact h0) (show k < l.length by rw [HL.out]; exact hk)
        rw [MU.feasE_each HE.out HLL.out (by rw [e, he]; exact h0), e, he]))
      have dl : ((n : Int) != (n : Int)) = false := by simp
      go_wp2
      go_loopw [6] (fun i wr => ∃ k : Nat, k ≤ n ∧ i = .int .i64 k ∧ Hid (NoE (MU.eachE s l) k) ∧ Hid (Below w1.heap.size w1 wr)) (fun i _ => n - (intOf i).toNat)
      case atStart => exact ⟨0, Nat.zero_le _, rfl, Lib.hid (NoE.start _), Lib.hid (Below.refl _ _)⟩
      case round =>
        obtain ⟨k, hk, rfl, HU, HB⟩ := hrel
        have T2 := Lib.hid (T1.out.keep HB.out)
        have B2 := Lib.hid (B1.out.trans (HB.out.mono B1.out.size))
        clear x0 x1 x2 x3
        obtain ⟨x0, x1, x2, x3⟩ := T2.out.cells
        by_cases hlt : k < n
        · obtain ⟨ad, b0, b1, b2, b3, b4, b5, rfl, q1, hbk, y0, y1, y2, y3, y4, y5⟩ := bun_at (H'.out.keep B2.out) hlt
          have HA := Lib.hid (MU.eachE_at (s := s) q1)
          have CP := Lib.hid (fun w' (hb : Below w.heap.size w w') => AW.out (k : Int) b0 b1 b2 b3 b4 b5 w' hb)
          obtain ⟨ea, hea⟩ : ∃ ea, MU.allowE s (k : Int) [b0, b1, b2, b3, b4, b5] = ea := ⟨_, rfl⟩
          rw [hea] at CP HA
          clear hea q1 hbk
          go_wp2_with fail
          have k0 := cell_regrown x0
          have k1 := cell_regrown x1
          have k2 := cell_regrown x2
          have k3 := cell_regrown x3
          have m0 := cell_regrown y0
          have m1 := cell_regrown y1
          have m2 := cell_regrown y2
          have m3 := cell_regrown y3
          have m4 := cell_regrown y4
          have m5 := cell_regrown y5
          have cS := fun d os => Calls.regrown_of (CP.out (Go.Sort.grow (redrawn wr d) os) (B2.out.trans ((below_regrown wr d os).mono B2.out.size)))
          refine wp_region_quiet_below hmo (by kernel_rfl) ?_
          repeat (quiet_step (exact cS _ _))
          refine wpQuiet_nil ?_
          rintro _ ⟨pz, rfl⟩
          have BZ := below_regrown wr pz.d pz.os
          have B3 := Lib.hid (HB.out.trans (BZ.mono HB.out.size))
          have BF := Lib.hid (B2.out.trans (BZ.mono B2.out.size))
          clear BZ cS k0 k1 k2 k3 m0 m1 m2 m3 m4 m5 CP x0 x1 x2 x3 y0 y1 y2 y3 y4 y5
          generalize Go.Sort.grow (redrawn wr pz.d) pz.os = V at *
          by_cases he : ea = 0
          · subst he
            have U1 := Lib.hid (HU.out.step HA.out)
            clear HST HU HA
            go_wp2
            go_roundw
            case rel => exact ⟨k + 1, by omega, by go_num, U1, B3⟩
            case measure => simp [intOf]; omega
          · have hb : (ea != 0) = true := bne_iff_ne.2 he
            have G := Lib.hid (HST.out k ea hlt HU.out HA.out he)
            clear HST HU HA
            go_wp2
            go_ret
            exact ⟨G.out, BF.out⟩
        · obtain rfl : k = n := by omega
          have HOK := Lib.hid (show ∀ i, i < k → MB.okB (l.getD i []) = true from fun i hi => (MU.allowE_zero (HU.out i hi)).2.2.1)
          have HFE := Lib.hid (MU.feasE_over HE.out HLL.out (by rw [HL.out]; exact HU.out))
          have HS2 := Lib.hid (fun (j : Nat) (hj : j < n1) (hu : NoE (MU.overE s l) j) (ho : MU.overE s l j = 14) => ret_int (k := .i64) (show 14 = MU.feasE s l by
            rw [HFE.out, hu.stop (by rw [ho]; decide) (by rw [HL1.out]; exact hj), ho]))
          have HFN := Lib.hid (fun (hu : NoE (MU.overE s l) n1) => ret_int (k := .i64) (show 0 = MU.feasE s l by rw [HFE.out, hu.fin (by rw [HL1.out]; omega)]))
          clear HST HU HB HFE T1
          obtain ⟨o0, o1, o2, o3, o4, o5, ho⟩ := six (MU.openB_len s)
          obtain ⟨k0, k1, k2, k3, k4, k5, hk⟩ := six (MU.classB_len s)
          rw [ho, hk, aggB_lit, aggB_lit] at OP
          have HO := Lib.hid ho
          have HK := Lib.hid hk
          clear ho hk
          go_wp2_with fail
          refine (OP.out _ B2.out).mono ?_
          rintro ev w3 ⟨rfl, hb⟩
          have hb2 := hb.trans ((below_two w3 (.cells #[.int .i64 o0, .int .i64 o1, .int .i64 o2, .int .i64 o3, .int .i64 o4, .int .i64 o5] 39) (.cells #[.int .i64 k0, .int .i64 k1, .int .i64 k2, .int .i64 k3, .int .i64 k4, .int .i64 k5] 39)).mono hb.size)
          have FS := Lib.hid (show Fsb w (.slice A1 n1 c1) (.slice A2 k c2) (.slice A3 n3 c3) (.slice A4 n4 c4) (MU.openB s) (MU.classB s) w3.heap.size (w3.heap.size + 1)
              ((w3.alloc (.cells #[.int .i64 o0, .int .i64 o1, .int .i64 o2, .int .i64 o3, .int .i64 o4, .int .i64 o5] 39)).alloc (.cells #[.int .i64 k0, .int .i64 k1, .int .i64 k2, .int .i64 k3, .int .i64 k4, .int .i64 k5] 39)) from by
            rw [HO.out, HK.out]
            have Q := two_boxes w3 39 39 o0 o1 o2 o3 o4 o5 k0 k1 k2 k3 k4 k5
            exact ⟨T2.out.keep hb2, Q.1, Q.2, B2.out.trans (hb2.mono B2.out.size)⟩)
          clear hb hb2 OP T2 B2 HO HK x0 x1 x2 x3
          go_wp2
          generalize ((w3.alloc (.cells #[.int .i64 o0, .int .i64 o1, .int .i64 o2, .int .i64 o3, .int .i64 o4, .int .i64 o5] 39)).alloc (.cells #[.int .i64 k0, .int .i64 k1, .int .i64 k2, .int .i64 k3, .int .i64 k4, .int .i64 k5] 39)) = W3 at *
          generalize w3.heap.size = Bo at *
          obtain ⟨x0, x1, x2, x3⟩ := FS.out.box.cells
          have BD := Lib.hid FS.out.below
          go_loopw [10] (fun t wr => ∃ j q : Nat, j ≤ n1 ∧ t = .int .i64 j ∧ wr = W3.drewN q ∧ Hid (NoE (MU.overE s l) j)) (fun t _ => n1 - (intOf t).toNat)
          case atStart => exact ⟨0, 0, Nat.zero_le _, rfl, rfl, Lib.hid (NoE.start _)⟩
          case round =>
            obtain ⟨j, q, hj, rfl, rfl, HV⟩ := hrel
            by_cases hjt : j < n1
            · have hj6 : j < 6 := by omega
              have hj6' : (j : Int) < 6 := by omega
              have e2 := FS.out.op.cell hj6
              have e3 := FS.out.cl.cell hj6
              have HTR := Lib.hid (fun i (hi : i ≤ k) => tot_rng hj6 i fun i' hi' => HOK.out i' (by omega))
              have HOR := Lib.hid (fun i (hi : i ≤ k) => out_rng (s := s) hj6 i fun i' hi' => HOK.out i' (by omega))
              obtain ⟨ck, hck⟩ : ∃ z, MB.at_ (MU.classB s) j = z := ⟨_, rfl⟩
              have HCK := Lib.hid hck
              rw [hck] at e3
              clear hck
              go_wp2
              go_loopw [11, 12, 13] (fun a o t wr => ∃ i q : Nat, i ≤ k ∧ t = .int .i64 i ∧ a = .int .i64 (MU.totK l j i) ∧ o = .int .i64 (MU.outK s l j i) ∧ wr = W3.drewN q) (fun _ _ t _ => k - (intOf t).toNat)
              case atStart => exact ⟨0, q, Nat.zero_le _, rfl, rfl, rfl, rfl⟩
              case round =>
                obtain ⟨i, q2, hi, rfl, rfl, rfl, rfl⟩ := hrel
                by_cases hit : i < k
                · obtain ⟨ad, x, rfl, q1, hx6, hbk, z1⟩ := bun_cell (H'.out.keep FS.out.below) hit hj6
                  obtain ⟨ad2, pb, rfl, q3, hfi, hbk2, v0, v1, v2, v3⟩ := bd_at (H.out.bs.keep FS.out.below) hit
                  have HT := Lib.hid (MU.totK_at (k := j) q1)
                  have HCL := Lib.hid (MU.clsOf_at q3)
                  have h1 := HTR.out i (by omega)
                  have h2 := HOR.out i (by omega)
                  have h3 := MC.okB_at (HOK.out i hit) j
                  rw [List.getD_eq_getElem?_getD, q1, Option.getD_some] at h3
                  have w1' := add_wrap (x := MU.totK l j i) (u := MB.at_ x j) (by omega) (by omega)
                  have w2' := add_wrap (x := MU.outK s l j i) (u := MB.at_ x j) (by omega) (by omega)
                  have HY := Lib.hid (fun h => MU.outK_yes (s := s) (k := j) q1 h)
                  have HN := Lib.hid (fun h => MU.outK_no (s := s) (l := l) (k := j) (n := i) h)
                  rw [HCL.out, HCK.out] at HY HN
                  clear h1 h2 h3 q1 q3 hfi hbk hbk2 hx6 HCL v0 v2 v3
                  obtain ⟨pn, pc, pbu, pp⟩ := pb
                  simp only at *
                  generalize MB.at_ x j = bx at *
                  obtain ⟨tk, htk⟩ : ∃ z, MU.totK l j i = z := ⟨_, rfl⟩
                  obtain ⟨ok, hok⟩ : ∃ z, MU.outK s l j i = z := ⟨_, rfl⟩
                  rw [htk] at w1' HT ⊢
                  rw [hok] at w2' HY HN ⊢
                  clear htk hok
                  go_upto_region 21 with (fail)
                  by_cases g2 : ck = 0
                  · have d2 : (ck != 0) = false := by simp [g2]
                    have HO2 := Lib.hid (HN.out (fun x => x.1 g2))
                    clear HN HY
                    go_wp2
                    go_quiet (fail)
                    go_wp2
                    go_roundw
                    case rel => exact ⟨i + 1, _, by omega, by go_num, by rw [HT.out]; try (first | rfl | (rw [w1'])), by rw [HO2.out]; try (first | rfl | (rw [w2'])), rfl⟩
                    case measure => simp [intOf]; omega
                  · have d2 : (ck != 0) = true := bne_iff_ne.2 g2
                    by_cases g3 : ck = pc
                    · subst g3
                      have d3 : (ck != ck) = false := by simp
                      have HO2 := Lib.hid (HN.out (fun x => x.2 rfl))
                      clear HN HY
                      go_wp2
                      go_quiet (fail)
                      go_wp2
                      go_roundw
                      case rel => exact ⟨i + 1, _, by omega, by go_num, by rw [HT.out]; try (first | rfl | (rw [w1'])), by rw [HO2.out]; try (first | rfl | (rw [w2'])), rfl⟩
                      case measure => simp [intOf]; omega
                    · have d3 : (ck != pc) = true := bne_iff_ne.2 g3
                      have HO2 := Lib.hid (HY.out ⟨g2, g3⟩)
                      clear HN HY
                      go_wp2
                      go_quiet (fail)
                      go_wp2
                      go_roundw
                      case rel => exact ⟨i + 1, _, by omega, by go_num, by rw [HT.out]; try (first | rfl | (rw [w1'])), by rw [HO2.out]; try (first | rfl | (rw [w2'])), rfl⟩
                      case measure => simp [intOf]; omega
                · obtain rfl : i = k := by omega
                  obtain ⟨adp, pr, rfl, hpr, hbk, v0, v1, v2, v3, v4⟩ := (H.out.ps.keep FS.out.below).at_ hjt
                  have HSU := Lib.hid (MC.of_at (f := (·.supply)) hpr)
                  have HOV := Lib.hid (show MU.overE s l j = if pr.supply < MU.totK l j i ∨ MB.at_ (MU.openB s) j < MU.outK s l j i then 14 else 0 by
                    unfold MU.overE; rw [HSU.out, HL.out])
                  have HGO := Lib.hid (fun h => HS2.out j hjt HV.out h)
                  have HST := Lib.hid (fun h => HV.out.step h)
                  clear hpr hbk v0 v2 v3 v4 HSU HS2 HFN HV HTR HOR
                  obtain ⟨sup, hsup⟩ : ∃ z, pr.supply = z := ⟨_, rfl⟩
                  rw [hsup] at HOV v1
                  clear hsup
                  generalize MU.totK l j i = tk at *
                  generalize MU.outK s l j i = ok at *
                  generalize MB.at_ (MU.openB s) j = op at *
                  by_cases g1 : sup < tk
                  · have d1 : decide (sup < tk) = true := decide_eq_true g1
                    have G := Lib.hid (HGO.out (by rw [HOV.out, if_pos (.inl g1)]))
                    clear HGO HST HOV
                    go_wp2
                    go_ret
                    exact ⟨G.out, below_drewN BD.out _⟩
                  · have d1 : decide (sup < tk) = false := decide_eq_false g1
                    by_cases g2 : op < ok
                    · have d2 : decide (op < ok) = true := decide_eq_true g2
                      have G := Lib.hid (HGO.out (by rw [HOV.out, if_pos (.inr g2)]))
                      clear HGO HST HOV
                      go_wp2
                      go_ret
                      exact ⟨G.out, below_drewN BD.out _⟩
                    · have d2 : decide (op < ok) = false := decide_eq_false g2
                      have U1 := Lib.hid (HST.out (by rw [HOV.out, if_neg (by rintro (x | x); exact g1 x; exact g2 x)]))
                      clear HGO HST HOV
                      go_wp2
                      go_roundw
                      case rel => exact ⟨j + 1, _, by omega, by go_num, rfl, U1⟩
                      case measure => simp [intOf]; omega
            · obtain rfl : j = n1 := by omega
              have G := Lib.hid (HFN.out HV.out)
              clear HFN HS2 HV
              go_wp2
              go_ret
              exact ⟨G.out, below_drewN BD.out _⟩
    · have dl : ((n : Int) != (n2 : Int)) = true := bne_iff_ne.2 (by omega)
      have G := Lib.hid (ret_int (k := .i64) (MU.feasE_long (l := l) HE.out (by rw [HL.out, HL2.out]; exact hl)).symm)
      go_wp2
      go_ret
      exact ⟨G.out, B1.out⟩
  · have hne : (er != 0) = true := bne_iff_ne.2 h1
    have G := Lib.hid (ret_int (k := .i64) (show er = MU.feasE s l by rw [MU.feasE_chk (by rw [HE.out]; exact h1), HE.out]))
    go_wp2
    go_ret
    exact ⟨G.out, B1.out⟩
end Go.Proofs.YtnpkjobbolijbaaGreatDoor
