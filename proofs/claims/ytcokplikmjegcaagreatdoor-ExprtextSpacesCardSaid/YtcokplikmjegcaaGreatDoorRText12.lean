/- The reference's text and Format: no claim of its own. -/
import Derived.Test.YtcokplikmjegcaaGreatDoorJQ
import Derived.Test.YtcokplikmjegcaaGreatDoorJR
import Derived.Test.YtcokplikmjegcaaGreatDoorERef2
namespace Go.Proofs.YtcokplikmjegcaaGreatDoor
open Go.RowKit
open MC (Pr)
open ME (F Nd)
theorem lit_str (a : Array UInt8) : (⟨a⟩ : ByteArray) = str a.toList := bytes_eq _ _ (by rw [str_data])
set_option maxRecDepth 100000 in
set_option maxHeartbeats 4000000 in
theorem rtext12_any (A : Option Addr) (n cp : Nat) (L : List Pr) : ∀ (N : Nat) (x : NT), x.size ≤ N → N ≤ 8000 → ∀ (w : World) (ok : Nat → Prop), Prs w A n cp L → x.Ok w ok → (∀ z ∈ x.n.pre, MX.OkN L z) → Calls Tryz.prog 25 #[.slice A n cp, x.val] w (Gives (.string (str (MX.txN L x.n))) w) := by
  intro N
  induction N with
  | zero => intro x hx; unfold NT.size at hx; omega
  | succ N ih =>
    intro x hx hN8 w ok hp hok hv
    have IH := Lib.hid ih
    have hsz : x.k.size ≤ N := by unfold NT.size at hx; omega
    clear ih hx
    obtain ⟨o, bb, v, A1, c1, k⟩ := x
    obtain ⟨x0, x1, x2, x3, x4, x5, rfl⟩ := six hok.six
    have hn := hok.kids.few
    have hcap := hok.kids.cap
    dsimp only at hn hcap hsz
    have B0 := Lib.hid (below_new w (.cells #[.int .i64 o, .int .i64 x0, .int .i64 x1, .int .i64 x2, .int .i64 x3, .int .i64 x4, .int .i64 x5, .int .i64 v, .slice A1 k.len c1] 27))
    have X0 : Hid (B9 (w.alloc (.cells #[.int .i64 o, .int .i64 x0, .int .i64 x1, .int .i64 x2, .int .i64 x3, .int .i64 x4, .int .i64 x5, .int .i64 v, .slice A1 k.len c1] 27)) w.heap.size (.int .i64 o) (.int .i64 x0) (.int .i64 x1) (.int .i64 x2) (.int .i64 x3) (.int .i64 x4) (.int .i64 x5) (.int .i64 v) (.slice A1 k.len c1)) := Lib.hid (heap_new _ _)
    have RS0 := Lib.hid ((hok.below B0.out).kids.rest)
    have hmo : Tryz.prog.follows .mixedOrders = true := by kernel_rfl
    have hx := hv _ List.mem_cons_self
    have HV0 := Lib.hid (fun z hz => hv z (List.mem_cons_of_mem _ hz) : ∀ z ∈ k.f.pre, MX.OkN L z)
    have hval := MX.node_val hx.1
    have hv0 : 0 ≤ v := hval.1
    have hv1 : v ≤ 1000000 := hval.2
    have hways := MX.node_ways hx.1
    dsimp only [NT.n] at hways
    have hfit : MC.Fits L [x0, x1, x2, x3, x4, x5] := hx.2.1
    have FM := Lib.hid (fun w' (hb : Below w.heap.size w w') => rformat_any A n cp L x0 x1 x2 x3 x4 x5 w' (hp.keep hb))
    rw [fmt_yes hfit] at FM
    have NM := Lib.hid (fun w' => rnumber12_any v.toNat (by omega) w')
    rw [Int.toNat_of_nonneg hv0] at NM
    have hJ : (MX.joinC (MX.txF L k.f)).length ≤ 888000 := by
      have h1 := MX.joinC_len (MX.txF L k.f)
      have h2 := MX.txF_len L k.f HV0.out
      rw [FT.size_f] at h2
      omega
    have hsF : (str (MC.textL L [x0, x1, x2, x3, x4, x5])).size ≤ 92 := by rw [str_size]; exact hfit.text_len
    have hsN : (str (MU.num v)).size ≤ 7 := by rw [str_size]; exact MX.num_len hv0 hv1
    have HP := Lib.hid hp
    have HTX := Lib.hid (show MX.txN L (NT.n (⟨o, [x0, x1, x2, x3, x4, x5], v, A1, c1, k⟩ : NT)) = MX.nodeT L o [x0, x1, x2, x3, x4, x5] v (MX.txF L k.f) from rfl)
    rw [NT.val_lit]
    generalize MX.txN L (NT.n (⟨o, [x0, x1, x2, x3, x4, x5], v, A1, c1, k⟩ : NT)) = TX at *
    clear hok hp hv hx hval hfit
    go_enter Tryz.func25, Tryz.ntmps25
    go_upto_region 1 with (fail)
    obtain ⟨W0, hW0⟩ : ∃ W0, W0 = w.alloc (.cells #[.int .i64 o, .int .i64 x0, .int .i64 x1, .int .i64 x2, .int .i64 x3, .int .i64 x4, .int .i64 x5, .int .i64 v, .slice A1 k.len c1] 27) := ⟨_, rfl⟩
    rw [← hW0] at B0 X0 RS0 ⊢
    clear hW0
    obtain ⟨a0, a1, a2, a3, a4, a5, a6, a7, a8⟩ := X0.out.cells
    by_cases h1 : o = 1
    · have e1 : (o == 1) = true := by rw [h1]; rfl
      have ER := Lib.hid (show Ending.returned (.string (str (MC.textL L [x0, x1, x2, x3, x4, x5]) ++ ⟨#[64]⟩ ++ str (MU.num v))) = .returned (.string (str TX)) by
        rw [HTX.out, lit_str, str_append, str_append]
        unfold MX.nodeT MX.bidT
        rw [if_pos h1]
        simp)
      generalize str (MC.textL L [x0, x1, x2, x3, x4, x5]) = sF at *
      generalize str (MU.num v) = sN at *
      have z0 : ¬ 9223372036854775807 < sF.size + 1 := by omega
      have z1 : ¬ 9223372036854775807 < sF.size + 1 + sN.size := by omega
      clear HTX RS0 HV0 hJ IH h1 hways
      go_wp2
      have k0 := cell_regrown a0
      have k1 := cell_regrown a1
      have k2 := cell_regrown a2
      have k3 := cell_regrown a3
      have k4 := cell_regrown a4
      have k5 := cell_regrown a5
      have k6 := cell_regrown a6
      have k7 := cell_regrown a7
      have k8 := cell_regrown a8
      have cF := fun d os => Calls.regrown_of (FM.out (Go.Sort.grow (redrawn W0 d) os) (B0.out.trans ((below_regrown W0 d os).mono B0.out.size)))
      have cN := fun d os => Calls.regrown_of (NM.out (Go.Sort.grow (redrawn W0 d) os))
      clear a0 a1 a2 a3 a4 a5 a6 a7 a8
      refine wp_region_quiet_below hmo (by kernel_rfl) ?_
      quiet_step (skip)
      quiet_step (skip)
      quiet_step (skip)
      quiet_step (exact cF _ _)
      quiet_step (skip)
      quiet_step (skip)
      quiet_step (skip)
      quiet_step (exact cN _ _)
      quiet_step (skip)
      quiet_step (skip)
      refine wpQuiet_nil ?_
      rintro _ ⟨pz, rfl⟩
      have BZ := Lib.hid (B0.out.trans ((below_regrown W0 pz.d pz.os).mono B0.out.size))
      clear cF cN k0 k1 k2 k3 k4 k5 k6 k7 k8
      generalize Go.Sort.grow (redrawn W0 pz.d) pz.os = V at *
      clear B0 X0
      go_wp2
      go_ret
      exact ⟨ER.out, BZ.out⟩
    · have e1 : (o == 1) = false := beq_eq_false_iff_ne.2 h1
      go_wp2
      clear a0 a1 a2 a3 a4 a5 a6 a7 a8
      go_loopw [5, 6] (fun sv i wr => ∃ (q : Nat) (rs : FT) (t : List UInt8), q ≤ k.len ∧ rs.size ≤ N ∧ i = .int .i64 q ∧ sv = .string (str t) ∧ Hid (Rest wr ok A1 q rs k.len) ∧ Hid (B9 wr w.heap.size (.int .i64 o) (.int .i64 x0) (.int .i64 x1) (.int .i64 x2) (.int .i64 x3) (.int .i64 x4) (.int .i64 x5) (.int .i64 v) (.slice A1 k.len c1)) ∧ Hid (Below w.heap.size w wr) ∧ Hid (t ++ jt L q rs.f = MX.joinC (MX.txF L k.f)) ∧ Hid (∀ z ∈ rs.f.pre, MX.OkN L z)) (fun _ i _ => k.len - (intOf i).toNat)
      case atStart => exact ⟨0, k, [], Nat.zero_le _, hsz, rfl, rfl, RS0, X0, B0, Lib.hid rfl, HV0⟩
      case round =>
        clear RS0 X0 B0 HV0
        obtain ⟨q, rs, t, hq, hrs, rfl, rfl, RS, XB, HB, HE, HV⟩ := hrel
        obtain ⟨a0, a1, a2, a3, a4, a5, a6, a7, a8⟩ := XB.out.cells
        have htl : t.length ≤ 888000 := by
          have e := congrArg List.length HE.out
          rw [List.length_append] at e
          omega
        have hst : (str t).size ≤ 888000 := by rw [str_size]; exact htl
        by_cases hlt : q < k.len
        · have hlt' : (q : Int) < (k.len : Int) := by omega
          obtain ⟨ad, oy, y0, y1, y2, y3, y4, y5, vy, Ay, cy, ky, r', rfl, rfl, hoky, hnx, hbk, _, z0, z1, z2, z3, z4, z5, z6, z7, z8⟩ := RS.out.open_ hlt
          have hs2 : NT.size (⟨oy, [y0, y1, y2, y3, y4, y5], vy, Ay, cy, ky⟩ : NT) ≤ N := by unfold FT.size at hrs; unfold NT.size; show ky.size + 1 ≤ N; omega
          have hr2 : r'.size ≤ N := by unfold FT.size at hrs; omega
          have HV2 : Hid (∀ z ∈ r'.f.pre, MX.OkN L z) := Lib.hid (fun z hz => HV.out z (by show z ∈ ME.F.pre (.cons _ _ _ _ _); simp only [ME.F.pre, List.mem_cons, List.mem_append]; exact .inr (.inr hz)))
          have HVY : ∀ z ∈ (NT.n (⟨oy, [y0, y1, y2, y3, y4, y5], vy, Ay, cy, ky⟩ : NT)).pre, MX.OkN L z := fun z hz => HV.out z (by
            show z ∈ ME.F.pre (.cons _ _ _ _ _)
            rcases List.mem_cons.1 hz with e | e
            · rw [e]; exact List.mem_cons_self
            · simp only [ME.F.pre, List.mem_cons, List.mem_append]; exact .inr (.inl e))
          have CW := Lib.hid (IH.out (⟨oy, [y0, y1, y2, y3, y4, y5], vy, Ay, cy, ky⟩ : NT) hs2 (by omega) wr ok (HP.out.keep HB.out) hoky HVY)
          have RN := Lib.hid hnx
          have TXY : MX.txN L ⟨oy, [y0, y1, y2, y3, y4, y5], vy, ky.f⟩ = MX.txN L (NT.n (⟨oy, [y0, y1, y2, y3, y4, y5], vy, Ay, cy, ky⟩ : NT)) := rfl
          have HE2 := HE.out
          rw [show FT.f (.cons oy [y0, y1, y2, y3, y4, y5] vy Ay cy ky r') = .cons oy [y0, y1, y2, y3, y4, y5] vy ky.f r'.f from rfl] at HE2
          rw [NT.val_lit] at CW
          by_cases hq0 : q = 0
          · rw [jt_zero L hq0, TXY] at HE2
            have HE3 := Lib.hid HE2
            have hd : decide ((0 : Int) < (q : Int)) = false := decide_eq_false (by omega)
            have hqn : ¬ 0 < q := by omega
            clear HE HE2 TXY HV HVY hoky hnx RS hq0 hs2
            have hsy : (str t).size + (str (MX.txN L (NT.n (⟨oy, [y0, y1, y2, y3, y4, y5], vy, Ay, cy, ky⟩ : NT)))).size ≤ 888000 := by
              have e := congrArg List.length HE3.out
              rw [List.length_append, List.length_append] at e
              rw [str_size, str_size]
              omega
            have HAP := Lib.hid (str_append t (MX.txN L (NT.n (⟨oy, [y0, y1, y2, y3, y4, y5], vy, Ay, cy, ky⟩ : NT))))
            generalize MX.txN L (NT.n (⟨oy, [y0, y1, y2, y3, y4, y5], vy, Ay, cy, ky⟩ : NT)) = ty at *
            have HE4 : Hid (t ++ ty ++ jt L (q + 1) r'.f = MX.joinC (MX.txF L k.f)) := Lib.hid (by rw [List.append_assoc]; exact HE3.out)
            have z9 : ¬ 9223372036854775807 < (str t).size + (str ty).size := by omega
            generalize hs1 : str t = st at *
            generalize hs3 : str ty = sy at *
            clear hs1 hs3
            go_wp2_with fail
            refine CW.out.mono ?_
            rintro ev w4 ⟨rfl, hb⟩
            have B4 := Lib.hid (HB.out.trans (hb.mono HB.out.size))
            have X4 := Lib.hid (XB.out.keep hb)
            have R4 := Lib.hid (RN.out.below hb)
            clear hb CW HB XB RN HE3 a0 a1 a2 a3 a4 a5 a6 a7 a8 z0 z1 z2 z3 z4 z5 z6 z7 z8
            go_wp2
            go_roundw
            case rel => exact ⟨q + 1, r', t ++ ty, by omega, hr2, by go_num, by rw [← HAP.out], R4, X4, B4, HE4, HV2⟩
            case measure => simp [intOf]; omega
          · rw [jt_more L hq0, TXY] at HE2
            have HE3 := Lib.hid HE2
            have hpos : (0 : Int) < (q : Int) := by omega
            have hd : decide ((0 : Int) < (q : Int)) = true := decide_eq_true hpos
            have hqn : 0 < q := by omega
            clear HE HE2 TXY HV HVY hoky hnx RS hq0 hs2
            have hsy : (str t).size + 1 + (str (MX.txN L (NT.n (⟨oy, [y0, y1, y2, y3, y4, y5], vy, Ay, cy, ky⟩ : NT)))).size ≤ 888000 := by
              have e := congrArg List.length HE3.out
              rw [List.length_append, List.length_cons, List.length_append] at e
              rw [str_size, str_size]
              omega
            have HAP : Hid (str t ++ ⟨#[44]⟩ ++ str (MX.txN L (NT.n (⟨oy, [y0, y1, y2, y3, y4, y5], vy, Ay, cy, ky⟩ : NT))) = str (t ++ [44] ++ MX.txN L (NT.n (⟨oy, [y0, y1, y2, y3, y4, y5], vy, Ay, cy, ky⟩ : NT)))) := Lib.hid (by rw [lit_str, str_append, str_append])
            generalize MX.txN L (NT.n (⟨oy, [y0, y1, y2, y3, y4, y5], vy, Ay, cy, ky⟩ : NT)) = ty at *
            have HE4 : Hid (t ++ [44] ++ ty ++ jt L (q + 1) r'.f = MX.joinC (MX.txF L k.f)) := Lib.hid (by rw [← HE3.out]; simp)
            have z9 : ¬ 9223372036854775807 < (str t).size + 1 := by omega
            have z10 : ¬ 9223372036854775807 < (str t).size + 1 + (str ty).size := by omega
            generalize hs1 : str t = st at *
            generalize hs3 : str ty = sy at *
            clear hs1 hs3
            go_wp2_with fail
            refine CW.out.mono ?_
            rintro ev w4 ⟨rfl, hb⟩
            have B4 := Lib.hid (HB.out.trans (hb.mono HB.out.size))
            have X4 := Lib.hid (XB.out.keep hb)
            have R4 := Lib.hid (RN.out.below hb)
            clear hb CW HB XB RN HE3 a0 a1 a2 a3 a4 a5 a6 a7 a8 z0 z1 z2 z3 z4 z5 z6 z7 z8
            go_wp2
            go_roundw
            case rel => exact ⟨q + 1, r', t ++ [44] ++ ty, by omega, hr2, by go_num, by rw [← HAP.out], R4, X4, B4, HE4, HV2⟩
            case measure => simp [intOf]; omega
        · obtain ⟨rfl, _⟩ := RS.out.end_ hlt
          have hlt' : ¬ (q : Int) < (k.len : Int) := by omega
          have HJT : Hid (MX.joinC (MX.txF L k.f) = t) := Lib.hid (by rw [← HE.out, show FT.f .nil = .nil from rfl, jt_nil, List.append_nil])
          clear HE RS HV
          have e2 : (o == 2) = decide (o = 2) := rfl
          have e3 : (o == 3) = decide (o = 3) := rfl
          have e4 : (o == 4) = decide (o = 4) := rfl
          have z4 : ¬ 9223372036854775807 < 4 + (str t).size := by omega
          have z3 : ¬ 9223372036854775807 < 3 + (str t).size := by omega
          have z5 : ¬ 9223372036854775807 < 4 + (str t).size + 1 := by omega
          have z6 : ¬ 9223372036854775807 < 3 + (str t).size + 1 := by omega
          by_cases h2 : o = 2
          · have ER := Lib.hid (show Ending.returned (.string ((⟨#[120, 111, 114, 40]⟩ : ByteArray) ++ str t ++ ⟨#[41]⟩)) = .returned (.string (str TX)) by
              rw [HTX.out, lit_str, lit_str, str_append, str_append]
              unfold MX.nodeT MX.xorW
              rw [if_neg h1, if_pos h2, HJT.out]
              simp)
            rw [decide_eq_true h2] at e2
            clear HTX HJT IH h2 hways e3 e4
            generalize str t = st at *
            go_wp2
            go_ret
            exact ⟨ER.out, HB.out⟩
          rw [decide_eq_false h2] at e2
          by_cases h3 : o = 3
          · have ER := Lib.hid (show Ending.returned (.string ((⟨#[111, 114, 40]⟩ : ByteArray) ++ str t ++ ⟨#[41]⟩)) = .returned (.string (str TX)) by
              rw [HTX.out, lit_str, lit_str, str_append, str_append]
              unfold MX.nodeT MX.orW
              rw [if_neg h1, if_neg h2, if_pos h3, HJT.out]
              simp)
            rw [decide_eq_true h3] at e3
            clear HTX HJT IH h2 h3 hways e4
            generalize str t = st at *
            go_wp2
            go_ret
            exact ⟨ER.out, HB.out⟩
          rw [decide_eq_false h3] at e3
          by_cases h4 : o = 4
          · have ER := Lib.hid (show Ending.returned (.string ((⟨#[98, 111, 110, 117, 115, 40]⟩ : ByteArray) ++ str t ++ ⟨#[44]⟩ ++ str (MC.textL L [x0, x1, x2, x3, x4, x5]) ++ ⟨#[64]⟩ ++ str (MU.num v) ++ ⟨#[41]⟩)) = .returned (.string (str TX)) by
              rw [HTX.out, lit_str, lit_str, lit_str, lit_str, str_append, str_append, str_append, str_append, str_append, str_append]
              unfold MX.nodeT MX.bonusW MX.bidT
              rw [if_neg h1, if_neg h2, if_neg h3, if_pos h4, HJT.out]
              simp)
            rw [decide_eq_true h4] at e4
            clear HTX HJT IH h2 h3 h4 hways z3 z4 z5 z6
            generalize str t = st at *
            generalize str (MC.textL L [x0, x1, x2, x3, x4, x5]) = sF at *
            generalize str (MU.num v) = sN at *
            have z1 : ¬ 9223372036854775807 < 6 + st.size := by omega
            have z2 : ¬ 9223372036854775807 < 6 + st.size + 1 := by omega
            have z3 : ¬ 9223372036854775807 < 6 + st.size + 1 + sF.size := by omega
            have z4 : ¬ 9223372036854775807 < 6 + st.size + 1 + sF.size + 1 := by omega
            have z5 : ¬ 9223372036854775807 < 6 + st.size + 1 + sF.size + 1 + sN.size := by omega
            have z6 : ¬ 9223372036854775807 < 6 + st.size + 1 + sF.size + 1 + sN.size + 1 := by omega
            go_wp2
            have k0 := cell_regrown a0
            have k1 := cell_regrown a1
            have k2 := cell_regrown a2
            have k3 := cell_regrown a3
            have k4 := cell_regrown a4
            have k5 := cell_regrown a5
            have k6 := cell_regrown a6
            have k7 := cell_regrown a7
            have k8 := cell_regrown a8
            have cF := fun d os => Calls.regrown_of (FM.out (Go.Sort.grow (redrawn wr d) os) (HB.out.trans ((below_regrown wr d os).mono HB.out.size)))
            have cN := fun d os => Calls.regrown_of (NM.out (Go.Sort.grow (redrawn wr d) os))
            clear a0 a1 a2 a3 a4 a5 a6 a7 a8
            refine wp_region_quiet_below hmo (by kernel_rfl) ?_
            quiet_step (skip)
            quiet_step (skip)
            quiet_step (skip)
            quiet_step (skip)
            quiet_step (skip)
            quiet_step (skip)
            quiet_step (exact cF _ _)
            quiet_step (skip)
            quiet_step (skip)
            quiet_step (skip)
            quiet_step (skip)
            quiet_step (exact cN _ _)
            quiet_step (skip)
            quiet_step (skip)
            quiet_step (skip)
            refine wpQuiet_nil ?_
            rintro _ ⟨pz, rfl⟩
            have BZ := Lib.hid (HB.out.trans ((below_regrown wr pz.d pz.os).mono HB.out.size))
            clear cF cN k0 k1 k2 k3 k4 k5 k6 k7 k8
            generalize Go.Sort.grow (redrawn wr pz.d) pz.os = V at *
            clear HB XB
            go_wp2
            go_ret
            exact ⟨ER.out, BZ.out⟩
          · have ER := Lib.hid (show Ending.returned (.string ((⟨#[108, 105, 109, 105, 116, 40]⟩ : ByteArray) ++ str t ++ ⟨#[44]⟩ ++ str (MU.num v) ++ ⟨#[41]⟩)) = .returned (.string (str TX)) by
              rw [HTX.out, lit_str, lit_str, lit_str, str_append, str_append, str_append, str_append]
              unfold MX.nodeT MX.limitW
              rw [if_neg h1, if_neg h2, if_neg h3, if_neg h4, HJT.out]
              simp)
            rw [decide_eq_false h4] at e4
            clear HTX HJT IH h2 h3 h4 hways z3 z4 z5 z6
            generalize str t = st at *
            generalize str (MU.num v) = sN at *
            have z1 : ¬ 9223372036854775807 < 6 + st.size := by omega
            have z2 : ¬ 9223372036854775807 < 6 + st.size + 1 := by omega
            have z3 : ¬ 9223372036854775807 < 6 + st.size + 1 + sN.size := by omega
            have z4 : ¬ 9223372036854775807 < 6 + st.size + 1 + sN.size + 1 := by omega
            go_wp2_with fail
            refine (NM.out _).mono ?_
            rintro ev w4 ⟨rfl, hb⟩
            have B4 := Lib.hid (HB.out.trans (hb.mono HB.out.size))
            clear hb HB XB a0 a1 a2 a3 a4 a5 a6 a7 a8
            go_wp2
            go_ret
            exact ⟨ER.out, B4.out⟩
end Go.Proofs.YtcokplikmjegcaaGreatDoor
