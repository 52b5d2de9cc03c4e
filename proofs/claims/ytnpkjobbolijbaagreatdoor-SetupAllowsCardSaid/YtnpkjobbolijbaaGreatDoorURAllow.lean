/- The reference's Allowed: no claim of its own. -/
import Derived.Test.YtnpkjobbolijbaaGreatDoorJRk
import Derived.Test.YtnpkjobbolijbaaGreatDoorCRSum
namespace Go.Proofs.YtnpkjobbolijbaaGreatDoor
open Go.RowKit
open MU (Su Cp As)
/-- What lies while the rules are asked. -/
structure Alw (wo : World) (v1 v2 v3 v4 : Value) (b o c p : List Int) (Bo Bc Bs : Nat) (wr : World) : Prop where
  box : TB wr wo.heap.size 27 v1 v2 v3 v4
  bun : BB wr (wo.heap.size + 1) 39 b
  op : BB wr Bo 39 o
  cl : BB wr Bc 39 c
  sp : BB wr Bs 39 p
  below : Below wo.heap.size wo wr
section
variable {wo wr wr' : World} {v1 v2 v3 v4 : Value} {b o c p : List Int} {Bo Bc Bs : Nat}
theorem Alw.keep (h : Alw wo v1 v2 v3 v4 b o c p Bo Bc Bs wr) (hb : Below wr.heap.size wr wr') : Alw wo v1 v2 v3 v4 b o c p Bo Bc Bs wr' :=
  ⟨h.box.keep hb, h.bun.keep hb h.bun.lt, h.op.keep hb h.op.lt, h.cl.keep hb h.cl.lt, h.sp.keep hb h.sp.lt, h.below.trans (hb.mono h.below.size)⟩
end
theorem rule_yes1 {s : Su} {i k : Nat} {b : List Int} (h : MB.at_ (MC.supB s.ps) k < MB.at_ b k) : MU.ruleB s i b k = true := by
  unfold MU.ruleB; rw [decide_eq_true h]; rfl
theorem rule_yes2 {s : Su} {i k : Nat} {b : List Int} (h1 : MB.at_ (MU.classB s) k ≠ 0) (h2 : MB.at_ (MU.classB s) k ≠ MU.clsOf s i) (h3 : MB.at_ (MU.openB s) k < MB.at_ b k) : MU.ruleB s i b k = true := by
  unfold MU.ruleB; rw [decide_eq_true h1, decide_eq_true h2, decide_eq_true h3]; simp
theorem rule_no {s : Su} {i k : Nat} {b : List Int} (h : ¬ MB.at_ (MC.supB s.ps) k < MB.at_ b k) (h2 : ¬ (MB.at_ (MU.classB s) k ≠ 0 ∧ MB.at_ (MU.classB s) k ≠ MU.clsOf s i ∧ MB.at_ (MU.openB s) k < MB.at_ b k)) : MU.ruleB s i b k = false := by
  cases e : MU.ruleB s i b k with
  | false => rfl
  | true =>
    exfalso
    unfold MU.ruleB at e
    simp only [Bool.or_eq_true, Bool.and_eq_true, decide_eq_true_eq] at e
    rcases e with e | ⟨⟨e1, e2⟩, e3⟩
    · exact h e
    · exact h2 ⟨e1, e2, e3⟩
theorem no_step {P : Nat → Bool} {k : Nat} (h : ∀ j, j < k → P j = false) (hk : P k = false) : ∀ j, j < k + 1 → P j = false := fun j hj => by
  rcases Nat.lt_or_ge j k with g | g
  · exact h j g
  · obtain rfl : j = k := by omega
    exact hk
set_option maxRecDepth 100000 in
set_option maxHeartbeats 8000000 in
theorem rallow_any (A1 : Option Addr) (n1 c1 : Nat) (A2 : Option Addr) (n2 c2 : Nat) (A3 : Option Addr) (n3 c3 : Nat) (A4 : Option Addr) (n4 c4 : Nat) (s : Su) (i b0 b1 b2 b3 b4 b5 : Int) (w : World) (h : SuAt w A1 n1 c1 A2 n2 c2 A3 n3 c3 A4 n4 c4 s) :
    Calls Tryz.prog 22 #[.agg #[.slice A1 n1 c1, .slice A2 n2 c2, .slice A3 n3 c3, .slice A4 n4 c4], .int .i64 i, .agg #[.int .i64 b0, .int .i64 b1, .int .i64 b2, .int .i64 b3, .int .i64 b4, .int .i64 b5]] w (Gives (.int .i64 (MU.allowE s i [b0, b1, b2, b3, b4, b5])) w) := by
  have hn2 := h.bs.few
  have hn3 := h.cs.few
  have hc2 := h.bs.cap
  have hc3 := h.cs.cap
  have HL2 := Lib.hid h.bs.len
  have HL3 := Lib.hid h.cs.len
  have H := Lib.hid h
  clear h
  have CK := Lib.hid (fun w' (hb : Below w.heap.size w w') => rcheck10_any A1 n1 c1 A2 n2 c2 A3 n3 c3 A4 n4 c4 s w' (H.out.keep hb))
  have OP := Lib.hid (fun w' (hb : Below w.heap.size w w') => ropen_any A1 n1 c1 A2 n2 c2 A3 n3 c3 A4 n4 c4 s w' (H.out.keep hb))
  have SP := Lib.hid (fun w' (hb : Below w.heap.size w w') => rsupply_any A1 n1 c1 s.ps w' (H.out.ps.keep hb))
  have VA := Lib.hid (fun w' => valid8_any b0 b1 b2 b3 b4 b5 w')
  have SU := Lib.hid (fun g w' (hb : Below w.heap.size w w') => rsums_any g A1 n1 c1 s.ps b0 b1 b2 b3 b4 b5 w' (H.out.ps.keep hb))
  have T0 := Lib.hid ((TB.new w 27 (.slice A1 n1 c1) (.slice A2 n2 c2) (.slice A3 n3 c3) (.slice A4 n4 c4)).keep (below_new _ (.cells #[.int .i64 b0, .int .i64 b1, .int .i64 b2, .int .i64 b3, .int .i64 b4, .int .i64 b5] 39)))
  have N0 := Lib.hid (BB.new (w.alloc (.cells #[.slice A1 n1 c1, .slice A2 n2 c2, .slice A3 n3 c3, .slice A4 n4 c4] 27)) 39 b0 b1 b2 b3 b4 b5)
  rw [World.size_alloc] at N0
  have B0 := Lib.hid (below_two w (.cells #[.slice A1 n1 c1, .slice A2 n2 c2, .slice A3 n3 c3, .slice A4 n4 c4] 27) (.cells #[.int .i64 b0, .int .i64 b1, .int .i64 b2, .int .i64 b3, .int .i64 b4, .int .i64 b5] 39))
  go_enter Tryz.func22, Tryz.ntmps22
  obtain ⟨er, her⟩ : ∃ er, MU.chkS s = er := ⟨_, rfl⟩
  have HE := Lib.hid her
  rw [her] at CK
  clear her
  go_upto_region 1 with (fail)
  generalize (w.alloc (.cells #[.slice A1 n1 c1, .slice A2 n2 c2, .slice A3 n3 c3, .slice A4 n4 c4] 27)).alloc (.cells #[.int .i64 b0, .int .i64 b1, .int .i64 b2, .int .i64 b3, .int .i64 b4, .int .i64 b5] 39) = W0 at *
  obtain ⟨x0, x1, x2, x3⟩ := T0.out.cells
  go_wp2_with fail
  refine (CK.out _ B0.out).mono ?_
  rintro ev w1 ⟨rfl, hb⟩
  have T1 := Lib.hid (T0.out.keep hb)
  have N1 := Lib.hid (N0.out.keep hb N0.out.lt)
  have B1 := Lib.hid (B0.out.trans (hb.mono B0.out.size))
  clear hb CK T0 N0 B0 x0 x1 x2 x3
  obtain ⟨x0, x1, x2, x3⟩ := T1.out.cells
  obtain ⟨y0, y1, y2, y3, y4, y5⟩ := cells6 N1.out
  by_cases h1 : er = 0
  · subst h1
    have GS := Lib.hid (MU.chkS_good HE.out)
    by_cases hno : i < 0 ∨ (n2 : Int) ≤ i
    · have G := Lib.hid (ret_int (k := .i64) (MU.allowE_none (b := [b0, b1, b2, b3, b4, b5]) HE.out (by rw [HL2.out]; exact hno)).symm)
      rcases hno with g1 | g1
      · have d1 : decide (i < 0) = true := decide_eq_true g1
        go_wp2
        go_ret
        exact ⟨G.out, B1.out⟩
      · have d1 : decide (i < 0) = false := decide_eq_false (by omega)
        have d2 : decide ((n2 : Int) ≤ i) = true := decide_eq_true g1
        go_wp2
        go_ret
        exact ⟨G.out, B1.out⟩
    · obtain ⟨I, rfl⟩ := Int.eq_ofNat_of_zero_le (show 0 ≤ i by omega)
      have hI : I < n2 := by omega
      have hIs : I < s.bs.length := by rw [HL2.out]; exact hI
      have d1 : decide ((I : Int) < 0) = false := decide_eq_false (by omega)
      have d2 : decide ((n2 : Int) ≤ (I : Int)) = false := decide_eq_false (by omega)
      clear hno
      cases hv : MB.okB [b0, b1, b2, b3, b4, b5] with
      | false =>
        have G := Lib.hid (ret_int (k := .i64) (MU.allowE_bad HE.out hIs hv).symm)
        rw [hv] at VA
        clear hv
        go_wp2_with fail
        refine (VA.out _).mono ?_
        rintro ev w2 ⟨rfl, hb⟩
        have B2 := Lib.hid (B1.out.trans (hb.mono B1.out.size))
        clear hb
        go_wp2
        go_ret
        exact ⟨G.out, B2.out⟩
      | true =>
        have HV := Lib.hid hv
        rw [hv] at VA
        clear hv
        go_wp2_with fail
        refine (VA.out _).mono ?_
        rintro ev w2 ⟨rfl, hb⟩
        have T2 := Lib.hid (T1.out.keep hb)
        have N2 := Lib.hid (N1.out.keep hb N1.out.lt)
        have B2 := Lib.hid (B1.out.trans (hb.mono B1.out.size))
        clear hb VA T1 N1 B1 x0 x1 x2 x3 y0 y1 y2 y3 y4 y5 d1 d2
        obtain ⟨x0, x1, x2, x3⟩ := T2.out.cells
        obtain ⟨o0, o1, o2, o3, o4, o5, ho⟩ := six (MU.openB_len s)
        obtain ⟨k0, k1, k2, k3, k4, k5, hk⟩ := six (MU.classB_len s)
        obtain ⟨p0, p1, p2, p3, p4, p5, hp⟩ := six (MC.supB_length s.ps)
        rw [ho, hk, aggB_lit, aggB_lit] at OP
        rw [hp, aggB_lit] at SP
        have HO := Lib.hid ho
        have HK := Lib.hid hk
        have HP := Lib.hid hp
        clear ho hk hp
        go_wp2_with fail
        refine (OP.out _ B2.out).mono ?_
        rintro ev w3 ⟨rfl, hb⟩
        have T3 := Lib.hid ((T2.out.keep hb).keep (below_two w3 (.cells #[.int .i64 o0, .int .i64 o1, .int .i64 o2, .int .i64 o3, .int .i64 o4, .int .i64 o5] 39) (.cells #[.int .i64 k0, .int .i64 k1, .int .i64 k2, .int .i64 k3, .int .i64 k4, .int .i64 k5] 39)))
        have N3 := Lib.hid ((N2.out.keep hb N2.out.lt).keep (below_two w3 (.cells #[.int .i64 o0, .int .i64 o1, .int .i64 o2, .int .i64 o3, .int .i64 o4, .int .i64 o5] 39) (.cells #[.int .i64 k0, .int .i64 k1, .int .i64 k2, .int .i64 k3, .int .i64 k4, .int .i64 k5] 39)) (N2.out.keep hb N2.out.lt).lt)
        have B3' := B2.out.trans (hb.mono B2.out.size)
        have B3 := Lib.hid (B3'.trans ((below_two w3 (.cells #[.int .i64 o0, .int .i64 o1, .int .i64 o2, .int .i64 o3, .int .i64 o4, .int .i64 o5] 39) (.cells #[.int .i64 k0, .int .i64 k1, .int .i64 k2, .int .i64 k3, .int .i64 k4, .int .i64 k5] 39)).mono B3'.size))
        have Q3 := Lib.hid (two_boxes w3 39 39 o0 o1 o2 o3 o4 o5 k0 k1 k2 k3 k4 k5)
        clear hb B3' T2 N2 B2 OP x0 x1 x2 x3
        go_upto_region 9 with (fail)
        generalize ((w3.alloc (.cells #[.int .i64 o0, .int .i64 o1, .int .i64 o2, .int .i64 o3, .int .i64 o4, .int .i64 o5] 39)).alloc (.cells #[.int .i64 k0, .int .i64 k1, .int .i64 k2, .int .i64 k3, .int .i64 k4, .int .i64 k5] 39)) = W3 at *
        generalize hBo : w3.heap.size = Bo at *
        clear hBo
        obtain ⟨x0, x1, x2, x3⟩ := T3.out.cells
        go_wp2_with fail
        refine (SP.out _ B3.out).mono ?_
        rintro ev w4 ⟨rfl, hb⟩
        have hb2 := hb.trans ((below_new w4 (.cells #[.int .i64 p0, .int .i64 p1, .int .i64 p2, .int .i64 p3, .int .i64 p4, .int .i64 p5] 39)).mono hb.size)
        have AL := Lib.hid (show Alw w (.slice A1 n1 c1) (.slice A2 n2 c2) (.slice A3 n3 c3) (.slice A4 n4 c4) [b0, b1, b2, b3, b4, b5] (MU.openB s) (MU.classB s) (MC.supB s.ps) Bo (Bo + 1) w4.heap.size
            (w4.alloc (.cells #[.int .i64 p0, .int .i64 p1, .int .i64 p2, .int .i64 p3, .int .i64 p4, .int .i64 p5] 39)) from by
          rw [HO.out, HK.out, HP.out]
          exact ⟨T3.out.keep hb2, N3.out.keep hb2 N3.out.lt, Q3.out.1.keep hb2 Q3.out.1.lt, Q3.out.2.keep hb2 Q3.out.2.lt, BB.new _ _ _ _ _ _ _ _, B3.out.trans (hb2.mono B3.out.size)⟩)
        clear hb hb2 SP T3 N3 Q3 B3 x0 x1 x2 x3 HO HK HP
        go_wp2
        generalize w4.alloc (.cells #[.int .i64 p0, .int .i64 p1, .int .i64 p2, .int .i64 p3, .int .i64 p4, .int .i64 p5] 39) = W4 at *
        generalize w4.heap.size = Bs at *
        go_loopw [11] (fun i wr => ∃ k q : Nat, k ≤ 6 ∧ i = .int .i64 k ∧ wr = W4.drewN q ∧ Hid (∀ j, j < k → MU.ruleB s I [b0, b1, b2, b3, b4, b5] j = false)) (fun i _ => 6 - (intOf i).toNat)
        case atStart => exact ⟨0, 0, Nat.zero_le _, rfl, rfl, Lib.hid (fun j hj => absurd hj (Nat.not_lt_zero _))⟩
        case round =>
          obtain ⟨k, q, hk, rfl, rfl, HN⟩ := hrel
          by_cases hlt : k < 6
          · obtain ⟨x0, x1, x2, x3⟩ := AL.out.box.cells
            obtain ⟨ad, pb, rfl, q1, hfi, hbk, z0, z1, z2, z3⟩ := bd_at (H.out.bs.keep AL.out.below) hI
            have HCL := Lib.hid (MU.clsOf_at q1)
            have HR := Lib.hid (fun hr => ret_int (k := .i64) (MU.allowE_rule HE.out hIs HV.out hlt hr).symm)
            have HY1 := Lib.hid (fun h => HR.out (rule_yes1 (s := s) (i := I) (k := k) h))
            have HY2 := Lib.hid (fun h1 h2 h3 => HR.out (rule_yes2 (s := s) (i := I) (k := k) h1 h2 h3))
            have HN2 := Lib.hid (fun h h2 => no_step HN.out (rule_no (s := s) (i := I) (k := k) (b := [b0, b1, b2, b3, b4, b5]) h h2))
            rw [HCL.out] at HY2 HN2
            have e1 := AL.out.bun.cell hlt
            have e2 := AL.out.op.cell hlt
            have e3 := AL.out.cl.cell hlt
            have e4 := AL.out.sp.cell hlt
            clear q1 hfi hbk z0 z2 z3 HR HN HCL
            have hlt' : (k : Int) < 6 := by omega
            obtain ⟨pn, pc, pbu, pp⟩ := pb
            simp only at *
            generalize MB.at_ [b0, b1, b2, b3, b4, b5] k = bk at *
            generalize MB.at_ (MU.openB s) k = ok at *
            generalize MB.at_ (MU.classB s) k = ck at *
            generalize MB.at_ (MC.supB s.ps) k = sk at *
            have BD := Lib.hid AL.out.below
            by_cases g1 : sk < bk
            · have d1 : decide (sk < bk) = true := decide_eq_true g1
              have G := Lib.hid (HY1.out g1)
              clear HY1 HY2 HN2
              go_wp2
              go_quiet (fail)
              go_wp2
              go_ret
              exact ⟨G.out, by first | exact below_drewN BD.out _ | exact below_drewN (below_drewN BD.out _) _⟩
            · have d1 : decide (sk < bk) = false := decide_eq_false g1
              by_cases g2 : ck = 0
              · have d2 : (ck != 0) = false := by simp [g2]
                have G := Lib.hid (HN2.out g1 (fun x => x.1 g2))
                clear HY1 HY2 HN2
                go_wp2
                go_quiet (fail)
                go_wp2
                go_roundw
                case rel => exact ⟨k + 1, _, by omega, by go_num, rfl, G⟩
                case measure => simp [intOf]; omega
              · have d2 : (ck != 0) = true := bne_iff_ne.2 g2
                by_cases g3 : ck = pc
                · subst g3
                  have d3 : (ck != ck) = false := by simp
                  have G := Lib.hid (HN2.out g1 (fun x => x.2.1 rfl))
                  clear HY1 HY2 HN2
                  go_wp2
                  go_quiet (fail)
                  go_wp2
                  go_roundw
                  case rel => exact ⟨k + 1, _, by omega, by go_num, rfl, G⟩
                  case measure => simp [intOf]; omega
                · have d3 : (ck != pc) = true := bne_iff_ne.2 g3
                  by_cases g4 : ok < bk
                  · have d4 : decide (ok < bk) = true := decide_eq_true g4
                    have G := Lib.hid (HY2.out g2 g3 g4)
                    clear HY1 HY2 HN2
                    go_wp2
                    go_quiet (fail)
                    go_wp2
                    go_ret
                    exact ⟨G.out, by first | exact below_drewN BD.out _ | exact below_drewN (below_drewN BD.out _) _⟩
                  · have d4 : decide (ok < bk) = false := decide_eq_false g4
                    have G := Lib.hid (HN2.out g1 (fun x => g4 x.2.2))
                    clear HY1 HY2 HN2
                    go_wp2
                    go_quiet (fail)
                    go_wp2
                    go_roundw
                    case rel => exact ⟨k + 1, _, by omega, by go_num, rfl, G⟩
                    case measure => simp [intOf]; omega
          · obtain rfl : k = 6 := by omega
            rw [show ((6 : Nat) : Int) = 6 from rfl]
            have HA := Lib.hid (MU.allowE_caps HE.out hIs HV.out HN.out)
            have A5 := Lib.hid (AL.out.keep (below_drewN (Below.refl _ _) q))
            clear AL HN
            generalize W4.drewN q = W5 at *
            have HCR := Lib.hid (fun (k : Nat) (hk : k < n3) (hu : NoE (MU.capRE s I [b0, b1, b2, b3, b4, b5]) k) (hc : MU.capB s I [b0, b1, b2, b3, b4, b5] k = true) =>
              ret_int (k := .i64) (show 14 = MU.allowE s I [b0, b1, b2, b3, b4, b5] by
                have e : MU.capRE s I [b0, b1, b2, b3, b4, b5] k = 14 := by unfold MU.capRE; rw [if_pos hc]
                rw [HA.out, hu.stop (by rw [e]; decide) (by rw [HL3.out]; exact hk), e]))
            have HFN := Lib.hid (fun (hu : NoE (MU.capRE s I [b0, b1, b2, b3, b4, b5]) n3) => ret_int (k := .i64) (show 0 = MU.allowE s I [b0, b1, b2, b3, b4, b5] by rw [HA.out, hu.fin (by rw [HL3.out]; omega)]))
            clear HA
            go_wp2
            go_loopw [12] (fun i wr => ∃ k : Nat, k ≤ n3 ∧ i = .int .i64 k ∧ Hid (NoE (MU.capRE s I [b0, b1, b2, b3, b4, b5]) k) ∧ Hid (Below W5.heap.size W5 wr)) (fun i _ => n3 - (intOf i).toNat)
            case atStart => exact ⟨0, Nat.zero_le _, rfl, Lib.hid (NoE.start _), Lib.hid (Below.refl _ _)⟩
            case round =>
              obtain ⟨k, hk, rfl, HU, HB⟩ := hrel
              have A6 := Lib.hid (A5.out.keep HB.out)
              obtain ⟨x0, x1, x2, x3⟩ := A6.out.box.cells
              by_cases hltk : k < n3
              · obtain ⟨ad, p, rfl, q1, hfi, hbk, y0, y1, y2⟩ := cp_at (H.out.cs.keep A6.out.below) hltk
                have HQ := Lib.hid q1
                have A7 := Lib.hid (A6.out.keep (below_new wr (.cells #[.int .i64 p.bidder, .int .i64 p.group, .int .i64 p.units] 54)))
                have B7 := Lib.hid (HB.out.trans ((below_new wr (.cells #[.int .i64 p.bidder, .int .i64 p.group, .int .i64 p.units] 54)).mono HB.out.size))
                have K1 := Lib.hid (heap_new wr (.cells #[.int .i64 p.bidder, .int .i64 p.group, .int .i64 p.units] 54))
                have HCE := Lib.hid (show MU.capB s I [b0, b1, b2, b3, b4, b5] k = ((decide (p.bidder = -1) || decide (p.bidder = (I : Int))) && decide (p.units < MC.sumG (fU p.group) s.ps [b0, b1, b2, b3, b4, b5])) by unfold MU.capB; rw [q1])
                have HST := Lib.hid (fun hc => HCR.out k hltk HU.out hc)
                have HGO := Lib.hid (fun (hc : MU.capB s I [b0, b1, b2, b3, b4, b5] k = false) => HU.out.step (by unfold MU.capRE; rw [hc]; rfl))
                clear q1 hfi hbk HB A6 HU HCR HFN
                obtain ⟨pb, pg, pu⟩ := p
                simp only at *
                go_upto_region 19 with (fail)
                obtain ⟨X, hX⟩ : ∃ X, X = wr.alloc (.cells #[.int .i64 pb, .int .i64 pg, .int .i64 pu] 54) := ⟨_, rfl⟩
                rw [← hX] at A7 B7 K1 ⊢
                clear hX x0 x1 x2 x3 y0 y1 y2
                obtain ⟨x0, x1, x2, x3⟩ := A7.out.box.cells
                obtain ⟨z0, z1, z2, z3, z4, z5⟩ := cells6 A7.out.bun
                have y1 : X.cell? ⟨wr.heap.size, 1, none⟩ = some (.int .i64 pg) := by rw [cell_of_row _ _ _ _ _ _ K1.out]; rfl
                have S1 := Lib.hid (SU.out pg X A7.out.below)
                unfold sumsV at S1
                go_wp2_with fail
                refine S1.out.mono ?_
                rintro ev w6 ⟨rfl, hb⟩
                have A8 := Lib.hid (A7.out.keep hb)
                have B8 := Lib.hid (B7.out.trans (hb.mono B7.out.size))
                have K2 := Lib.hid ((hb.block _ (Array.getElem?_eq_some_iff.1 K1.out).1).trans K1.out)
                clear hb S1 A7 B7 K1 x0 x1 x2 x3 y1 z0 z1 z2 z3 z4 z5
                have y0 : w6.cell? ⟨wr.heap.size, 0, none⟩ = some (.int .i64 pb) := by rw [cell_of_row _ _ _ _ _ _ K2.out]; rfl
                have y2 : w6.cell? ⟨wr.heap.size, 2, none⟩ = some (.int .i64 pu) := by rw [cell_of_row _ _ _ _ _ _ K2.out]; rfl
                generalize MC.sumG (fU pg) s.ps [b0, b1, b2, b3, b4, b5] = un at *
                have BD := Lib.hid A8.out.below
                by_cases g1 : pb = -1
                · have d1 : (pb == -1) = true := beq_iff_eq.2 g1
                  by_cases g3 : pu < un
                  · have d3 : decide (pu < un) = true := decide_eq_true g3
                    have G := Lib.hid (HST.out (by rw [HCE.out, d3, decide_eq_true g1]; rfl))
                    clear HST HGO HCE g1
                    go_wp2
                    go_ret
                    exact ⟨G.out, BD.out⟩
                  · have d3 : decide (pu < un) = false := decide_eq_false g3
                    have G := Lib.hid (HGO.out (by rw [HCE.out, d3, Bool.and_false]))
                    clear HST HGO HCE g1
                    go_wp2
                    go_roundw
                    case rel => exact ⟨k + 1, by omega, by go_num, G, B8⟩
                    case measure => simp [intOf]; omega
                · have d1 : (pb == -1) = false := beq_eq_false_iff_ne.2 g1
                  by_cases g2 : pb = (I : Int)
                  · have d2 : (pb == (I : Int)) = true := beq_iff_eq.2 g2
                    by_cases g3 : pu < un
                    · have d3 : decide (pu < un) = true := decide_eq_true g3
                      have G := Lib.hid (HST.out (by rw [HCE.out, d3, decide_eq_true g2]; simp))
                      clear HST HGO HCE g2
                      go_wp2
                      go_ret
                      exact ⟨G.out, BD.out⟩
                    · have d3 : decide (pu < un) = false := decide_eq_false g3
                      have G := Lib.hid (HGO.out (by rw [HCE.out, d3, Bool.and_false]))
                      clear HST HGO HCE g2
                      go_wp2
                      go_roundw
                      case rel => exact ⟨k + 1, by omega, by go_num, G, B8⟩
                      case measure => simp [intOf]; omega
                  · have d2 : (pb == (I : Int)) = false := beq_eq_false_iff_ne.2 g2
                    have G := Lib.hid (HGO.out (by rw [HCE.out, decide_eq_false g1, decide_eq_false g2]; rfl))
                    clear HST HGO HCE g2
                    go_wp2
                    go_roundw
                    case rel => exact ⟨k + 1, by omega, by go_num, G, B8⟩
                    case measure => simp [intOf]; omega
              · obtain rfl : k = n3 := by omega
                have G := Lib.hid (HFN.out HU.out)
                have BD := Lib.hid A6.out.below
                clear HFN HCR HU
                go_wp2
                go_ret
                exact ⟨G.out, BD.out⟩
  · have hne : (er != 0) = true := bne_iff_ne.2 h1
    have G := Lib.hid (ret_int (k := .i64) (show er = MU.allowE s i [b0, b1, b2, b3, b4, b5] by rw [MU.allowE_chk (by rw [HE.out]; exact h1), HE.out]))
    go_wp2
    go_ret
    exact ⟨G.out, B1.out⟩
end Go.Proofs.YtnpkjobbolijbaaGreatDoor
