/- URCheck, UROpen, joined: no claim of its own. -/
import Derived.Test.YtigfgeanofccgaaGreatDoorJUb
import Derived.Test.YtigfgeanofccgaaGreatDoorJCc
import Derived.Test.YtigfgeanofccgaaGreatDoorJRc
import Derived.Deep.DeepCutAuto
import Derived.Test.YtigfgeanofccgaaGreatDoorJMu
namespace Go.Proofs.YtigfgeanofccgaaGreatDoor
open Go.RowKit
open MU (Su Cp As)
set_option maxRecDepth 100000 in
set_option maxHeartbeats 8000000 in
theorem rcheck10_any (A1 : Option Addr) (n1 c1 : Nat) (A2 : Option Addr) (n2 c2 : Nat) (A3 : Option Addr) (n3 c3 : Nat) (A4 : Option Addr) (n4 c4 : Nat) (s : Su) (w : World) (h : SuAt w A1 n1 c1 A2 n2 c2 A3 n3 c3 A4 n4 c4 s) :
    Calls Tryz.prog 13 #[.agg #[.slice A1 n1 c1, .slice A2 n2 c2, .slice A3 n3 c3, .slice A4 n4 c4]] w (Gives (.int .i64 (MU.chkS s)) w) := by
  have hn1 := h.ps.few
  have hn2 := h.bs.few
  have hn3 := h.cs.few
  have hn4 := h.as_.few
  have hc1 := h.ps.cap
  have hc3 := h.cs.cap
  have hc4 := h.as_.cap
  have HL1 := Lib.hid h.ps.len
  have HL2 := Lib.hid h.bs.len
  have HL3 := Lib.hid h.cs.len
  have HL4 := Lib.hid h.as_.len
  have H := Lib.hid h
  clear h
  have T0 := Lib.hid (TB.new w 27 (.slice A1 n1 c1) (.slice A2 n2 c2) (.slice A3 n3 c3) (.slice A4 n4 c4))
  have B0 := Lib.hid (below_new w (.cells #[.slice A1 n1 c1, .slice A2 n2 c2, .slice A3 n3 c3, .slice A4 n4 c4] 27))
  have P1 := Lib.hid (fun w' (hb : Below w.heap.size w w') => rcheck8_any A1 n1 c1 s.ps w' (H.out.ps.keep hb))
  have P2 := Lib.hid (fun w' (hb : Below w.heap.size w w') => rcheck9_any A2 n2 c2 s.bs w' (H.out.bs.keep hb))
  go_enter Tryz.func13, Tryz.ntmps13
  obtain ⟨e1, he1⟩ : ∃ e1, MC.chkL s.ps = e1 := ⟨_, rfl⟩
  have HE1 := Lib.hid he1
  rw [he1] at P1
  clear he1
  obtain ⟨x0, x1, x2, x3⟩ := T0.out.cells
  go_wp2_with fail
  refine (P1.out _ B0.out).mono ?_
  rintro ev w1 ⟨rfl, hb⟩
  have B1 := Lib.hid (B0.out.trans (hb.mono B0.out.size))
  have T1 := Lib.hid (T0.out.keep hb)
  clear hb P1 B0 T0 x0 x1 x2 x3
  obtain ⟨x0, x1, x2, x3⟩ := T1.out.cells
  by_cases h1 : e1 = 0
  · subst h1
    obtain ⟨e2, he2⟩ : ∃ e2, MR.chkL s.bs = e2 := ⟨_, rfl⟩
    have HE2 := Lib.hid he2
    rw [he2] at P2
    clear he2
    go_wp2_with fail
    refine (P2.out _ B1.out).mono ?_
    rintro ev w2 ⟨rfl, hb⟩
    have B2 := Lib.hid (B1.out.trans (hb.mono B1.out.size))
    have T2 := Lib.hid (T1.out.keep hb)
    clear hb P2 B1 T1 x0 x1 x2 x3
    obtain ⟨x0, x1, x2, x3⟩ := T2.out.cells
    by_cases h2 : e2 = 0
    · subst h2
      by_cases h16 : 16 < n3
      · have d16 : decide (16 < (n3 : Int)) = true := decide_eq_true (by omega)
        have G := Lib.hid (ret_int (k := .i64) (show 3 = MU.chkS s by rw [MU.chkS_caps HE1.out HE2.out (by rw [MU.capsE_long (by rw [HL3.out]; exact h16)]; decide), MU.capsE_long (by rw [HL3.out]; exact h16)]))
        go_wp2
        go_ret
        exact ⟨G.out, B2.out⟩
      have d16 : decide (16 < (n3 : Int)) = false := decide_eq_false (by omega)
      have HC := Lib.hid (MU.capsE_mid (s := s) (by rw [HL3.out]; exact h16))
      have HST := Lib.hid (fun (k : Nat) (er : Int) (hu : NoE (MU.capF s.bs.length s.cs) k) (hk : k < n3) (he : MU.capF s.bs.length s.cs k = er) (h0 : er ≠ 0) =>
        ret_int (k := .i64) (show er = MU.chkS s by
          have e := hu.stop (by rw [he]; exact h0) (show k < s.cs.length by rw [HL3.out]; exact hk)
          rw [MU.chkS_caps HE1.out HE2.out (by rw [HC.out, e, he]; exact h0), HC.out, e, he]))
      go_wp2
      go_loopw [4] (fun i wr => ∃ k : Nat, k ≤ n3 ∧ i = .int .i64 k ∧ Hid (NoE (MU.capF s.bs.length s.cs) k) ∧ Hid (Below w2.heap.size w2 wr)) (fun i _ => n3 - (intOf i).toNat)
      case atStart => exact ⟨0, Nat.zero_le _, rfl, Lib.hid (NoE.start _), Lib.hid (Below.refl _ _)⟩
      case round =>
        obtain ⟨k, hk, rfl, HU, HB⟩ := hrel
        have T3 := Lib.hid (T2.out.keep HB.out)
        clear x0 x1 x2 x3
        obtain ⟨x0, x1, x2, x3⟩ := T3.out.cells
        by_cases hlt : k < n3
        · obtain ⟨ad, p, rfl, q1, hfi, hbk, y0, y1, y2⟩ := cp_at (H.out.cs.keep (B2.out.trans (HB.out.mono B2.out.size))) hlt
          have HQ := Lib.hid q1
          have HF := Lib.hid (MU.capF_at (nb := s.bs.length) q1)
          rw [HL2.out] at HF
          clear q1 hfi hbk
          have B4 := Lib.hid (HB.out.trans ((below_new wr (.cells #[.int .i64 p.bidder, .int .i64 p.group, .int .i64 p.units] 66)).mono HB.out.size))
          have BF := Lib.hid (B2.out.trans (B4.out.mono B2.out.size))
          have K1 := Lib.hid (heap_new wr (.cells #[.int .i64 p.bidder, .int .i64 p.group, .int .i64 p.units] 66))
          have HST2 := Lib.hid (fun er he h0 => HST.out k er HU.out hlt he h0)
          rw [HL2.out] at HST2
          obtain ⟨pb, pg, pu⟩ := p
          simp only at *
          go_upto_region 12 with (fail)
          obtain ⟨X, hX⟩ : ∃ X, X = wr.alloc (.cells #[.int .i64 pb, .int .i64 pg, .int .i64 pu] 66) := ⟨_, rfl⟩
          rw [← hX] at B4 BF K1 ⊢
          clear hX x0 x1 x2 x3 y0 y1 y2 T3 HST HC
          have T4 := Lib.hid (T2.out.keep B4.out)
          obtain ⟨x0, x1, x2, x3⟩ := T4.out.cells
          have y0 : X.cell? ⟨wr.heap.size, 0, none⟩ = some (.int .i64 pb) := by rw [cell_of_row _ _ _ _ _ _ K1.out]; rfl
          have y1 : X.cell? ⟨wr.heap.size, 1, none⟩ = some (.int .i64 pg) := by rw [cell_of_row _ _ _ _ _ _ K1.out]; rfl
          have y2 : X.cell? ⟨wr.heap.size, 2, none⟩ = some (.int .i64 pu) := by rw [cell_of_row _ _ _ _ _ _ K1.out]; rfl
          by_cases hno : pb < -1 ∨ (n2 : Int) ≤ pb
          · have G := Lib.hid (HST2.out 6 (by rw [HF.out, MU.capE, if_pos hno]) (by decide))
            have HNO := Lib.hid hno
            clear hno HF HU HST2
            rcases HNO.out with g1 | g1
            · have d1 : decide (pb < -1) = true := decide_eq_true g1
              go_wp2
              go_ret
              exact ⟨G.out, BF.out⟩
            · have d1 : decide (pb < -1) = false := decide_eq_false (by omega)
              have d2 : decide ((n2 : Int) ≤ pb) = true := decide_eq_true g1
              go_wp2
              go_ret
              exact ⟨G.out, BF.out⟩
          · have d1 : decide (pb < -1) = false := decide_eq_false (by omega)
            have d2 : decide ((n2 : Int) ≤ pb) = false := decide_eq_false (by omega)
            by_cases hra : (0 ≤ pg ∧ pg ≤ 4) ∧ 0 ≤ pu ∧ pu ≤ 24
            · have HE : Hid (MU.capF n2 s.cs k = if ((s.cs.take k).any fun d => decide (d.bidder = pb) && decide (d.group = pg)) = true then 7 else 0) := Lib.hid (by
                rw [HF.out, MU.capE, if_neg hno, if_neg (fun g => g hra)])
              obtain ⟨⟨g1, g2⟩, g3, g4⟩ := hra
              have d3 : decide (pg < 0) = false := decide_eq_false (by omega)
              have d4 : decide (4 < pg) = false := decide_eq_false (by omega)
              have d5 : decide (pu < 0) = false := decide_eq_false (by omega)
              have d6 : decide (24 < pu) = false := decide_eq_false (by omega)
              clear hno HF
              go_wp2
              clear x0 x1 x2 x3 y0 y1 y2 HB d1 d2 d3 d4 d5 d6
              go_loopw [6] (fun i wr' => ∃ (j q : Nat), j ≤ k ∧ i = .int .i64 j ∧ wr' = X.drewN q ∧ Hid (∀ d ∈ s.cs.take j, ¬ (d.bidder = pb ∧ d.group = pg))) (fun i _ => k - (intOf i).toNat)
              case atStart => exact ⟨0, 0, Nat.zero_le _, rfl, rfl, Lib.hid (by simp)⟩
              case round =>
                obtain ⟨j, q, hj, rfl, rfl, HS⟩ := hrel
                by_cases hjk : j < k
                · obtain ⟨ad', d, e', q2, hfi, hbk, z0, z1, z2⟩ := cp_at (H.out.cs.keep BF.out) (show j < n3 by omega)
                  injection e' with e'
                  subst e'
                  obtain ⟨x0, x1, x2, x3⟩ := T4.out.cells
                  have y0 : X.cell? ⟨wr.heap.size, 0, none⟩ = some (.int .i64 pb) := by rw [cell_of_row _ _ _ _ _ _ K1.out]; rfl
                  have y1 : X.cell? ⟨wr.heap.size, 1, none⟩ = some (.int .i64 pg) := by rw [cell_of_row _ _ _ _ _ _ K1.out]; rfl
                  have y2 : X.cell? ⟨wr.heap.size, 2, none⟩ = some (.int .i64 pu) := by rw [cell_of_row _ _ _ _ _ _ K1.out]; rfl
                  have HQ2 := Lib.hid q2
                  clear hfi hbk q2
                  obtain ⟨db, dg, du⟩ := d
                  simp only at *
                  have ST : Hid (¬ (db = pb ∧ dg = pg) → ∀ d ∈ s.cs.take (j + 1), ¬ (d.bidder = pb ∧ d.group = pg)) := Lib.hid (fun hn d hd => by
                    rw [List.take_add_one, HQ2.out] at hd
                    rcases List.mem_append.1 hd with g | g
                    · exact HS.out d g
                    · rw [Option.toList_some, List.mem_singleton] at g; subst g; exact hn)
                  by_cases s1 : db = pb
                  · have b1 : (db == pb) = true := beq_iff_eq.2 s1
                    by_cases s2 : dg = pg
                    · have b2 : (dg == pg) = true := beq_iff_eq.2 s2
                      have G := Lib.hid (HST2.out 7 (by
                        rw [HE.out, if_pos]
                        refine List.any_eq_true.2 ⟨_, List.mem_of_getElem? (i := j) (by rw [List.getElem?_take_of_lt hjk]; exact HQ2.out), ?_⟩
                        simp [s1, s2]) (by decide))
                      clear HST2 HE HS HQ2 HQ HU ST
                      go_wp2
                      go_quiet (fail)
                      go_wp2
                      go_ret
                      exact ⟨G.out, by first | exact below_drewN BF.out _ | exact below_drewN (below_drewN BF.out _) _⟩
                    · have b2 : (dg == pg) = false := beq_eq_false_iff_ne.2 s2
                      have S1 := Lib.hid (ST.out fun x => s2 x.2)
                      clear HST2 HE HS HQ2 HQ HU ST
                      go_wp2
                      go_quiet (fail)
                      go_wp2
                      go_roundw
                      case rel => exact ⟨j + 1, _, by omega, by go_num, rfl, S1⟩
                      case measure => simp [intOf]; omega
                  · have b1 : (db == pb) = false := beq_eq_false_iff_ne.2 s1
                    have S1 := Lib.hid (ST.out fun x => s1 x.1)
                    clear HST2 HE HS HQ2 HQ HU ST
                    go_wp2
                    go_quiet (fail)
                    go_wp2
                    go_roundw
                    case rel => exact ⟨j + 1, _, by omega, by go_num, rfl, S1⟩
                    case measure => simp [intOf]; omega
                · obtain rfl : j = k := by omega
                  have U1 := Lib.hid (HU.out.step (by
                    rw [HL2.out, HE.out, if_neg]
                    intro g
                    obtain ⟨d, hd, he⟩ := List.any_eq_true.1 g
                    simp only [Bool.and_eq_true, decide_eq_true_eq] at he
                    exact HS.out d hd he))
                  have B5 := Lib.hid (below_drewN B4.out q)
                  clear HST2 HE HS HQ HU
                  go_wp2
                  go_roundw
                  case rel => exact ⟨j + 1, by omega, by go_num, U1, B5⟩
                  case measure => simp [intOf]; omega
            · have G := Lib.hid (HST2.out 4 (by rw [HF.out, MU.capE, if_neg hno, if_pos hra]) (by decide))
              have HRA := Lib.hid (cap_bad hra)
              clear hno hra HF HU HST2
              rcases HRA.out with g1 | ⟨g1, g2⟩ | ⟨g1, g2, g3⟩ | ⟨g1, g2, g3, g4⟩
              all_goals
                go_wp2
                go_ret
                exact ⟨G.out, BF.out⟩
        · obtain rfl : k = n3 := by omega
          obtain ⟨wo, hwo⟩ : ∃ wo : World, wo = wr := ⟨_, rfl⟩
          rw [← hwo] at HB T3 x0 x1 x2 x3 ⊢
          clear hwo
          have HC0 := Lib.hid (show MU.capsE s = 0 by rw [HC.out]; exact HU.out.fin (by rw [HL3.out]; omega))
          have B3 := Lib.hid (B2.out.trans (HB.out.mono B2.out.size))
          clear HST HC HU T2
          by_cases h6 : 6 < n4
          · have d6 : decide (6 < (n4 : Int)) = true := decide_eq_true (by omega)
            have G := Lib.hid (ret_int (k := .i64) (show 3 = MU.chkS s by rw [MU.chkS_as HE1.out HE2.out HC0.out, MU.asidesE_long (by rw [HL4.out]; exact h6)]))
            go_wp2
            go_ret
            exact ⟨G.out, B3.out⟩
          have d6 : decide (6 < (n4 : Int)) = false := decide_eq_false (by omega)
          have HC := Lib.hid (MU.asidesE_mid (s := s) (by rw [HL4.out]; exact h6))
          have HST := Lib.hid (fun (k : Nat) (er : Int) (hu : NoE (MU.asF s.ps s.as_) k) (hk : k < n4) (he : MU.asF s.ps s.as_ k = er) (h0 : er ≠ 0) =>
            ret_int (k := .i64) (show er = MU.chkS s by
              have e := hu.stop (by rw [he]; exact h0) (show k < s.as_.length by rw [HL4.out]; exact hk)
              rw [MU.chkS_as HE1.out HE2.out HC0.out, HC.out, e, he]))
          have HFIN := Lib.hid (fun (hu : NoE (MU.asF s.ps s.as_) n4) => ret_int (k := .i64) (show 0 = MU.chkS s by
              rw [MU.chkS_as HE1.out HE2.out HC0.out, HC.out, hu.fin (by rw [HL4.out]; omega)]))
          clear HC HE1 HE2 HC0 HB
          go_wp2
          go_loopw [7] (fun i wr => ∃ k : Nat, k ≤ n4 ∧ i = .int .i64 k ∧ Hid (NoE (MU.asF s.ps s.as_) k) ∧ Hid (Below wo.heap.size wo wr)) (fun i _ => n4 - (intOf i).toNat)
          case atStart => exact ⟨0, Nat.zero_le _, rfl, Lib.hid (NoE.start _), Lib.hid (Below.refl _ _)⟩
          case round =>
            obtain ⟨k2, hk2, rfl, HU, HB⟩ := hrel
            have T5 := Lib.hid (T3.out.keep HB.out)
            clear x0 x1 x2 x3
            obtain ⟨x0, x1, x2, x3⟩ := T5.out.cells
            by_cases hlt4 : k2 < n4
            · obtain ⟨ad, p, rfl, q1, hfi, hbk, y0, y1, y2⟩ := asd_at (H.out.as_.keep (B3.out.trans (HB.out.mono B3.out.size))) hlt4
              have HQ := Lib.hid q1
              have HF := Lib.hid (MU.asF_at (ps := s.ps) q1)
              clear q1 hfi hbk
              have B4 := Lib.hid (HB.out.trans ((below_new wr (.cells #[.int .i64 p.product, .int .i64 p.cls, .int .i64 p.units] 68)).mono HB.out.size))
              have BF := Lib.hid (B3.out.trans (B4.out.mono B3.out.size))
              have K1 := Lib.hid (heap_new wr (.cells #[.int .i64 p.product, .int .i64 p.cls, .int .i64 p.units] 68))
              have HST2 := Lib.hid (fun er he h0 => HST.out k2 er HU.out hlt4 he h0)
              obtain ⟨ap, ac, au⟩ := p
              simp only at *
              go_upto_region 27 with (fail)
              obtain ⟨X, hX⟩ : ∃ X, X = wr.alloc (.cells #[.int .i64 ap, .int .i64 ac, .int .i64 au] 68) := ⟨_, rfl⟩
              rw [← hX] at B4 BF K1 ⊢
              clear hX x0 x1 x2 x3 y0 y1 y2 T5 HST HFIN
              have T4 := Lib.hid (T3.out.keep B4.out)
              obtain ⟨x0, x1, x2, x3⟩ := T4.out.cells
              have y0 : X.cell? ⟨wr.heap.size, 0, none⟩ = some (.int .i64 ap) := by rw [cell_of_row _ _ _ _ _ _ K1.out]; rfl
              have y1 : X.cell? ⟨wr.heap.size, 1, none⟩ = some (.int .i64 ac) := by rw [cell_of_row _ _ _ _ _ _ K1.out]; rfl
              have y2 : X.cell? ⟨wr.heap.size, 2, none⟩ = some (.int .i64 au) := by rw [cell_of_row _ _ _ _ _ _ K1.out]; rfl
              by_cases hno : ap < 0 ∨ (n1 : Int) ≤ ap
              · have G := Lib.hid (HST2.out 6 (by rw [HF.out, MU.asE, HL1.out, if_pos hno]) (by decide))
                have HNO := Lib.hid hno
                clear hno HF HU HST2
                rcases HNO.out with g1 | g1
                · have d1 : decide (ap < 0) = true := decide_eq_true g1
                  go_wp2
                  go_ret
                  exact ⟨G.out, BF.out⟩
                · have d1 : decide (ap < 0) = false := decide_eq_false (by omega)
                  have d2 : decide ((n1 : Int) ≤ ap) = true := decide_eq_true g1
                  go_wp2
                  go_ret
                  exact ⟨G.out, BF.out⟩
              · obtain ⟨P, rfl⟩ := Int.eq_ofNat_of_zero_le (show 0 ≤ ap by omega)
                have hP : P < n1 := by omega
                have d1 : decide ((P : Int) < 0) = false := decide_eq_false (by omega)
                have d2 : decide ((n1 : Int) ≤ (P : Int)) = false := decide_eq_false (by omega)
                obtain ⟨adp, pr, rfl, hpr, hbk, v0, v1, v2, v3, v4⟩ := (H.out.ps.keep BF.out).at_ hP
                have HSU := Lib.hid (MC.of_at (f := (·.supply)) hpr)
                clear hpr hbk v0 v2 v3 v4
                obtain ⟨sup, hsup⟩ : ∃ z, pr.supply = z := ⟨_, rfl⟩
                rw [hsup] at HSU v1
                clear hsup
                by_cases hra : (1 ≤ ac ∧ ac ≤ 4) ∧ 1 ≤ au ∧ au ≤ sup
                · have HE : Hid (MU.asF s.ps s.as_ k2 = if ((s.as_.take k2).any fun d => decide (d.product = (P : Int))) = true then 7 else 0) := Lib.hid (by
                    rw [HF.out, MU.asE, HL1.out, if_neg hno, Int.toNat_natCast, HSU.out, if_neg (fun g => g hra)])
                  obtain ⟨⟨g1, g2⟩, g3, g4⟩ := hra
                  have d3 : decide (ac < 1) = false := decide_eq_false (by omega)
                  have d4 : decide (4 < ac) = false := decide_eq_false (by omega)
                  have d5 : decide (au < 1) = false := decide_eq_false (by omega)
                  have d7 : decide (sup < au) = false := decide_eq_false (by omega)
                  clear hno HF
                  go_wp2
                  go_quiet (fail)
                  go_wp2
                  clear x0 x1 x2 x3 y0 y1 y2 HB d1 d2 d3 d4 d5 d7 v1
                  go_loopw [9] (fun i wo' => ∃ (j q : Nat), j ≤ k2 ∧ i = .int .i64 j ∧ wo' = X.drewN q ∧ Hid (∀ d ∈ s.as_.take j, d.product ≠ (P : Int))) (fun i _ => k2 - (intOf i).toNat)
                  case atStart => exact ⟨0, _, Nat.zero_le _, rfl, rfl, Lib.hid (by simp)⟩
                  case round =>
                    obtain ⟨j, q, hj, rfl, rfl, HS⟩ := hrel
                    by_cases hjk : j < k2
                    · obtain ⟨ad', d, e', q2, hfi, hbk, z0, z1, z2⟩ := asd_at (H.out.as_.keep BF.out) (show j < n4 by omega)
                      injection e' with e'
                      subst e'
                      obtain ⟨x0, x1, x2, x3⟩ := T4.out.cells
                      have y0 : X.cell? ⟨wr.heap.size, 0, none⟩ = some (.int .i64 (P : Int)) := by rw [cell_of_row _ _ _ _ _ _ K1.out]; rfl
                      have HQ2 := Lib.hid q2
                      clear hfi hbk q2
                      obtain ⟨db, dg, du⟩ := d
                      simp only at *
                      by_cases s1 : db = (P : Int)
                      · have b1 : (db == (P : Int)) = true := beq_iff_eq.2 s1
                        have G := Lib.hid (HST2.out 7 (by
                          rw [HE.out, if_pos]
                          refine List.any_eq_true.2 ⟨_, List.mem_of_getElem? (i := j) (by rw [List.getElem?_take_of_lt hjk]; exact HQ2.out), ?_⟩
                          simp [s1]) (by decide))
                        clear HST2 HE HS HQ2 HQ HU
                        go_wp2
                        go_quiet (fail)
                        go_wp2
                        go_ret
                        exact ⟨G.out, by first | exact below_drewN BF.out _ | exact below_drewN (below_drewN BF.out _) _⟩
                      · have b1 : (db == (P : Int)) = false := beq_eq_false_iff_ne.2 s1
                        have S1 := Lib.hid (show ∀ d ∈ s.as_.take (j + 1), d.product ≠ (P : Int) from fun d hd => by
                          rw [List.take_add_one, HQ2.out] at hd
                          rcases List.mem_append.1 hd with g | g
                          · exact HS.out d g
                          · rw [Option.toList_some, List.mem_singleton] at g; subst g; exact s1)
                        clear HST2 HE HS HQ2 HQ HU
                        go_wp2
                        go_quiet (fail)
                        go_wp2
                        go_roundw
                        case rel => exact ⟨j + 1, _, by omega, by go_num, rfl, S1⟩
                        case measure => simp [intOf]; omega
                    · obtain rfl : j = k2 := by omega
                      have U1 := Lib.hid (HU.out.step (by
                        rw [HE.out, if_neg]
                        intro g
                        obtain ⟨d, hd, he⟩ := List.any_eq_true.1 g
                        exact HS.out d hd (of_decide_eq_true he)))
                      have B5 := Lib.hid (below_drewN B4.out q)
                      clear HST2 HE HS HQ HU
                      go_wp2
                      go_roundw
                      case rel => exact ⟨j + 1, by omega, by go_num, U1, B5⟩
                      case measure => simp [intOf]; omega
                · have G := Lib.hid (HST2.out 4 (by rw [HF.out, MU.asE, HL1.out, if_neg hno, Int.toNat_natCast, HSU.out, if_pos hra]) (by decide))
                  have HRA := Lib.hid (as_bad hra)
                  clear hno hra HF HU HST2 HSU
                  rcases HRA.out with g1 | ⟨g1, g2⟩ | ⟨g1, g2, g3⟩ | ⟨g1, g2, g3, g4⟩
                  · have d3 : decide (ac < 1) = true := decide_eq_true g1
                    go_wp2
                    go_quiet (fail)
                    go_wp2
                    go_ret
                    exact ⟨G.out, below_drewN BF.out _⟩
                  · have d3 : decide (ac < 1) = false := decide_eq_false g1
                    have d4 : decide (4 < ac) = true := decide_eq_true g2
                    go_wp2
                    go_quiet (fail)
                    go_wp2
                    go_ret
                    exact ⟨G.out, below_drewN BF.out _⟩
                  · have d3 : decide (ac < 1) = false := decide_eq_false g1
                    have d4 : decide (4 < ac) = false := decide_eq_false g2
                    have d5 : decide (au < 1) = true := decide_eq_true g3
                    go_wp2
                    go_quiet (fail)
                    go_wp2
                    go_ret
                    exact ⟨G.out, below_drewN BF.out _⟩
                  · have d3 : decide (ac < 1) = false := decide_eq_false g1
                    have d4 : decide (4 < ac) = false := decide_eq_false g2
                    have d5 : decide (au < 1) = false := decide_eq_false g3
                    have d7 : decide (sup < au) = true := decide_eq_true g4
                    go_wp2
                    go_quiet (fail)
                    go_wp2
                    go_ret
                    exact ⟨G.out, below_drewN BF.out _⟩
            · obtain rfl : k2 = n4 := by omega
              have G := Lib.hid (HFIN.out HU.out)
              have BF := Lib.hid (B3.out.trans (HB.out.mono B3.out.size))
              clear HFIN HST HU
              go_wp2
              go_ret
              exact ⟨G.out, BF.out⟩
    · have hne : (e2 != 0) = true := bne_iff_ne.2 h2
      have G := Lib.hid (ret_int (k := .i64) (show e2 = MU.chkS s by rw [MU.chkS_bs HE1.out (by rw [HE2.out]; exact h2), HE2.out]))
      go_wp2
      go_ret
      exact ⟨G.out, B2.out⟩
  · have hne : (e1 != 0) = true := bne_iff_ne.2 h1
    have hne2 : (e1 == 0) = false := beq_eq_false_iff_ne.2 h1
    have G := Lib.hid (ret_int (k := .i64) (show e1 = MU.chkS s by rw [MU.chkS_ps (by rw [HE1.out]; exact h1), HE1.out]))
    go_wp2
    go_ret
    exact ⟨G.out, B1.out⟩
end Go.Proofs.YtigfgeanofccgaaGreatDoor
namespace Go.Proofs.YtigfgeanofccgaaGreatDoor
open Go.RowKit
open MU (Su Cp As)
theorem BB.six {w : World} {B : Nat} {T : TypeId} {a b c d e f : Int} (h : BB w B T [a, b, c, d, e, f]) (y0 y1 y2 y3 y4 y5 : Int) : BB ((((((w.setCell ⟨B, 0, none⟩ (.int .i64 y0)).setCell ⟨B, 1, none⟩ (.int .i64 y1)).setCell ⟨B, 2, none⟩ (.int .i64 y2)).setCell ⟨B, 3, none⟩ (.int .i64 y3)).setCell ⟨B, 4, none⟩ (.int .i64 y4)).setCell ⟨B, 5, none⟩ (.int .i64 y5)) B T [y0, y1, y2, y3, y4, y5] :=
  (((((h.set 0 y0).set 1 y1).set 2 y2).set 3 y3).set 4 y4).set 5 y5
theorem BB.six_other {w : World} {B B' : Nat} {T : TypeId} {xs : List Int} (h : BB w B' T xs) (hne : B' ≠ B) (y0 y1 y2 y3 y4 y5 : Int) : BB ((((((w.setCell ⟨B, 0, none⟩ (.int .i64 y0)).setCell ⟨B, 1, none⟩ (.int .i64 y1)).setCell ⟨B, 2, none⟩ (.int .i64 y2)).setCell ⟨B, 3, none⟩ (.int .i64 y3)).setCell ⟨B, 4, none⟩ (.int .i64 y4)).setCell ⟨B, 5, none⟩ (.int .i64 y5)) B' T xs :=
  (((((h.other _ hne).other _ hne).other _ hne).other _ hne).other _ hne).other _ hne
/-- What lies while the open units are reckoned. -/
structure Opd (wo : World) (v1 v2 v3 v4 : Value) (o c : List Int) (wr : World) : Prop where
  box : TB wr wo.heap.size 27 v1 v2 v3 v4
  ro : BB wr (wo.heap.size + 1) 40 [0, 0, 0, 0, 0, 0]
  rc : BB wr (wo.heap.size + 1 + 1) 40 [0, 0, 0, 0, 0, 0]
  op : BB wr (wo.heap.size + 1 + 1 + 1) 40 o
  cl : BB wr (wo.heap.size + 1 + 1 + 1 + 1) 40 c
  below : Below wo.heap.size wo wr
section
variable {wo wr wr' : World} {v1 v2 v3 v4 : Value} {o c : List Int}
theorem Opd.keep (h : Opd wo v1 v2 v3 v4 o c wr) (hb : Below wr.heap.size wr wr') : Opd wo v1 v2 v3 v4 o c wr' :=
  ⟨h.box.keep hb, h.ro.keep hb h.ro.lt, h.rc.keep hb h.rc.lt, h.op.keep hb h.op.lt, h.cl.keep hb h.cl.lt, h.below.trans (hb.mono h.below.size)⟩
theorem TB.other {w : World} {g : Nat} {T : TypeId} {a b c d : Value} (h : TB w g T a b c d) {B' k : Nat} (v : Value) (hne : g ≠ B') : TB (w.setCell ⟨B', k, none⟩ v) g T a b c d := by
  unfold TB
  rw [heap_setCell_other w _ g v hne]; exact h
theorem Opd.setO (h : Opd wo v1 v2 v3 v4 o c wr) (k : Nat) (x : Int) : Opd wo v1 v2 v3 v4 (o.set k x) c (wr.setCell ⟨wo.heap.size + 1 + 1 + 1, k, none⟩ (.int .i64 x)) :=
  ⟨h.box.other _ (by omega), h.ro.other _ (by omega), h.rc.other _ (by omega), h.op.set k x, h.cl.other _ (by omega), h.below.setCell (p := ⟨wo.heap.size + 1 + 1 + 1, k, none⟩) (by show _ ≤ wo.heap.size + 1 + 1 + 1; omega) _⟩
theorem Opd.setC (h : Opd wo v1 v2 v3 v4 o c wr) (k : Nat) (x : Int) : Opd wo v1 v2 v3 v4 o (c.set k x) (wr.setCell ⟨wo.heap.size + 1 + 1 + 1 + 1, k, none⟩ (.int .i64 x)) :=
  ⟨h.box.other _ (by omega), h.ro.other _ (by omega), h.rc.other _ (by omega), h.op.other _ (by omega), h.cl.set k x, h.below.setCell (p := ⟨wo.heap.size + 1 + 1 + 1 + 1, k, none⟩) (by show _ ≤ wo.heap.size + 1 + 1 + 1 + 1; omega) _⟩
theorem Opd.drew (h : Opd wo v1 v2 v3 v4 o c wr) : Opd wo v1 v2 v3 v4 o c wr.drew := h.keep (below_drawn wr)
theorem opd_start (w : World) (v1 v2 v3 v4 : Value) : Opd w v1 v2 v3 v4 [0, 0, 0, 0, 0, 0] [0, 0, 0, 0, 0, 0]
    (((((w.alloc (.cells #[v1, v2, v3, v4] 27)).alloc (.cells #[.int .i64 0, .int .i64 0, .int .i64 0, .int .i64 0, .int .i64 0, .int .i64 0] 40)).alloc (.cells #[.int .i64 0, .int .i64 0, .int .i64 0, .int .i64 0, .int .i64 0, .int .i64 0] 40)).alloc (.cells #[.int .i64 0, .int .i64 0, .int .i64 0, .int .i64 0, .int .i64 0, .int .i64 0] 40)).alloc (.cells #[.int .i64 0, .int .i64 0, .int .i64 0, .int .i64 0, .int .i64 0, .int .i64 0] 40)) := by
  have b : ∀ (X : World) (o : Obj), Below X.heap.size X (X.alloc o) := fun X o => below_new X o
  obtain ⟨O, hO⟩ : ∃ O : Obj, O = .cells #[.int .i64 0, .int .i64 0, .int .i64 0, .int .i64 0, .int .i64 0, .int .i64 0] 40 := ⟨_, rfl⟩
  have n : ∀ X : World, BB (X.alloc O) X.heap.size 40 [0, 0, 0, 0, 0, 0] := fun X => by rw [hO]; exact BB.new X _ _ _ _ _ _ _
  rw [← hO]
  have t0 := TB.new w 27 v1 v2 v3 v4
  have e0 : (w.alloc (.cells #[v1, v2, v3, v4] 27)).heap.size = w.heap.size + 1 := by simp
  have b0 := below_new w (.cells #[v1, v2, v3, v4] 27)
  generalize w.alloc (.cells #[v1, v2, v3, v4] 27) = X0 at *
  have n1 := n X0
  have n2 := n (X0.alloc O)
  have n3 := n ((X0.alloc O).alloc O)
  have n4 := n (((X0.alloc O).alloc O).alloc O)
  simp only [World.size_alloc, e0] at n1 n2 n3 n4
  exact ⟨(((t0.keep (b _ O)).keep (b _ O)).keep (b _ O)).keep (b _ O), ((n1.alloc O).alloc O).alloc O, (n2.alloc O).alloc O, n3.alloc O, n4, (((b0.alloc b0.size O).alloc (by simp; omega) O).alloc (by simp; omega) O).alloc (by simp; omega) O⟩
end
theorem sup_rng {s : Su} (h : MU.GoodS s) (j : Nat) : 0 ≤ MB.at_ (MC.supB s.ps) j ∧ MB.at_ (MC.supB s.ps) j ≤ 4 := MC.okB_at (MC.chk_good h.ps).supply_ok j
theorem openK_rng {s : Su} (h : MU.GoodS s) : ∀ (k j : Nat), k ≤ s.as_.length → -4 * (k : Int) ≤ MB.at_ (MU.openK s k) j ∧ MB.at_ (MU.openK s k) j ≤ 4
  | 0, j, _ => by
    have := sup_rng h j
    exact ⟨by have : MB.at_ (MU.openK s 0) j = MB.at_ (MC.supB s.ps) j := rfl
              omega, this.2⟩
  | k + 1, j, hk => by
    have hp : s.as_[k]? = some s.as_[k] := List.getElem?_eq_getElem hk
    have hg := h.asides k _ hp
    have ih := openK_rng h k j (by omega)
    have ih2 := openK_rng h k s.as_[k].product.toNat (by omega)
    have h6 := (MC.chk_good h.ps).few
    have h4 : MC.of (·.supply) s.ps s.as_[k].product.toNat ≤ 4 := by
      have hp2 : s.ps[s.as_[k].product.toNat]? = some s.ps[s.as_[k].product.toNat] := List.getElem?_eq_getElem (by omega)
      rw [MC.of_at hp2]
      exact ((MC.chk_good h.ps).each _ _ hp2).2.1.2
    rw [MU.openK_step hp, MC.at_set (by rw [MU.openK_len]; omega)]
    push_cast
    split
    · omega
    · omega
theorem sub_wrap {x u : Int} (h1 : -100 ≤ x ∧ x ≤ 100) (h2 : -100 ≤ u ∧ u ≤ 100) : wrap64 (x - u) = x - u := by
  unfold wrap64; omega
theorem ret_two {xs ys xs' ys' : List Int} (h : xs = xs') (h' : ys = ys') : Ending.returned (.tuple #[aggB xs, aggB ys]) = .returned (.tuple #[aggB xs', aggB ys']) := by rw [h, h']
end Go.Proofs.YtigfgeanofccgaaGreatDoor
