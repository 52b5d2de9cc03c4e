/- Check of both: no claim of its own. -/
import Derived.Test.YtooeafpcbejpdaaRPrim
import Derived.Lib.QuietBelow
namespace Go.Proofs.Ytooeafpcbejpdaa
open Go.RowKit
open MR (Bd)
set_option maxRecDepth 100000 in
set_option maxHeartbeats 4000000 in
theorem check_any (A : Option Addr) (n c : Nat) (L : List Bd) (w : World) (h : Lst bdE w A n c L) :
    Calls Try.prog 13 #[.slice A n c] w (Gives (.int .i64 (MR.chkL L)) w) := by
  have hn := h.few
  have hc := h.cap
  have HL := Lib.hid h.len
  have H := Lib.hid h
  clear h
  by_cases h0 : n = 0
  · have G := Lib.hid (ret_int (k := .i64) (MR.chk_short (l := L) (by rw [HL.out]; exact h0)).symm)
    subst h0
    go_enter Try.func13, Try.ntmps13
    go_wp2
    go_ret
    exact ⟨G.out, Below.refl _ _⟩
  by_cases h8 : 8 < n
  · have G := Lib.hid (ret_int (k := .i64) (MR.chk_long (l := L) (by rw [HL.out]; exact h8)).symm)
    go_enter Try.func13, Try.ntmps13
    go_wp2
    go_ret
    exact ⟨G.out, Below.refl _ _⟩
  have HM := Lib.hid (MR.chk_mid (l := L) (by rw [HL.out]; exact h0) (by rw [HL.out]; exact h8))
  have hmo : Try.prog.follows .mixedOrders = true := by kernel_rfl
  have e0 : ((n : Int) == 0) = false := beq_eq_false_iff_ne.2 (by omega)
  have e8 : decide (8 < (n : Int)) = false := decide_eq_false (by omega)
  go_enter Try.func13, Try.ntmps13
  go_wp2
  go_loopw [16] (fun i wr => ∃ k : Nat, k ≤ n ∧ i = .int .i64 k ∧ Hid (MR.Upto L k) ∧ Hid (Below w.heap.size w wr)) (fun i _ => n - (intOf i).toNat)
  case atStart => exact ⟨0, Nat.zero_le _, rfl, Lib.hid (MR.Upto.start L), Lib.hid (Below.refl _ _)⟩
  case round =>
    rename_i _ wr
    obtain ⟨k, hk, rfl, HU, HB⟩ := hrel
    by_cases hlt : k < n
    · obtain ⟨ad, p, rfl, q1, hfi, hbk, x0, x1, x2, x3⟩ := bd_at (H.out.keep HB.out) hlt
      have HQ := Lib.hid q1
      have B1 := Lib.hid (HB.out.trans ((below_new wr (.cells #[.string (str p.name), .int .i64 p.cls, .int .i64 p.budget, .int .i64 p.points] 50)).mono HB.out.size))
      have PV := Lib.hid (heap_new wr (.cells #[.string (str p.name), .int .i64 p.cls, .int .i64 p.budget, .int .i64 p.points] 50))
      have CP := Lib.hid (fun w' (hb : Below w.heap.size w w') => checkBidder_any (some ad) n c k L p hk hfi.1 w' (H.out.keep hb))
      obtain ⟨er, her⟩ : ∃ er, MR.bdE (MR.names L k) p = er := ⟨_, rfl⟩
      have HR := Lib.hid her
      rw [her] at CP
      clear her q1 hbk hfi
      obtain ⟨pn, ps, pr, pp⟩ := p
      unfold agg_bd at CP
      simp only at *
      generalize str pn = s at *
      go_wp2_with fail
      obtain ⟨X, hX⟩ : ∃ X, X = wr.alloc (.cells #[.string s, .int .i64 ps, .int .i64 pr, .int .i64 pp] 50) := ⟨_, rfl⟩
      rw [← hX] at B1 PV ⊢
      clear hX x0 x1 x2 x3
      have k0 := cell_regrown (show X.cell? ⟨wr.heap.size, 0, none⟩ = some (.string s) by rw [cell_of_row _ _ _ _ _ _ PV.out]; rfl)
      have k1 := cell_regrown (show X.cell? ⟨wr.heap.size, 1, none⟩ = some (.int .i64 ps) by rw [cell_of_row _ _ _ _ _ _ PV.out]; rfl)
      have k2 := cell_regrown (show X.cell? ⟨wr.heap.size, 2, none⟩ = some (.int .i64 pr) by rw [cell_of_row _ _ _ _ _ _ PV.out]; rfl)
      have k3 := cell_regrown (show X.cell? ⟨wr.heap.size, 3, none⟩ = some (.int .i64 pp) by rw [cell_of_row _ _ _ _ _ _ PV.out]; rfl)
      have cS := fun d os => Calls.regrown_of (CP.out (Go.Sort.grow (redrawn X d) os) (B1.out.trans ((below_regrown X d os).mono B1.out.size)))
      refine wp_region_quiet_below hmo (by kernel_rfl) ?_
      have hkc : k ≤ c := by omega
      have hkc' : (k : Int) ≤ (c : Int) := by omega
      quiet_step (exact cS _ _)
      quiet_step (exact cS _ _)
      quiet_step (exact cS _ _)
      quiet_step (exact cS _ _)
      quiet_step (exact cS _ _)
      quiet_step (exact cS _ _)
      refine wpQuiet_nil ?_
      rintro _ ⟨pz, rfl⟩
      have B2 := Lib.hid (B1.out.trans ((below_regrown X pz.d pz.os).mono B1.out.size))
      clear cS k0 k1 k2 k3 CP
      generalize Go.Sort.grow (redrawn X pz.d) pz.os = V at *
      by_cases he : er = 0
      · subst he
        have G := Lib.hid (HU.out.step HQ.out HR.out)
        go_wp2
        go_roundw
        case rel => exact ⟨k + 1, by omega, by go_num, G, B2⟩
        case measure => simp [intOf]; omega
      · have hb : (er != 0) = true := bne_iff_ne.2 he
        have G := Lib.hid (ret_int (k := .i64) (show er = MR.chkL L by rw [HM.out, HU.out.stop HQ.out (by rw [HR.out]; exact he), HR.out]))
        go_wp2
        go_ret
        exact ⟨G.out, B2.out⟩
    · have G := Lib.hid (ret_int (k := .i64) (show 0 = MR.chkL L by rw [HM.out, HU.out.fin (by rw [HL.out]; omega)]))
      go_wp2
      go_ret
      exact ⟨G.out, HB.out⟩
set_option maxRecDepth 100000 in
set_option maxHeartbeats 8000000 in
theorem rcheck_any (A : Option Addr) (n c : Nat) (L : List Bd) (w : World) (h : Lst bdE w A n c L) :
    Calls Try.prog 14 #[.slice A n c] w (Gives (.int .i64 (MR.chkL L)) w) := by
  have hn := h.few
  have hc := h.cap
  have HL := Lib.hid h.len
  have H := Lib.hid h
  clear h
  by_cases h0 : n = 0
  · have G := Lib.hid (ret_int (k := .i64) (MR.chk_short (l := L) (by rw [HL.out]; exact h0)).symm)
    subst h0
    go_enter Try.func14, Try.ntmps14
    go_wp2
    go_ret
    exact ⟨G.out, Below.refl _ _⟩
  by_cases h8 : 8 < n
  · have G := Lib.hid (ret_int (k := .i64) (MR.chk_long (l := L) (by rw [HL.out]; exact h8)).symm)
    go_enter Try.func14, Try.ntmps14
    go_wp2
    go_ret
    exact ⟨G.out, Below.refl _ _⟩
  have HM := Lib.hid (MR.chk_mid (l := L) (by rw [HL.out]; exact h0) (by rw [HL.out]; exact h8))
  have e0 : ((n : Int) == 0) = false := beq_eq_false_iff_ne.2 (by omega)
  have e8 : decide (8 < (n : Int)) = false := decide_eq_false (by omega)
  go_enter Try.func14, Try.ntmps14
  go_wp2
  go_loopw [3] (fun i wr => ∃ k : Nat, k ≤ n ∧ i = .int .i64 k ∧ Hid (MR.Upto L k) ∧ Hid (Below w.heap.size w wr)) (fun i _ => n - (intOf i).toNat)
  case atStart => exact ⟨0, Nat.zero_le _, rfl, Lib.hid (MR.Upto.start L), Lib.hid (Below.refl _ _)⟩
  case round =>
    rename_i _ wr
    obtain ⟨k, hk, rfl, HU, HB⟩ := hrel
    by_cases hlt : k < n
    · obtain ⟨ad, p, rfl, q1, hfi, hbk, x0, x1, x2, x3⟩ := bd_at (H.out.keep HB.out) hlt
      have HQ := Lib.hid q1
      have NA := Lib.hid (fun w' => risName_any (str p.name) (by rw [str_size]; exact hfi.1) w')
      rw [str_data] at NA
      have FA := Lib.hid (fun w' (hb : Below w.heap.size w w') => rfind_any (some ad) n c L p.name w' (H.out.keep hb))
      have HST := Lib.hid (fun (er : Int) (he : MR.bdE (MR.names L k) p = er) (h0' : er ≠ 0) => ret_int (k := .i64) (show er = MR.chkL L by rw [HM.out, HU.out.stop HQ.out (by rw [he]; exact h0'), he]))
      clear q1 hbk hfi
      cases hnm : nameB p.name with
      | false =>
        have G := Lib.hid (HST.out 5 (MR.bdE_name hnm) (by decide))
        rw [hnm] at NA
        clear hnm HST HU HQ FA
        obtain ⟨pn, ps, pr, pp⟩ := p
        simp only at *
        generalize str pn = s at *
        go_wp2_with fail
        refine (NA.out _).mono ?_
        rintro e w1 ⟨rfl, hb⟩
        have B1 := Lib.hid (HB.out.trans (hb.mono HB.out.size))
        clear hb x0
        go_wp2
        go_ret
        exact ⟨G.out, B1.out⟩
      | true =>
        rw [hnm] at NA
        obtain ⟨j, hj⟩ := MR.find_any L HQ.out
        rw [hj] at FA
        have FA2 : Hid (∀ w', Below w.heap.size w w' → Calls Try.prog 16 #[.slice (some ad) n c, .string (str p.name)] w' (Gives (.tuple #[.int .i64 (j : Int), .bool true]) w')) := FA
        have HNM := Lib.hid hnm
        have HJ := Lib.hid hj
        clear hnm hj FA
        have bridge : ∀ w', Below w.heap.size w w' → w'.cell? (ad.add (k * 4)) = some (.string (str p.name)) ∧ w'.cell? ⟨(ad.add (k * 4)).block, (ad.add (k * 4)).off + 1, none⟩ = some (.int .i64 p.cls) ∧ w'.cell? ⟨(ad.add (k * 4)).block, (ad.add (k * 4)).off + 2, none⟩ = some (.int .i64 p.budget) ∧ w'.cell? ⟨(ad.add (k * 4)).block, (ad.add (k * 4)).off + 3, none⟩ = some (.int .i64 p.points) := by
          intro w' hb
          obtain ⟨ad1, p1, ha1, q1, _, _, y0, y1, y2, y3⟩ := bd_at (H.out.keep hb) hlt
          injection ha1 with ha1
          subst ha1
          obtain rfl : p = p1 := by have := HQ.out; rw [q1] at this; injection this with this; exact this.symm
          exact ⟨y0, y1, y2, y3⟩
        have BR := Lib.hid bridge
        clear bridge
        by_cases hs : p.name ∈ MR.names L k
        · have G := Lib.hid (HST.out 7 (MR.bdE_seen HNM.out hs) (by decide))
          have hne : j ≠ k := fun e => (MR.find_seen HQ.out).2 hs (by rw [HJ.out, e])
          have hne' : ((j : Int) != (k : Int)) = true := bne_iff_ne.2 (by omega)
          clear hs HST HU HQ HNM HJ x1 x2 x3
          obtain ⟨pn, ps, pr, pp⟩ := p
          simp only at *
          generalize str pn = s at *
          go_wp2_with fail
          refine (NA.out _).mono ?_
          rintro e w1 ⟨rfl, hb⟩
          have B1 := Lib.hid (HB.out.trans (hb.mono HB.out.size))
          obtain ⟨y0, y1, y2, y3⟩ := BR.out w1 B1.out
          clear hb x0 NA
          go_wp2_with fail
          refine (FA2.out _ B1.out).mono ?_
          rintro e w2 ⟨rfl, hb⟩
          have B2 := Lib.hid (B1.out.trans (hb.mono B1.out.size))
          clear hb
          go_wp2
          go_ret
          exact ⟨G.out, B2.out⟩
        · have hje : j = k := by
            apply Classical.byContradiction
            intro hne
            exact hs ((MR.find_seen HQ.out).1 (fun e => hne (by rw [HJ.out] at e; injection e)))
          subst hje
          have hne' : ((j : Int) != (j : Int)) = false := by simp
          by_cases ho : p.ok
          · have G := Lib.hid (HU.out.step HQ.out (MR.bdE_ok HNM.out hs ho))
            obtain ⟨⟨o1, o2⟩, ⟨o3, o4⟩, o5, o6⟩ := ho
            clear hs HST HU HQ HNM HJ x1 x2 x3
            obtain ⟨pn, ps, pr, pp⟩ := p
            simp only at *
            generalize str pn = s at *
            have d1 : decide (ps < 0) = false := decide_eq_false (by omega)
            have d2 : decide (4 < ps) = false := decide_eq_false (by omega)
            have d3 : decide (pr < 0) = false := decide_eq_false (by omega)
            have d4 : decide (1000000 < pr) = false := decide_eq_false (by omega)
            have d5 : decide (pp < 0) = false := decide_eq_false (by omega)
            have d6 : decide (24000 < pp) = false := decide_eq_false (by omega)
            go_wp2_with fail
            refine (NA.out _).mono ?_
            rintro e w1 ⟨rfl, hb⟩
            have B1 := Lib.hid (HB.out.trans (hb.mono HB.out.size))
            obtain ⟨y0, y1, y2, y3⟩ := BR.out w1 B1.out
            clear hb x0 NA
            go_wp2_with fail
            refine (FA2.out _ B1.out).mono ?_
            rintro e w2 ⟨rfl, hb⟩
            have B2 := Lib.hid (B1.out.trans (hb.mono B1.out.size))
            obtain ⟨z0, z1, z2, z3⟩ := BR.out w2 B2.out
            clear hb y0 y1 y2 y3 FA2
            go_wp2
            go_roundw
            case rel => exact ⟨j + 1, by omega, by go_num, G, B2⟩
            case measure => simp [intOf]; omega
          · have G := Lib.hid (HST.out 4 (MR.bdE_range HNM.out hs ho) (by decide))
            have HC := Lib.hid (MR.not_ok ho)
            clear hs ho HST HU HQ HNM HJ x1 x2 x3
            obtain ⟨pn, ps, pr, pp⟩ := p
            simp only at *
            generalize str pn = s at *
            go_wp2_with fail
            refine (NA.out _).mono ?_
            rintro e w1 ⟨rfl, hb⟩
            have B1 := Lib.hid (HB.out.trans (hb.mono HB.out.size))
            obtain ⟨y0, y1, y2, y3⟩ := BR.out w1 B1.out
            clear hb x0 NA
            go_wp2_with fail
            refine (FA2.out _ B1.out).mono ?_
            rintro e w2 ⟨rfl, hb⟩
            have B2 := Lib.hid (B1.out.trans (hb.mono B1.out.size))
            obtain ⟨z0, z1, z2, z3⟩ := BR.out w2 B2.out
            clear hb y0 y1 y2 y3 FA2
            rcases HC.out with c1 | ⟨c1, c2⟩ | ⟨c1, c2, c3⟩ | ⟨c1, c2, c3, c4⟩ | ⟨c1, c2, c3, c4, c5⟩ | ⟨c1, c2, c3, c4, c5, c6⟩
            all_goals
              go_wp2
              go_ret
              exact ⟨G.out, B2.out⟩
    · have G := Lib.hid (ret_int (k := .i64) (show 0 = MR.chkL L by rw [HM.out, HU.out.fin (by rw [HL.out]; omega)]))
      go_wp2
      go_ret
      exact ⟨G.out, HB.out⟩
end Go.Proofs.Ytooeafpcbejpdaa
