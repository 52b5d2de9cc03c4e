/- FRFrom, FROff, FSmall, joined: no claim of its own. -/
import Derived.Test.YtbnillkihmooeaaJFC
import Derived.Test.YtbnillkihmooeaaVRef0
import Derived.Deep.RegionHeld3
import Derived.Test.YtbnillkihmooeaaJVS
import Derived.Test.YtbnillkihmooeaaJK
namespace Go.Proofs.Ytbnillkihmooeaa
open Go.RowKit
attribute [local go_sem] Oper.semAt_some
/-- One bundle that has as much. -/
def badB (L s : List Int) (i k : Nat) : Bool := decide (k ≠ i) && decide (L.getD i 0 ≤ L.getD k 0) && MB.withinB (VV.at6 s k) (VV.at6 s i) 6
def abvB (L s : List Int) (i k : Nat) : Bool := (List.range k).all fun j => !badB L s i j
theorem abv_yes {L s : List Int} {i k : Nat} (h : badB L s i k = false) : abvB L s i (k + 1) = abvB L s i k := by unfold abvB; rw [List.range_succ, List.all_append]; simp [h]
theorem abv_no {L s : List Int} {i k : Nat} (h : badB L s i k = true) : abvB L s i (k + 1) = false := by unfold abvB; rw [List.range_succ, List.all_append]; simp [h]
theorem at6_zero {s : List Int} : VV.at6 s 0 = VV.Z := by rw [VV.at6_eq, D_zero]; rfl
theorem abv_all {L s : List Int} {i n : Nat} (hs : VV.Bu s) (hn : n = VV.cnt s) (hi : i < n) (h1 : 1 ≤ i) (hz : L.getD 0 0 = 0) (ht : tabOk L = true) : abvB L s i n = decide (VV.subT (fT L s) (VV.at6 s i) < fT L s (VV.at6 s i)) := by
  have hb := VV.at6_bu hs i
  have hrk : VV.rank s (VV.at6 s i) = i := VV.rank_at (by omega)
  have hfi : fT L s (VV.at6 s i) = L.getD i 0 := by unfold fT; rw [hrk]
  have hrz : VV.rank s VV.Z = 0 := by
    have := VV.rank_at (s := s) (i := 0) (by omega)
    rw [at6_zero] at this
    exact this
  have hne : VV.at6 s i ≠ VV.Z := fun e => by rw [e, hrz] at hrk; omega
  have key := VV.above_iff (f := fT L s) hb.1 (by unfold fT; rw [hrz]; exact hz) (getD_in ht _).1 hne
  apply Bool.eq_iff_iff.2
  rw [decide_eq_true_eq, ← key]
  unfold abvB
  rw [List.all_eq_true]
  constructor
  · intro h d hd hl hdn
    have hr := VV.rank_lt hs hd (hl.trans hb.2)
    have hq := h (VV.rank s d) (List.mem_range.2 (by omega))
    have e6 := VV.at_rank hs hd (hl.trans hb.2)
    unfold badB at hq
    rw [e6, (MB.withinB_iff d (VV.at6 s i) 6).2 hl, decide_eq_true (show VV.rank s d ≠ i from fun e => hdn (by rw [← e6, e]))] at hq
    rw [hfi]
    unfold fT
    simpa using hq
  · intro h k hk
    have hk' := List.mem_range.1 hk
    cases hbd : badB L s i k with
    | false => rfl
    | true =>
      unfold badB at hbd
      simp only [Bool.and_eq_true, decide_eq_true_eq] at hbd
      obtain ⟨⟨b1, b2⟩, b3⟩ := hbd
      have hk6 := VV.at6_bu hs k
      have hrkk : VV.rank s (VV.at6 s k) = k := VV.rank_at (by omega)
      have := h (VV.at6 s k) hk6.1 ((MB.withinB_iff _ _ 6).1 b3) (fun e => b1 (by rw [← hrkk, e, hrk]))
      rw [hfi] at this
      unfold fT at this
      rw [hrkk] at this
      omega
theorem offs_first {L s : List Int} (hz : L.getD 0 0 = 0) (hn : 0 < VV.cnt s) : offs (fT L s) ((VV.all s).take 1) = [] := by
  have hl : (VV.all s).length = VV.cnt s := by unfold VV.all; exact MB.row_length _ _ _
  have e : (VV.all s).take 1 = [] ++ [VV.Z] := by
    have h0 : (VV.all s)[0]? = some ((VV.all s)[0]'(by omega)) := List.getElem?_eq_getElem _
    have := (fall_get h0).2
    rw [at6_zero] at this
    rw [List.take_succ_eq_append_getElem (by omega), List.take_zero, this]
  rw [e, offs_no]
  · rfl
  · have hrz : VV.rank s VV.Z = 0 := by
      have := VV.rank_at (s := s) (i := 0) hn
      rwa [at6_zero] at this
    exact VV.z_not (by unfold fT; rw [hrz]; exact hz)
theorem offs_take {s : List Int} {i : Nat} (hi : i < VV.cnt s) : (VV.all s).take (i + 1) = (VV.all s).take i ++ [VV.at6 s i] := by
  have hl : (VV.all s).length = VV.cnt s := by unfold VV.all; exact MB.row_length _ _ _
  rw [List.take_succ_eq_append_getElem (by omega)]
  have := (fall_get (b := s) (i := i) (List.getElem?_eq_getElem (by omega))).2
  rw [this]
/-- A bundle's cells in a list of bundles. -/
theorem rws_cells {w : World} {ap : Addr} {n c k : Nat} {rs : List (List Int)} {a b cc d e f : Int} (h : Rws w (some ap) n c rs) (hk : k < n) (hr : rs[k]? = some [a, b, cc, d, e, f]) : w.cell? (ap.add (k * 6)) = some (.int .i64 a) ∧ w.cell? ⟨(ap.add (k * 6)).block, (ap.add (k * 6)).off + 1, none⟩ = some (.int .i64 b) ∧ w.cell? ⟨(ap.add (k * 6)).block, (ap.add (k * 6)).off + 2, none⟩ = some (.int .i64 cc) ∧ w.cell? ⟨(ap.add (k * 6)).block, (ap.add (k * 6)).off + 3, none⟩ = some (.int .i64 d) ∧ w.cell? ⟨(ap.add (k * 6)).block, (ap.add (k * 6)).off + 4, none⟩ = some (.int .i64 e) ∧ w.cell? ⟨(ap.add (k * 6)).block, (ap.add (k * 6)).off + 5, none⟩ = some (.int .i64 f) := by
  obtain ⟨ad, a', b', c', d', e', f', had, hr', _, h0, h1, h2, h3, h4, h5⟩ := h.at_ hk
  injection had with had
  subst had
  rw [hr] at hr'
  injection hr' with hr'
  injection hr' with z0 hr'
  injection hr' with z1 hr'
  injection hr' with z2 hr'
  injection hr' with z3 hr'
  injection hr' with z4 hr'
  injection hr' with z5 _
  subst z0 z1 z2 z3 z4 z5
  exact ⟨h0, h1, h2, h3, h4, h5⟩
set_option maxRecDepth 100000 in
set_option maxHeartbeats 8000000 in
theorem rffrom_any (A : Option Addr) (n c : Nat) (L : List Int) (q0 q1 q2 q3 q4 q5 : Int) (w : World) (hL : Lst intE w A n c L) : Calls Try.prog 22 #[.slice A n c, .agg #[.int .i64 q0, .int .i64 q1, .int .i64 q2, .int .i64 q3, .int .i64 q4, .int .i64 q5]] w (GivesO (fromE L [q0, q1, q2, q3, q4, q5]) w) := by
  have CC := Lib.hid (fun w' => rcount_any q0 q1 q2 q3 q4 q5 w')
  have HLL := Lib.hid hL.len
  have E1 := Lib.hid (fromE1 (L := L) (s := [q0, q1, q2, q3, q4, q5]))
  have E2 := Lib.hid (fromE2 (L := L) (s := [q0, q1, q2, q3, q4, q5]))
  have E3 := Lib.hid (fromE3 (L := L) (s := [q0, q1, q2, q3, q4, q5]))
  have K1 := Lib.hid (ckT1 (L := L) (s := [q0, q1, q2, q3, q4, q5]))
  have K2 := Lib.hid (ckT2 (L := L) (s := [q0, q1, q2, q3, q4, q5]))
  have K3 := Lib.hid (ckT3 (L := L) (s := [q0, q1, q2, q3, q4, q5]))
  have K4_ := Lib.hid (ckT4 (L := L) (s := [q0, q1, q2, q3, q4, q5]))
  have K5 := Lib.hid (ckT5 (L := L) (s := [q0, q1, q2, q3, q4, q5]))
  have TN := Lib.hid (fun (n i : Nat) (h : L.length = n) h2 h3 => tabOk_no (i := i) h h2 h3)
  have TY := Lib.hid (fun (n : Nat) (h : L.length = n) h2 => tabOk_yes h h2)
  have CY := Lib.hid (fun h => cnt_yes' (s := [q0, q1, q2, q3, q4, q5]) h)
  obtain ⟨R, hR⟩ : ∃ R, R = fromE L [q0, q1, q2, q3, q4, q5] := ⟨_, rfl⟩
  rw [← hR] at E1 E2 E3 ⊢
  clear hR
  have hn63 := hL.few
  have hb0 := below_new w (.cells #[.int .i64 q0, .int .i64 q1, .int .i64 q2, .int .i64 q3, .int .i64 q4, .int .i64 q5] 23)
  have HB := Lib.hid hb0
  have S0 := Lib.hid (BB.new w 23 q0 q1 q2 q3 q4 q5)
  have L0 := Lib.hid (hL.keep hb0)
  clear hL hb0
  obtain ⟨i1, hi1, hy0, hy1, hy2⟩ := info_parts infoOff
  have hmo : Try.prog.follows .mixedOrders = true := by kernel_rfl
  go_enter Try.func22, Try.ntmps22
  go_upto_region 1 with (fail)
  generalize w.alloc (.cells #[.int .i64 q0, .int .i64 q1, .int .i64 q2, .int .i64 q3, .int .i64 q4, .int .i64 q5] 23) = w1 at *
  obtain ⟨r0, r1, r2, r3, r4, r5⟩ := cells6 S0.out
  generalize hcn : cntB [q0, q1, q2, q3, q4, q5] = cn at *
  go_wp2_with fail
  refine (CC.out _).mono ?_
  rintro ev w2 ⟨rfl, nb⟩
  have B2 := Lib.hid (HB.out.trans (nb.mono HB.out.size))
  have S2 := Lib.hid (S0.out.keep nb S0.out.lt)
  have L2 := Lib.hid (L0.out.keep nb)
  clear nb r0 r1 r2 r3 r4 r5 HB S0 L0 CC
  have HLn := Lib.hid (show (L.length : Int) = (n : Int) by rw [HLL.out])
  by_cases h0 : cn = 0
  · have HE := Lib.hid (show R = ([], 4) from (E1.out (by rw [K1.out h0]; decide)).trans (by rw [K1.out h0]))
    have d0 : (cn == 0) = true := beq_iff_eq.2 h0
    clear h0
    go_wp2
    go_ret2
    rw [HE.out]
    exact ⟨none, 0, 0, rfl, Lst.nil _, B2.out⟩
  · have d0 : (cn == 0) = false := beq_eq_false_iff_ne.2 h0
    by_cases h1 : (n : Int) < cn
    · have hz := K2.out h0 (by rw [HLn.out]; exact h1)
      have HE := Lib.hid (show R = ([], 1) from (E1.out (by rw [hz]; decide)).trans (by rw [hz]))
      have d1 : decide ((n : Int) < cn) = true := decide_eq_true h1
      clear hz h1
      go_wp2
      go_ret2
      rw [HE.out]
      exact ⟨none, 0, 0, rfl, Lst.nil _, B2.out⟩
    · have d1 : decide ((n : Int) < cn) = false := decide_eq_false h1
      by_cases h2 : cn < (n : Int)
      · have hz := K3.out h0 (by rw [HLn.out]; exact h2)
        have HE := Lib.hid (show R = ([], 3) from (E1.out (by rw [hz]; decide)).trans (by rw [hz]))
        have d2 : decide (cn < (n : Int)) = true := decide_eq_true h2
        clear hz h2
        go_wp2
        go_ret2
        rw [HE.out]
        exact ⟨none, 0, 0, rfl, Lst.nil _, B2.out⟩
      · have d2 : decide (cn < (n : Int)) = false := decide_eq_false h2
        obtain rfl : cn = (n : Int) := by omega
        have hn0 : 0 < n := by omega
        obtain ⟨⟨hokb, hp⟩, hcp⟩ := CY.out h0
        have hnc : n = VV.cnt [q0, q1, q2, q3, q4, q5] := by unfold VV.cnt; omega
        have HBU := Lib.hid (VV.bu_of_ok (b := [q0, q1, q2, q3, q4, q5]) rfl hokb)
        have HNC := Lib.hid hnc
        have hnP : n ≤ 1024 := by omega
        have HOKB := Lib.hid hokb
        obtain ⟨ad, rfl, _, hadl, _⟩ := int_getD L2.out hn0
        have HK4 := Lib.hid (fun h => K4_.out h0 (by rw [HLn.out]) h)
        have HK5 := Lib.hid (fun h => K5.out h0 (by rw [HLn.out]) h)
        clear K1 K2 K3 K4_ K5 h0 h1 h2 hcn hokb hp hcp hnc CY
        go_wp2_with fail
        go_loopw [7] (fun t wr => ∃ i : Nat, i ≤ n ∧ t = .int .i64 i ∧ wr = w2 ∧ (∀ j, j < i → 0 ≤ L.getD j 0 ∧ L.getD j 0 ≤ 1000000) ∧ (0 < i → L.getD 0 0 = 0)) (fun t _ => n - (intOf t).toNat)
        case atStart => exact ⟨0, Nat.zero_le _, rfl, rfl, fun j h => absurd h (Nat.not_lt_zero _), fun h => absurd h (Nat.lt_irrefl _)⟩
        case round =>
          obtain ⟨i, hi, rfl, rfl, hall, hfirst⟩ := hrel
          have HA := Lib.hid hall
          have HF0 := Lib.hid hfirst
          clear hall hfirst
          by_cases hlt : i < n
          · obtain ⟨hvr, cv⟩ := int_cell L2.out hlt
            have HA2 := Lib.hid (fun (h : 0 ≤ L.getD i 0 ∧ L.getD i 0 ≤ 1000000) => (show ∀ j, j < i + 1 → 0 ≤ L.getD j 0 ∧ L.getD j 0 ≤ 1000000 from fun j hj => by
              by_cases e : j = i
              · rw [e]; exact h
              · exact HA.out j (by omega)))
            have HF := Lib.hid (fun h => TN.out n i HLL.out hlt h)
            have HZ := Lib.hid (fun (h : i = 0) => (by rw [h] : L.getD 0 0 = L.getD i 0))
            have HBAD : Hid (¬ (0 ≤ L.getD i 0 ∧ L.getD i 0 ≤ 1000000) → R = ([], 4)) := Lib.hid (fun h => by
              have hz : ckT L [q0, q1, q2, q3, q4, q5] = 4 := by
                by_cases g : L.getD 0 0 = 0
                · rw [HK5.out g, if_neg (by rw [HF.out h]; decide)]
                · exact HK4.out g
              exact (E1.out (by rw [hz]; decide)).trans (by rw [hz]))
            have HBAD0 : Hid (i = 0 → L.getD i 0 ≠ 0 → R = ([], 4)) := Lib.hid (fun h h' => by
              have hz : ckT L [q0, q1, q2, q3, q4, q5] = 4 := HK4.out (by rw [HZ.out h]; exact h')
              exact (E1.out (by rw [hz]; decide)).trans (by rw [hz]))
            have HGO : Hid (i = 0 → L.getD i 0 = 0 → L.getD 0 0 = 0) := Lib.hid (fun h h' => by rw [HZ.out h]; exact h')
            generalize L.getD i 0 = v at *
            by_cases hv0 : v < 0
            · have e0 : decide (v < 0) = true := decide_eq_true hv0
              have HE := Lib.hid (HBAD.out (fun h => by omega))
              clear hv0
              go_wp2
              go_ret2
              rw [HE.out]
              exact ⟨none, 0, 0, rfl, Lst.nil _, B2.out⟩
            · have e0 : decide (v < 0) = false := decide_eq_false hv0
              by_cases hv1 : 1000000 < v
              · have e1 : decide (1000000 < v) = true := decide_eq_true hv1
                have HE := Lib.hid (HBAD.out (fun h => by omega))
                clear hv1
                go_wp2
                go_ret2
                rw [HE.out]
                exact ⟨none, 0, 0, rfl, Lst.nil _, B2.out⟩
              · have e1 : decide (1000000 < v) = false := decide_eq_false hv1
                have HA3 := Lib.hid (HA2.out (by omega))
                by_cases hi0 : i = 0
                · have e2 : ((i : Int) == 0) = true := beq_iff_eq.2 (by omega)
                  by_cases hv2 : v = 0
                  · have HG := Lib.hid (show 0 < i + 1 → L.getD 0 0 = 0 from fun _ => HGO.out hi0 hv2)
                    have e3 : (v == 0) = true := beq_iff_eq.2 hv2
                    clear hi0 hv2
                    go_wp2
                    go_roundw
                    case rel => exact ⟨i + 1, hlt, by go_num, trivial, HA3.out, HG.out⟩
                    case measure => simp [intOf]; omega
                  · have HE := Lib.hid (HBAD0.out hi0 hv2)
                    have e3 : (v == 0) = false := beq_eq_false_iff_ne.2 hv2
                    clear hi0 hv2
                    go_wp2
                    go_ret2
                    rw [HE.out]
                    exact ⟨none, 0, 0, rfl, Lst.nil _, B2.out⟩
                · have e2 : ((i : Int) == 0) = false := beq_eq_false_iff_ne.2 (by omega)
                  have HG := Lib.hid (show 0 < i + 1 → L.getD 0 0 = 0 from fun _ => HF0.out (by omega))
                  clear hi0
                  go_wp2
                  go_roundw
                  case rel => exact ⟨i + 1, hlt, by go_num, trivial, HA3.out, HG.out⟩
                  case measure => simp [intOf]; omega
          · have hin : i = n := by omega
            have HTO := Lib.hid (TY.out n HLL.out (by rw [← hin]; exact HA.out))
            have HL0 := Lib.hid (HF0.out (by omega))
            have hz : ckT L [q0, q1, q2, q3, q4, q5] = 0 := by rw [HK5.out HL0.out, if_pos HTO.out]
            have HE2 := Lib.hid (E2.out hz)
            have HE3 := Lib.hid (E3.out hz)
            clear hz E1 E2 E3 HK4 HK5 HA HF0 hin
            obtain ⟨r0, r1, r2, r3, r4, r5⟩ := cells6 S2.out
            go_wp2_with fail
            refine (list_any q0 q1 q2 q3 q4 q5 _).mono ?_
            rintro ev w5 ⟨Ap, np, cp, rfl, hps, nb5⟩
            have B5 := Lib.hid (B2.out.trans (nb5.mono B2.out.size))
            have L5 := Lib.hid (L2.out.keep nb5)
            have hrs : listB [q0, q1, q2, q3, q4, q5] = VV.all [q0, q1, q2, q3, q4, q5] := by
              have hml : listB [q0, q1, q2, q3, q4, q5] = MB.row [q0, q1, q2, q3, q4, q5] 6 n := by rw [HNC.out]; exact list_yes' ⟨HOKB.out, by have := HNC.out; unfold VV.cnt at this; omega⟩
              unfold VV.all; rw [hml, HNC.out]
            rw [hrs] at hps
            have hnp : np = n := by
              have h1 := hps.len
              have h2 : (VV.all [q0, q1, q2, q3, q4, q5]).length = VV.cnt [q0, q1, q2, q3, q4, q5] := by unfold VV.all; exact MB.row_length _ _ _
              rw [h2] at h1; have := HNC.out; omega
            subst hnp
            obtain ⟨ap, _, _, _, _, _, _, rfl, _⟩ := hps.at_ hn0
            have P5 := Lib.hid hps
            have HF1 := Lib.hid (offs_first (L := L) (s := [q0, q1, q2, q3, q4, q5]) HL0.out (by rw [← HNC.out]; exact hn0))
            clear nb5 hps hrs r0 r1 r2 r3 r4 r5 B2 S2 L2
            go_wp2_with fail
            go_loopw [8, 10] (fun v i wr => ∃ i0 : Nat, 1 ≤ i0 ∧ i0 ≤ np ∧ i = .int .i64 i0 ∧ Below w5.heap.size w5 wr ∧ OwnL ofE 52 wr w5.heap.size v (offs (fT L [q0, q1, q2, q3, q4, q5]) ((VV.all [q0, q1, q2, q3, q4, q5]).take i0))) (fun _ i _ => np - (intOf i).toNat)
            case atStart => exact ⟨1, by omega, by omega, rfl, Below.refl _ _, by rw [HF1.out]; exact OwnL.nil _ _ _⟩
            case round =>
              obtain ⟨i, hone, hi, rfl, hbw, hown⟩ := hrel
              have O5 := Lib.hid hown
              have HBw := Lib.hid hbw
              clear hown hbw HF1
              by_cases hlt : i < np
              · obtain ⟨y0, y1, y2, y3, y4, y5, hy⟩ := six (VV.at6_bu HBU.out i).1.len
                have HYI : Hid (VV.at6 [q0, q1, q2, q3, q4, q5] i = [y0, y1, y2, y3, y4, y5]) := Lib.hid hy
                have HALL := Lib.hid (fun (k : Nat) (hk : k < np) => (show (VV.all [q0, q1, q2, q3, q4, q5])[k]? = some (VV.at6 [q0, q1, q2, q3, q4, q5] k) from by
                  have h2 : (VV.all [q0, q1, q2, q3, q4, q5]).length = VV.cnt [q0, q1, q2, q3, q4, q5] := by unfold VV.all; exact MB.row_length _ _ _
                  have hk' : k < (VV.all [q0, q1, q2, q3, q4, q5]).length := by rw [h2, ← HNC.out]; exact hk
                  rw [List.getElem?_eq_getElem hk', (fall_get (List.getElem?_eq_getElem hk')).2]))
                have HBI := Lib.hid (VV.at6_bu HBU.out i)
                obtain ⟨vi, hvi⟩ : ∃ v, v = L.getD i 0 := ⟨_, rfl⟩
                have HVI := Lib.hid hvi
                have CI := Lib.hid (fun X (h : Below w5.heap.size w5 X) => (show X.cell? (ad.add i) = some (.int .i64 vi) from by rw [HVI.out]; exact (int_cell (L5.out.keep h) hlt).2))
                have PI := Lib.hid (fun X (h : Below w5.heap.size w5 X) => rws_cells (P5.out.keep h) hlt (by rw [HALL.out i hlt, HYI.out]))
                have HVB := Lib.hid (show -9223372036854775808 ≤ vi ∧ vi ≤ 9223372036854775807 from by rw [HVI.out]; exact (int_cell L5.out hlt).1)
                clear hy hvi
                go_wp2_with fail
                go_loopw [11, 12] (fun b k wr => ∃ k0 : Nat, k0 ≤ np ∧ k = .int .i64 k0 ∧ b = .bool (abvB L [q0, q1, q2, q3, q4, q5] i k0) ∧ Below w5.heap.size w5 wr ∧ OwnL ofE 52 wr w5.heap.size u8 (offs (fT L [q0, q1, q2, q3, q4, q5]) ((VV.all [q0, q1, q2, q3, q4, q5]).take i))) (fun _ k _ => np - (intOf k).toNat)
                case atStart => exact ⟨0, Nat.zero_le _, rfl, rfl, HBw.out, O5.out⟩
                case round =>
                  obtain ⟨k, hk, rfl, rfl, hbw2, hown2⟩ := hrel
                  have O6' := Lib.hid hown2
                  have HBw2 := Lib.hid hbw2
                  clear hbw2 hown2 O5 HBw
                  by_cases hltk : k < np
                  · obtain ⟨x0, x1, x2, x3, x4, x5, hx⟩ := six (VV.at6_bu HBU.out k).1.len
                    obtain ⟨vk, hvk⟩ : ∃ v, v = L.getD k 0 := ⟨_, rfl⟩
                    have HVK := Lib.hid hvk
                    have CK := Lib.hid (fun X (h : Below w5.heap.size w5 X) => (show X.cell? (ad.add k) = some (.int .i64 vk) from by rw [HVK.out]; exact (int_cell (L5.out.keep h) hltk).2))
                    have PK := Lib.hid (fun X (h : Below w5.heap.size w5 X) => rws_cells (P5.out.keep h) hltk (by rw [HALL.out k hltk, hx]))
                    have HBD := Lib.hid (show badB L [q0, q1, q2, q3, q4, q5] i k = (decide (k ≠ i) && decide (vi ≤ vk) && MB.withinB [x0, x1, x2, x3, x4, x5] [y0, y1, y2, y3, y4, y5] 6) from by unfold badB; rw [hx, HYI.out, HVI.out, HVK.out])
                    clear hx hvk
                    have HB22 := Lib.hid (HBw2.out.trans ((below_drawn wr).mono HBw2.out.size))
                    have O22 := Lib.hid (O6'.out.keep (below_drawn wr))
                    by_cases hki : k = i
                    · have dki : ((k : Int) != (i : Int)) = false := by rw [bne, beq_iff_eq.2 (show (k : Int) = i by omega)]; rfl
                      have HNO := Lib.hid (fun (_ : k = i ∨ ¬ vi ≤ vk ∨ MB.withinB [x0, x1, x2, x3, x4, x5] [y0, y1, y2, y3, y4, y5] 6 = false) => (show abvB L [q0, q1, q2, q3, q4, q5] i (k + 1) = abvB L [q0, q1, q2, q3, q4, q5] i k from abv_yes (by rw [HBD.out, decide_eq_false (fun h => h hki)]; rfl)))
                      generalize abvB L [q0, q1, q2, q3, q4, q5] i k = ab at *
                      go_wp2_with fail
                      clear HBw2 O6'
                      refine wp_region_held_drew (S := fun w' => Below w5.heap.size w5 w') hmo HB22.out (fun hHeld => ?_)
                      have HBd := HB22
                      have O6 := O22
                      clear HB22 O22
                      generalize wr.drew = Y at *
                      refine wpAnyH_take (i := 0) (oi := { dst := some 68, op := Op.move (Operand.tmp 12), type := 3, pos := "ref.go:32", after := #[], guard := none }) (v := ?_) rfl (by kernel_rfl) (by kernel_rfl) (by kernel_rfl) (fun _ _ _ h => h) (Or.inl ⟨by rfl, ?_⟩) (by assumption) ?_
                      rotate_left
                      · intro w hSw; (try dsimp only at hSw); go_simp; try with_reducible rfl
                      (try simp only [Act.put, List.setIfInBounds_toArray, List.set_cons_zero, List.set_cons_succ])
                      refine wpAnyH_take (i := 1) (oi := { dst := some 69, op := Op.move (Operand.tmp 10), type := 3, pos := "ref.go:32", after := #[], guard := none }) (v := ?_) rfl (by kernel_rfl) (by kernel_rfl) (by kernel_rfl) (fun _ _ _ h => h) (Or.inl ⟨by rfl, ?_⟩) (by assumption) ?_
                      rotate_left
                      · intro w hSw; (try dsimp only at hSw); go_simp; try with_reducible rfl
                      (try simp only [Act.put, List.setIfInBounds_toArray, List.set_cons_zero, List.set_cons_succ])
                      refine wpAnyH_take (i := 2) (oi := { dst := some 70, op := Op.binOp BinOp.neq 3 (Operand.tmp 68) (Operand.tmp 69) 3, type := 4, pos := "ref.go:32", after := #[{ on := 0, ground := Ground.data }, { on := 1, ground := Ground.data }], guard := none }) (v := ?_) rfl (by kernel_rfl) (by kernel_rfl) (by kernel_rfl) (fun _ _ _ h => h) (Or.inl ⟨by rfl, ?_⟩) (by assumption) ?_
                      rotate_left
                      · intro w hSw; (try dsimp only at hSw); have ck := CK.out w hSw; go_simp; try with_reducible rfl
                      (try simp only [Act.put, List.setIfInBounds_toArray, List.set_cons_zero, List.set_cons_succ])
                      refine wpAnyH_take (i := 3) (oi := { dst := some 71, op := Op.move (Operand.tmp 70), type := 4, pos := "ref.go:32", after := #[{ on := 2, ground := Ground.data }], guard := none }) (v := ?_) rfl (by kernel_rfl) (by kernel_rfl) (by kernel_rfl) (fun _ _ _ h => h) (Or.inl ⟨by rfl, ?_⟩) (by assumption) ?_
                      rotate_left
                      · intro w hSw; (try dsimp only at hSw); go_simp; try with_reducible rfl
                      (try simp only [Act.put, List.setIfInBounds_toArray, List.set_cons_zero, List.set_cons_succ])
                      refine wpAnyH_take (i := 4) (oi := { dst := some 72, op := Op.move (Operand.tmp 0), type := 34, pos := "ref.go:32", after := #[{ on := 3, ground := Ground.guard }], guard := some (3, true) }) (v := undef) rfl (by kernel_rfl) (by kernel_rfl) (by kernel_rfl) (fun _ _ _ h => h) (Or.inr ⟨by rfl, rfl⟩) (by assumption) ?_
                      (try simp only [Act.put, List.setIfInBounds_toArray, List.set_cons_zero, List.set_cons_succ])
                      refine wpAnyH_take (i := 5) (oi := { dst := some 73, op := Op.move (Operand.tmp 12), type := 3, pos := "ref.go:32", after := #[{ on := 3, ground := Ground.guard }], guard := some (3, true) }) (v := undef) rfl (by kernel_rfl) (by kernel_rfl) (by kernel_rfl) (fun _ _ _ h => h) (Or.inr ⟨by rfl, rfl⟩) (by assumption) ?_
                      (try simp only [Act.put, List.setIfInBounds_toArray, List.set_cons_zero, List.set_cons_succ])
                      refine wpAnyH_take (i := 6) (oi := { dst := some 74, op := Op.indexAddr 34 (Operand.tmp 72) (Operand.tmp 73), type := 0, pos := "ref.go:32", after := #[{ on := 4, ground := Ground.data }, { on := 5, ground := Ground.data }, { on := 3, ground := Ground.guard }], guard := some (3, true) }) (v := undef) rfl (by kernel_rfl) (by kernel_rfl) (by kernel_rfl) (fun _ _ _ h => h) (Or.inr ⟨by rfl, rfl⟩) (by assumption) ?_
                      (try simp only [Act.put, List.setIfInBounds_toArray, List.set_cons_zero, List.set_cons_succ])
                      refine wpAnyH_take (i := 7) (oi := { dst := some 75, op := Op.load 2 (Operand.tmp 74), type := 2, pos := "ref.go:32", after := #[{ on := 6, ground := Ground.data }, { on := 3, ground := Ground.guard }], guard := some (3, true) }) (v := undef) rfl (by kernel_rfl) (by kernel_rfl) (by kernel_rfl) (fun _ _ _ h => h) (Or.inr ⟨by rfl, rfl⟩) (by assumption) ?_
                      (try simp only [Act.put, List.setIfInBounds_toArray, List.set_cons_zero, List.set_cons_succ])
                      refine wpAnyH_take (i := 8) (oi := { dst := some 76, op := Op.move (Operand.tmp 0), type := 34, pos := "ref.go:32", after := #[{ on := 3, ground := Ground.guard }], guard := some (3, true) }) (v := undef) rfl (by kernel_rfl) (by kernel_rfl) (by kernel_rfl) (fun _ _ _ h => h) (Or.inr ⟨by rfl, rfl⟩) (by assumption) ?_
                      (try simp only [Act.put, List.setIfInBounds_toArray, List.set_cons_zero, List.set_cons_succ])
                      refine wpAnyH_take (i := 9) (oi := { dst := some 77, op := Op.move (Operand.tmp 10), type := 3, pos := "ref.go:32", after := #[{ on := 3, ground := Ground.guard }], guard := some (3, true) }) (v := undef) rfl (by kernel_rfl) (by kernel_rfl) (by kernel_rfl) (fun _ _ _ h => h) (Or.inr ⟨by rfl, rfl⟩) (by assumption) ?_
                      (try simp only [Act.put, List.setIfInBounds_toArray, List.set_cons_zero, List.set_cons_succ])
                      refine wpAnyH_take (i := 10) (oi := { dst := some 78, op := Op.indexAddr 34 (Operand.tmp 76) (Operand.tmp 77), type := 0, pos := "ref.go:32", after := #[{ on := 8, ground := Ground.data }, { on := 9, ground := Ground.data }, { on := 3, ground := Ground.guard }], guard := some (3, true) }) (v := undef) rfl (by kernel_rfl) (by kernel_rfl) (by kernel_rfl) (fun _ _ _ h => h) (Or.inr ⟨by rfl, rfl⟩) (by assumption) ?_
                      (try simp only [Act.put, List.setIfInBounds_toArray, List.set_cons_zero, List.set_cons_succ])
                      refine wpAnyH_take (i := 11) (oi := { dst := some 79, op := Op.load 2 (Operand.tmp 78), type := 2, pos := "ref.go:32", after := #[{ on := 10, ground := Ground.data }, { on := 3, ground := Ground.guard }], guard := some (3, true) }) (v := undef) rfl (by kernel_rfl) (by kernel_rfl) (by kernel_rfl) (fun _ _ _ h => h) (Or.inr ⟨by rfl, rfl⟩) (by assumption) ?_
                      (try simp only [Act.put, List.setIfInBounds_toArray, List.set_cons_zero, List.set_cons_succ])
                      refine wpAnyH_take (i := 12) (oi := { dst := some 80, op := Op.binOp BinOp.geq 2 (Operand.tmp 75) (Operand.tmp 79) 2, type := 4, pos := "ref.go:32", after := #[{ on := 7, ground := Ground.data }, { on := 11, ground := Ground.data }, { on := 3, ground := Ground.guard }], guard := some (3, true) }) (v := undef) rfl (by kernel_rfl) (by kernel_rfl) (by kernel_rfl) (fun _ _ _ h => h) (Or.inr ⟨by rfl, rfl⟩) (by assumption) ?_
                      (try simp only [Act.put, List.setIfInBounds_toArray, List.set_cons_zero, List.set_cons_succ])
                      refine wpAnyH_take (i := 13) (oi := { dst := some 81, op := Op.pick (Operand.tmp 71) (Operand.tmp 80) (Operand.const (Value.bool false)), type := 4, pos := "ref.go:32", after := #[{ on := 3, ground := Ground.data }, { on := 12, ground := Ground.data }], guard := none }) (v := ?_) rfl (by kernel_rfl) (by kernel_rfl) (by kernel_rfl) (fun _ _ _ h => h) (Or.inl ⟨by rfl, ?_⟩) (by assumption) ?_
                      rotate_left
                      · intro w hSw; (try dsimp only at hSw); go_simp; try with_reducible rfl
                      (try simp only [Act.put, List.setIfInBounds_toArray, List.set_cons_zero, List.set_cons_succ])
                      refine wpAnyH_take (i := 14) (oi := { dst := some 82, op := Op.move (Operand.tmp 81), type := 4, pos := "ref.go:32", after := #[{ on := 13, ground := Ground.data }, { on := 3, ground := Ground.chain }], guard := none }) (v := ?_) rfl (by kernel_rfl) (by kernel_rfl) (by kernel_rfl) (fun _ _ _ h => h) (Or.inl ⟨by rfl, ?_⟩) (by assumption) ?_
                      rotate_left
                      · intro w hSw; (try dsimp only at hSw); go_simp; try with_reducible rfl
                      (try simp only [Act.put, List.setIfInBounds_toArray, List.set_cons_zero, List.set_cons_succ])
                      refine wpAnyH_take (i := 15) (oi := { dst := some 83, op := Op.move (Operand.tmp 9), type := 40, pos := "ref.go:32", after := #[{ on := 14, ground := Ground.guard }], guard := some (14, true) }) (v := undef) rfl (by kernel_rfl) (by kernel_rfl) (by kernel_rfl) (fun _ _ _ h => h) (Or.inr ⟨by rfl, rfl⟩) (by assumption) ?_
                      (try simp only [Act.put, List.setIfInBounds_toArray, List.set_cons_zero, List.set_cons_succ])
                      refine wpAnyH_take (i := 16) (oi := { dst := some 84, op := Op.move (Operand.tmp 12), type := 3, pos := "ref.go:32", after := #[{ on := 14, ground := Ground.guard }], guard := some (14, true) }) (v := undef) rfl (by kernel_rfl) (by kernel_rfl) (by kernel_rfl) (fun _ _ _ h => h) (Or.inr ⟨by rfl, rfl⟩) (by assumption) ?_
                      (try simp only [Act.put, List.setIfInBounds_toArray, List.set_cons_zero, List.set_cons_succ])
                      refine wpAnyH_take (i := 17) (oi := { dst := some 85, op := Op.indexAddr 40 (Operand.tmp 83) (Operand.tmp 84), type := 0, pos := "ref.go:32", after := #[{ on := 15, ground := Ground.data }, { on := 16, ground := Ground.data }, { on := 14, ground := Ground.guard }], guard := some (14, true) }) (v := undef) rfl (by kernel_rfl) (by kernel_rfl) (by kernel_rfl) (fun _ _ _ h => h) (Or.inr ⟨by rfl, rfl⟩) (by assumption) ?_
                      (try simp only [Act.put, List.setIfInBounds_toArray, List.set_cons_zero, List.set_cons_succ])
                      refine wpAnyH_take (i := 18) (oi := { dst := some 86, op := Op.load 23 (Operand.tmp 85), type := 23, pos := "ref.go:32", after := #[{ on := 17, ground := Ground.data }, { on := 14, ground := Ground.guard }], guard := some (14, true) }) (v := undef) rfl (by kernel_rfl) (by kernel_rfl) (by kernel_rfl) (fun _ _ _ h => h) (Or.inr ⟨by rfl, rfl⟩) (by assumption) ?_
                      (try simp only [Act.put, List.setIfInBounds_toArray, List.set_cons_zero, List.set_cons_succ])
                      refine wpAnyH_take (i := 19) (oi := { dst := some 87, op := Op.move (Operand.tmp 9), type := 40, pos := "ref.go:32", after := #[{ on := 14, ground := Ground.guard }], guard := some (14, true) }) (v := undef) rfl (by kernel_rfl) (by kernel_rfl) (by kernel_rfl) (fun _ _ _ h => h) (Or.inr ⟨by rfl, rfl⟩) (by assumption) ?_
                      (try simp only [Act.put, List.setIfInBounds_toArray, List.set_cons_zero, List.set_cons_succ])
                      refine wpAnyH_take (i := 20) (oi := { dst := some 88, op := Op.move (Operand.tmp 10), type := 3, pos := "ref.go:32", after := #[{ on := 14, ground := Ground.guard }], guard := some (14, true) }) (v := undef) rfl (by kernel_rfl) (by kernel_rfl) (by kernel_rfl) (fun _ _ _ h => h) (Or.inr ⟨by rfl, rfl⟩) (by assumption) ?_
                      (try simp only [Act.put, List.setIfInBounds_toArray, List.set_cons_zero, List.set_cons_succ])
                      refine wpAnyH_take (i := 21) (oi := { dst := some 89, op := Op.indexAddr 40 (Operand.tmp 87) (Operand.tmp 88), type := 0, pos := "ref.go:32", after := #[{ on := 19, ground := Ground.data }, { on := 20, ground := Ground.data }, { on := 14, ground := Ground.guard }], guard := some (14, true) }) (v := undef) rfl (by kernel_rfl) (by kernel_rfl) (by kernel_rfl) (fun _ _ _ h => h) (Or.inr ⟨by rfl, rfl⟩) (by assumption) ?_
                      (try simp only [Act.put, List.setIfInBounds_toArray, List.set_cons_zero, List.set_cons_succ])
                      refine wpAnyH_take (i := 22) (oi := { dst := some 90, op := Op.load 23 (Operand.tmp 89), type := 23, pos := "ref.go:32", after := #[{ on := 21, ground := Ground.data }, { on := 14, ground := Ground.guard }], guard := some (14, true) }) (v := undef) rfl (by kernel_rfl) (by kernel_rfl) (by kernel_rfl) (fun _ _ _ h => h) (Or.inr ⟨by rfl, rfl⟩) (by assumption) ?_
                      (try simp only [Act.put, List.setIfInBounds_toArray, List.set_cons_zero, List.set_cons_succ])
                      refine wpAnyH_take (i := 23) (oi := { dst := some 91, op := Op.call { callee := Callee.value (Operand.func 50), args := #[Operand.tmp 86, Operand.tmp 90], argTypes := #[23, 23] }, type := 4, pos := "ref.go:32", after := #[{ on := 18, ground := Ground.data }, { on := 22, ground := Ground.data }, { on := 14, ground := Ground.chain }, { on := 14, ground := Ground.guard }], guard := some (14, true) }) (v := undef) rfl (by kernel_rfl) (by kernel_rfl) (by kernel_rfl) (fun _ _ _ h => h) (Or.inr ⟨by rfl, rfl⟩) (by assumption) ?_
                      (try simp only [Act.put, List.setIfInBounds_toArray, List.set_cons_zero, List.set_cons_succ])
                      refine wpAnyH_take (i := 24) (oi := { dst := some 92, op := Op.pick (Operand.tmp 82) (Operand.tmp 91) (Operand.const (Value.bool false)), type := 4, pos := "ref.go:32", after := #[{ on := 14, ground := Ground.data }, { on := 23, ground := Ground.data }], guard := none }) (v := ?_) rfl (by kernel_rfl) (by kernel_rfl) (by kernel_rfl) (fun _ _ _ h => h) (Or.inl ⟨by rfl, ?_⟩) (by assumption) ?_
                      rotate_left
                      · intro w hSw; (try dsimp only at hSw); go_simp; try with_reducible rfl
                      (try simp only [Act.put, List.setIfInBounds_toArray, List.set_cons_zero, List.set_cons_succ])
                      refine wpAnyH_done (by kernel_rfl) ?_ _
                      clear hHeld
                      have HAB := Lib.hid (HNO.out (.inl hki))
                      go_wp2
                      go_roundw
                      case rel => exact ⟨k + 1, by omega, by go_num, by rw [HAB.out], HBd.out, O6.out⟩
                      case measure => simp [intOf]; omega
                    · have dki : ((k : Int) != (i : Int)) = true := by rw [bne, beq_eq_false_iff_ne.2 (show (k : Int) ≠ i by omega)]; rfl
                      have HNO := Lib.hid (fun (h : k = i ∨ ¬ vi ≤ vk ∨ MB.withinB [x0, x1, x2, x3, x4, x5] [y0, y1, y2, y3, y4, y5] 6 = false) => (show abvB L [q0, q1, q2, q3, q4, q5] i (k + 1) = abvB L [q0, q1, q2, q3, q4, q5] i k from abv_yes (by
                        rw [HBD.out]
                        rcases h with h | h | h
                        · exact absurd h hki
                        · rw [decide_eq_false h]; simp
                        · rw [h]; simp)))
                      have HYES := Lib.hid (fun (h1 : vi ≤ vk) (h : MB.withinB [x0, x1, x2, x3, x4, x5] [y0, y1, y2, y3, y4, y5] 6 = true) => (show abvB L [q0, q1, q2, q3, q4, q5] i (k + 1) = false from abv_no (by rw [HBD.out, decide_eq_true hki, decide_eq_true h1, h]; rfl)))
                      generalize abvB L [q0, q1, q2, q3, q4, q5] i k = ab at *
                      go_wp2_with fail
                      clear HBw2 O6'
                      have HBd := HB22
                      have O6 := O22
                      refine wp_region_held_drew (S := fun w' => Below w5.heap.size w5 w') hmo HB22.out (fun hHeld => ?_)
                      clear HB22 O22
                      generalize wr.drew = Y at *
                      by_cases hge : vi ≤ vk
                      · have dge : decide (vi ≤ vk) = true := decide_eq_true hge
                        have HYES := Lib.hid (HYES.out hge)
                        refine wpAnyH_take (i := 0) (oi := { dst := some 68, op := Op.move (Operand.tmp 12), type := 3, pos := "ref.go:32", after := #[], guard := none }) (v := ?_) rfl (by kernel_rfl) (by kernel_rfl) (by kernel_rfl) (fun _ _ _ h => h) (Or.inl ⟨by rfl, ?_⟩) (by assumption) ?_
                        rotate_left
                        · intro w hSw; (try dsimp only at hSw); go_simp; try with_reducible rfl
                        (try simp only [Act.put, List.setIfInBounds_toArray, List.set_cons_zero, List.set_cons_succ])
                        refine wpAnyH_take (i := 1) (oi := { dst := some 69, op := Op.move (Operand.tmp 10), type := 3, pos := "ref.go:32", after := #[], guard := none }) (v := ?_) rfl (by kernel_rfl) (by kernel_rfl) (by kernel_rfl) (fun _ _ _ h => h) (Or.inl ⟨by rfl, ?_⟩) (by assumption) ?_
                        rotate_left
                        · intro w hSw; (try dsimp only at hSw); go_simp; try with_reducible rfl
                        (try simp only [Act.put, List.setIfInBounds_toArray, List.set_cons_zero, List.set_cons_succ])
                        refine wpAnyH_take (i := 2) (oi := { dst := some 70, op := Op.binOp BinOp.neq 3 (Operand.tmp 68) (Operand.tmp 69) 3, type := 4, pos := "ref.go:32", after := #[{ on := 0, ground := Ground.data }, { on := 1, ground := Ground.data }], guard := none }) (v := ?_) rfl (by kernel_rfl) (by kernel_rfl) (by kernel_rfl) (fun _ _ _ h => h) (Or.inl ⟨by rfl, ?_⟩) (by assumption) ?_
                        rotate_left
                        · intro w hSw; (try dsimp only at hSw); have ck := CK.out w hSw; go_simp; try with_reducible rfl
                        (try simp only [Act.put, List.setIfInBounds_toArray, List.set_cons_zero, List.set_cons_succ])
                        refine wpAnyH_take (i := 3) (oi := { dst := some 71, op := Op.move (Operand.tmp 70), type := 4, pos := "ref.go:32", after := #[{ on := 2, ground := Ground.data }], guard := none }) (v := ?_) rfl (by kernel_rfl) (by kernel_rfl) (by kernel_rfl) (fun _ _ _ h => h) (Or.inl ⟨by rfl, ?_⟩) (by assumption) ?_
                        rotate_left
                        · intro w hSw; (try dsimp only at hSw); go_simp; try with_reducible rfl
                        (try simp only [Act.put, List.setIfInBounds_toArray, List.set_cons_zero, List.set_cons_succ])
                        refine wpAnyH_take (i := 4) (oi := { dst := some 72, op := Op.move (Operand.tmp 0), type := 34, pos := "ref.go:32", after := #[{ on := 3, ground := Ground.guard }], guard := some (3, true) }) (v := ?_) rfl (by kernel_rfl) (by kernel_rfl) (by kernel_rfl) (fun _ _ _ h => h) (Or.inl ⟨by rfl, ?_⟩) (by assumption) ?_
                        rotate_left
                        · intro w hSw; (try dsimp only at hSw); go_simp; try with_reducible rfl
                        (try simp only [Act.put, List.setIfInBounds_toArray, List.set_cons_zero, List.set_cons_succ])
                        refine wpAnyH_take (i := 5) (oi := { dst := some 73, op := Op.move (Operand.tmp 12), type := 3, pos := "ref.go:32", after := #[{ on := 3, ground := Ground.guard }], guard := some (3, true) }) (v := ?_) rfl (by kernel_rfl) (by kernel_rfl) (by kernel_rfl) (fun _ _ _ h => h) (Or.inl ⟨by rfl, ?_⟩) (by assumption) ?_
                        rotate_left
                        · intro w hSw; (try dsimp only at hSw); go_simp; try with_reducible rfl
                        (try simp only [Act.put, List.setIfInBounds_toArray, List.set_cons_zero, List.set_cons_succ])
                        refine wpAnyH_take (i := 6) (oi := { dst := some 74, op := Op.indexAddr 34 (Operand.tmp 72) (Operand.tmp 73), type := 0, pos := "ref.go:32", after := #[{ on := 4, ground := Ground.data }, { on := 5, ground := Ground.data }, { on := 3, ground := Ground.guard }], guard := some (3, true) }) (v := ?_) rfl (by kernel_rfl) (by kernel_rfl) (by kernel_rfl) (fun _ _ _ h => h) (Or.inl ⟨by rfl, ?_⟩) (by assumption) ?_
                        rotate_left
                        · intro w hSw; (try dsimp only at hSw); have ck := CK.out w hSw; go_simp; try with_reducible rfl
                        (try simp only [Act.put, List.setIfInBounds_toArray, List.set_cons_zero, List.set_cons_succ])
                        refine wpAnyH_take (i := 7) (oi := { dst := some 75, op := Op.load 2 (Operand.tmp 74), type := 2, pos := "ref.go:32", after := #[{ on := 6, ground := Ground.data }, { on := 3, ground := Ground.guard }], guard := some (3, true) }) (v := ?_) rfl (by kernel_rfl) (by kernel_rfl) (by kernel_rfl) (fun _ _ _ h => h) (Or.inl ⟨by rfl, ?_⟩) (by assumption) ?_
                        rotate_left
                        · intro w hSw; (try dsimp only at hSw); have ck := CK.out w hSw; go_simp; try with_reducible rfl
                        (try simp only [Act.put, List.setIfInBounds_toArray, List.set_cons_zero, List.set_cons_succ])
                        refine wpAnyH_take (i := 8) (oi := { dst := some 76, op := Op.move (Operand.tmp 0), type := 34, pos := "ref.go:32", after := #[{ on := 3, ground := Ground.guard }], guard := some (3, true) }) (v := ?_) rfl (by kernel_rfl) (by kernel_rfl) (by kernel_rfl) (fun _ _ _ h => h) (Or.inl ⟨by rfl, ?_⟩) (by assumption) ?_
                        rotate_left
                        · intro w hSw; (try dsimp only at hSw); go_simp; try with_reducible rfl
                        (try simp only [Act.put, List.setIfInBounds_toArray, List.set_cons_zero, List.set_cons_succ])
                        refine wpAnyH_take (i := 9) (oi := { dst := some 77, op := Op.move (Operand.tmp 10), type := 3, pos := "ref.go:32", after := #[{ on := 3, ground := Ground.guard }], guard := some (3, true) }) (v := ?_) rfl (by kernel_rfl) (by kernel_rfl) (by kernel_rfl) (fun _ _ _ h => h) (Or.inl ⟨by rfl, ?_⟩) (by assumption) ?_
                        rotate_left
                        · intro w hSw; (try dsimp only at hSw); go_simp; try with_reducible rfl
                        (try simp only [Act.put, List.setIfInBounds_toArray, List.set_cons_zero, List.set_cons_succ])
                        refine wpAnyH_take (i := 10) (oi := { dst := some 78, op := Op.indexAddr 34 (Operand.tmp 76) (Operand.tmp 77), type := 0, pos := "ref.go:32", after := #[{ on := 8, ground := Ground.data }, { on := 9, ground := Ground.data }, { on := 3, ground := Ground.guard }], guard := some (3, true) }) (v := ?_) rfl (by kernel_rfl) (by kernel_rfl) (by kernel_rfl) (fun _ _ _ h => h) (Or.inl ⟨by rfl, ?_⟩) (by assumption) ?_
                        rotate_left
                        · intro w hSw; (try dsimp only at hSw); have ci := CI.out w hSw; go_simp; try with_reducible rfl
                        (try simp only [Act.put, List.setIfInBounds_toArray, List.set_cons_zero, List.set_cons_succ])
                        refine wpAnyH_take (i := 11) (oi := { dst := some 79, op := Op.load 2 (Operand.tmp 78), type := 2, pos := "ref.go:32", after := #[{ on := 10, ground := Ground.data }, { on := 3, ground := Ground.guard }], guard := some (3, true) }) (v := ?_) rfl (by kernel_rfl) (by kernel_rfl) (by kernel_rfl) (fun _ _ _ h => h) (Or.inl ⟨by rfl, ?_⟩) (by assumption) ?_
                        rotate_left
                        · intro w hSw; (try dsimp only at hSw); have ci := CI.out w hSw; go_simp; try with_reducible rfl
                        (try simp only [Act.put, List.setIfInBounds_toArray, List.set_cons_zero, List.set_cons_succ])
                        refine wpAnyH_take (i := 12) (oi := { dst := some 80, op := Op.binOp BinOp.geq 2 (Operand.tmp 75) (Operand.tmp 79) 2, type := 4, pos := "ref.go:32", after := #[{ on := 7, ground := Ground.data }, { on := 11, ground := Ground.data }, { on := 3, ground := Ground.guard }], guard := some (3, true) }) (v := ?_) rfl (by kernel_rfl) (by kernel_rfl) (by kernel_rfl) (fun _ _ _ h => h) (Or.inl ⟨by rfl, ?_⟩) (by assumption) ?_
                        rotate_left
                        · intro w hSw; (try dsimp only at hSw); go_simp; try with_reducible rfl
                        (try simp only [Act.put, List.setIfInBounds_toArray, List.set_cons_zero, List.set_cons_succ])
                        refine wpAnyH_take (i := 13) (oi := { dst := some 81, op := Op.pick (Operand.tmp 71) (Operand.tmp 80) (Operand.const (Value.bool false)), type := 4, pos := "ref.go:32", after := #[{ on := 3, ground := Ground.data }, { on := 12, ground := Ground.data }], guard := none }) (v := ?_) rfl (by kernel_rfl) (by kernel_rfl) (by kernel_rfl) (fun _ _ _ h => h) (Or.inl ⟨by rfl, ?_⟩) (by assumption) ?_
                        rotate_left
                        · intro w hSw; (try dsimp only at hSw); go_simp; try with_reducible rfl
                        (try simp only [Act.put, List.setIfInBounds_toArray, List.set_cons_zero, List.set_cons_succ])
                        refine wpAnyH_take (i := 14) (oi := { dst := some 82, op := Op.move (Operand.tmp 81), type := 4, pos := "ref.go:32", after := #[{ on := 13, ground := Ground.data }, { on := 3, ground := Ground.chain }], guard := none }) (v := ?_) rfl (by kernel_rfl) (by kernel_rfl) (by kernel_rfl) (fun _ _ _ h => h) (Or.inl ⟨by rfl, ?_⟩) (by assumption) ?_
                        rotate_left
                        · intro w hSw; (try dsimp only at hSw); go_simp; try with_reducible rfl
                        (try simp only [Act.put, List.setIfInBounds_toArray, List.set_cons_zero, List.set_cons_succ])
                        refine wpAnyH_take (i := 15) (oi := { dst := some 83, op := Op.move (Operand.tmp 9), type := 40, pos := "ref.go:32", after := #[{ on := 14, ground := Ground.guard }], guard := some (14, true) }) (v := ?_) rfl (by kernel_rfl) (by kernel_rfl) (by kernel_rfl) (fun _ _ _ h => h) (Or.inl ⟨by rfl, ?_⟩) (by assumption) ?_
                        rotate_left
                        · intro w hSw; (try dsimp only at hSw); go_simp; try with_reducible rfl
                        (try simp only [Act.put, List.setIfInBounds_toArray, List.set_cons_zero, List.set_cons_succ])
                        refine wpAnyH_take (i := 16) (oi := { dst := some 84, op := Op.move (Operand.tmp 12), type := 3, pos := "ref.go:32", after := #[{ on := 14, ground := Ground.guard }], guard := some (14, true) }) (v := ?_) rfl (by kernel_rfl) (by kernel_rfl) (by kernel_rfl) (fun _ _ _ h => h) (Or.inl ⟨by rfl, ?_⟩) (by assumption) ?_
                        rotate_left
                        · intro w hSw; (try dsimp only at hSw); go_simp; try with_reducible rfl
                        (try simp only [Act.put, List.setIfInBounds_toArray, List.set_cons_zero, List.set_cons_succ])
                        refine wpAnyH_take (i := 17) (oi := { dst := some 85, op := Op.indexAddr 40 (Operand.tmp 83) (Operand.tmp 84), type := 0, pos := "ref.go:32", after := #[{ on := 15, ground := Ground.data }, { on := 16, ground := Ground.data }, { on := 14, ground := Ground.guard }], guard := some (14, true) }) (v := ?_) rfl (by kernel_rfl) (by kernel_rfl) (by kernel_rfl) (fun _ _ _ h => h) (Or.inl ⟨by rfl, ?_⟩) (by assumption) ?_
                        rotate_left
                        · intro w hSw; (try dsimp only at hSw); obtain ⟨u0, u1, u2, u3, u4, u5⟩ := PK.out w hSw; go_simp; try with_reducible rfl
                        (try simp only [Act.put, List.setIfInBounds_toArray, List.set_cons_zero, List.set_cons_succ])
                        refine wpAnyH_take (i := 18) (oi := { dst := some 86, op := Op.load 23 (Operand.tmp 85), type := 23, pos := "ref.go:32", after := #[{ on := 17, ground := Ground.data }, { on := 14, ground := Ground.guard }], guard := some (14, true) }) (v := ?_) rfl (by kernel_rfl) (by kernel_rfl) (by kernel_rfl) (fun _ _ _ h => h) (Or.inl ⟨by rfl, ?_⟩) (by assumption) ?_
                        rotate_left
                        · intro w hSw; (try dsimp only at hSw); obtain ⟨u0, u1, u2, u3, u4, u5⟩ := PK.out w hSw; go_simp; try with_reducible rfl
                        (try simp only [Act.put, List.setIfInBounds_toArray, List.set_cons_zero, List.set_cons_succ])
                        refine wpAnyH_take (i := 19) (oi := { dst := some 87, op := Op.move (Operand.tmp 9), type := 40, pos := "ref.go:32", after := #[{ on := 14, ground := Ground.guard }], guard := some (14, true) }) (v := ?_) rfl (by kernel_rfl) (by kernel_rfl) (by kernel_rfl) (fun _ _ _ h => h) (Or.inl ⟨by rfl, ?_⟩) (by assumption) ?_
                        rotate_left
                        · intro w hSw; (try dsimp only at hSw); go_simp; try with_reducible rfl
                        (try simp only [Act.put, List.setIfInBounds_toArray, List.set_cons_zero, List.set_cons_succ])
                        refine wpAnyH_take (i := 20) (oi := { dst := some 88, op := Op.move (Operand.tmp 10), type := 3, pos := "ref.go:32", after := #[{ on := 14, ground := Ground.guard }], guard := some (14, true) }) (v := ?_) rfl (by kernel_rfl) (by kernel_rfl) (by kernel_rfl) (fun _ _ _ h => h) (Or.inl ⟨by rfl, ?_⟩) (by assumption) ?_
                        rotate_left
                        · intro w hSw; (try dsimp only at hSw); go_simp; try with_reducible rfl
                        (try simp only [Act.put, List.setIfInBounds_toArray, List.set_cons_zero, List.set_cons_succ])
                        refine wpAnyH_take (i := 21) (oi := { dst := some 89, op := Op.indexAddr 40 (Operand.tmp 87) (Operand.tmp 88), type := 0, pos := "ref.go:32", after := #[{ on := 19, ground := Ground.data }, { on := 20, ground := Ground.data }, { on := 14, ground := Ground.guard }], guard := some (14, true) }) (v := ?_) rfl (by kernel_rfl) (by kernel_rfl) (by kernel_rfl) (fun _ _ _ h => h) (Or.inl ⟨by rfl, ?_⟩) (by assumption) ?_
                        rotate_left
                        · intro w hSw; (try dsimp only at hSw); obtain ⟨v0, v1, v2, v3, v4, v5⟩ := PI.out w hSw; go_simp; try with_reducible rfl
                        (try simp only [Act.put, List.setIfInBounds_toArray, List.set_cons_zero, List.set_cons_succ])
                        refine wpAnyH_take (i := 22) (oi := { dst := some 90, op := Op.load 23 (Operand.tmp 89), type := 23, pos := "ref.go:32", after := #[{ on := 21, ground := Ground.data }, { on := 14, ground := Ground.guard }], guard := some (14, true) }) (v := ?_) rfl (by kernel_rfl) (by kernel_rfl) (by kernel_rfl) (fun _ _ _ h => h) (Or.inl ⟨by rfl, ?_⟩) (by assumption) ?_
                        rotate_left
                        · intro w hSw; (try dsimp only at hSw); obtain ⟨v0, v1, v2, v3, v4, v5⟩ := PI.out w hSw; go_simp; try with_reducible rfl
                        (try simp only [Act.put, List.setIfInBounds_toArray, List.set_cons_zero, List.set_cons_succ])
                        refine wpAnyH_ready (rs := [23]) (by kernel_rfl) (by simp) ?_
                        refine AllReadyH.cons (o := { dst := some 91, op := Op.call { callee := Callee.value (Operand.func 50), args := #[Operand.tmp 86, Operand.tmp 90], argTypes := #[23, 23] }, type := 4, pos := "ref.go:32", after := #[{ on := 18, ground := Ground.data }, { on := 22, ground := Ground.data }, { on := 14, ground := Ground.chain }, { on := 14, ground := Ground.guard }], guard := some (14, true) }) rfl (fun K hK => ?_) AllReadyH.nil
                        go_simp
                        refine (rwithin_any x0 x1 x2 x3 x4 x5 y0 y1 y2 y3 y4 y5 _).mono ?_
                        rintro ev w7 ⟨rfl, nb⟩
                        have HB7 := Lib.hid (HBd.out.trans (nb.mono HBd.out.size))
                        have O7 := Lib.hid (O6.out.keep nb)
                        clear nb HBd O6
                        refine hK.out _ _ ?_ (fun hHeld => ?_)
                        · exact HB7.out
                        clear hK K
                        (try simp only [Act.put, List.setIfInBounds_toArray, List.set_cons_zero, List.set_cons_succ])
                        refine wpAnyH_take (i := 24) (oi := { dst := some 92, op := Op.pick (Operand.tmp 82) (Operand.tmp 91) (Operand.const (Value.bool false)), type := 4, pos := "ref.go:32", after := #[{ on := 14, ground := Ground.data }, { on := 23, ground := Ground.data }], guard := none }) (v := ?_) rfl (by kernel_rfl) (by kernel_rfl) (by kernel_rfl) (fun _ _ _ h => h) (Or.inl ⟨by rfl, ?_⟩) (by assumption) ?_
                        rotate_left
                        · intro w hSw; (try dsimp only at hSw); go_simp; try with_reducible rfl
                        (try simp only [Act.put, List.setIfInBounds_toArray, List.set_cons_zero, List.set_cons_succ])
                        refine wpAnyH_done (by kernel_rfl) ?_ _
                        clear hHeld
                        cases hwi : MB.withinB [x0, x1, x2, x3, x4, x5] [y0, y1, y2, y3, y4, y5] 6 with
                        | true =>
                          have HAB := Lib.hid (HYES.out hwi)
                          go_wp2
                          go_roundw
                          case rel => exact ⟨k + 1, by omega, by go_num, by rw [HAB.out], HB7.out, O7.out⟩
                          case measure => simp [intOf]; omega
                        | false =>
                          have HAB := Lib.hid (HNO.out (.inr (.inr hwi)))
                          go_wp2
                          go_roundw
                          case rel => exact ⟨k + 1, by omega, by go_num, by rw [HAB.out], HB7.out, O7.out⟩
                          case measure => simp [intOf]; omega
                      · have dge : decide (vi ≤ vk) = false := decide_eq_false hge
                        refine wpAnyH_take (i := 0) (oi := { dst := some 68, op := Op.move (Operand.tmp 12), type := 3, pos := "ref.go:32", after := #[], guard := none }) (v := ?_) rfl (by kernel_rfl) (by kernel_rfl) (by kernel_rfl) (fun _ _ _ h => h) (Or.inl ⟨by rfl, ?_⟩) (by assumption) ?_
                        rotate_left
                        · intro w hSw; (try dsimp only at hSw); go_simp; try with_reducible rfl
                        (try simp only [Act.put, List.setIfInBounds_toArray, List.set_cons_zero, List.set_cons_succ])
                        refine wpAnyH_take (i := 1) (oi := { dst := some 69, op := Op.move (Operand.tmp 10), type := 3, pos := "ref.go:32", after := #[], guard := none }) (v := ?_) rfl (by kernel_rfl) (by kernel_rfl) (by kernel_rfl) (fun _ _ _ h => h) (Or.inl ⟨by rfl, ?_⟩) (by assumption) ?_
                        rotate_left
                        · intro w hSw; (try dsimp only at hSw); go_simp; try with_reducible rfl
                        (try simp only [Act.put, List.setIfInBounds_toArray, List.set_cons_zero, List.set_cons_succ])
                        refine wpAnyH_take (i := 2) (oi := { dst := some 70, op := Op.binOp BinOp.neq 3 (Operand.tmp 68) (Operand.tmp 69) 3, type := 4, pos := "ref.go:32", after := #[{ on := 0, ground := Ground.data }, { on := 1, ground := Ground.data }], guard := none }) (v := ?_) rfl (by kernel_rfl) (by kernel_rfl) (by kernel_rfl) (fun _ _ _ h => h) (Or.inl ⟨by rfl, ?_⟩) (by assumption) ?_
                        rotate_left
                        · intro w hSw; (try dsimp only at hSw); have ck := CK.out w hSw; go_simp; try with_reducible rfl
                        (try simp only [Act.put, List.setIfInBounds_toArray, List.set_cons_zero, List.set_cons_succ])
                        refine wpAnyH_take (i := 3) (oi := { dst := some 71, op := Op.move (Operand.tmp 70), type := 4, pos := "ref.go:32", after := #[{ on := 2, ground := Ground.data }], guard := none }) (v := ?_) rfl (by kernel_rfl) (by kernel_rfl) (by kernel_rfl) (fun _ _ _ h => h) (Or.inl ⟨by rfl, ?_⟩) (by assumption) ?_
                        rotate_left
                        · intro w hSw; (try dsimp only at hSw); go_simp; try with_reducible rfl
                        (try simp only [Act.put, List.setIfInBounds_toArray, List.set_cons_zero, List.set_cons_succ])
                        refine wpAnyH_take (i := 4) (oi := { dst := some 72, op := Op.move (Operand.tmp 0), type := 34, pos := "ref.go:32", after := #[{ on := 3, ground := Ground.guard }], guard := some (3, true) }) (v := ?_) rfl (by kernel_rfl) (by kernel_rfl) (by kernel_rfl) (fun _ _ _ h => h) (Or.inl ⟨by rfl, ?_⟩) (by assumption) ?_
                        rotate_left
                        · intro w hSw; (try dsimp only at hSw); go_simp; try with_reducible rfl
                        (try simp only [Act.put, List.setIfInBounds_toArray, List.set_cons_zero, List.set_cons_succ])
                        refine wpAnyH_take (i := 5) (oi := { dst := some 73, op := Op.move (Operand.tmp 12), type := 3, pos := "ref.go:32", after := #[{ on := 3, ground := Ground.guard }], guard := some (3, true) }) (v := ?_) rfl (by kernel_rfl) (by kernel_rfl) (by kernel_rfl) (fun _ _ _ h => h) (Or.inl ⟨by rfl, ?_⟩) (by assumption) ?_
                        rotate_left
                        · intro w hSw; (try dsimp only at hSw); go_simp; try with_reducible rfl
                        (try simp only [Act.put, List.setIfInBounds_toArray, List.set_cons_zero, List.set_cons_succ])
                        refine wpAnyH_take (i := 6) (oi := { dst := some 74, op := Op.indexAddr 34 (Operand.tmp 72) (Operand.tmp 73), type := 0, pos := "ref.go:32", after := #[{ on := 4, ground := Ground.data }, { on := 5, ground := Ground.data }, { on := 3, ground := Ground.guard }], guard := some (3, true) }) (v := ?_) rfl (by kernel_rfl) (by kernel_rfl) (by kernel_rfl) (fun _ _ _ h => h) (Or.inl ⟨by rfl, ?_⟩) (by assumption) ?_
                        rotate_left
                        · intro w hSw; (try dsimp only at hSw); have ck := CK.out w hSw; go_simp; try with_reducible rfl
                        (try simp only [Act.put, List.setIfInBounds_toArray, List.set_cons_zero, List.set_cons_succ])
                        refine wpAnyH_take (i := 7) (oi := { dst := some 75, op := Op.load 2 (Operand.tmp 74), type := 2, pos := "ref.go:32", after := #[{ on := 6, ground := Ground.data }, { on := 3, ground := Ground.guard }], guard := some (3, true) }) (v := ?_) rfl (by kernel_rfl) (by kernel_rfl) (by kernel_rfl) (fun _ _ _ h => h) (Or.inl ⟨by rfl, ?_⟩) (by assumption) ?_
                        rotate_left
                        · intro w hSw; (try dsimp only at hSw); have ck := CK.out w hSw; go_simp; try with_reducible rfl
                        (try simp only [Act.put, List.setIfInBounds_toArray, List.set_cons_zero, List.set_cons_succ])
                        refine wpAnyH_take (i := 8) (oi := { dst := some 76, op := Op.move (Operand.tmp 0), type := 34, pos := "ref.go:32", after := #[{ on := 3, ground := Ground.guard }], guard := some (3, true) }) (v := ?_) rfl (by kernel_rfl) (by kernel_rfl) (by kernel_rfl) (fun _ _ _ h => h) (Or.inl ⟨by rfl, ?_⟩) (by assumption) ?_
                        rotate_left
                        · intro w hSw; (try dsimp only at hSw); go_simp; try with_reducible rfl
                        (try simp only [Act.put, List.setIfInBounds_toArray, List.set_cons_zero, List.set_cons_succ])
                        refine wpAnyH_take (i := 9) (oi := { dst := some 77, op := Op.move (Operand.tmp 10), type := 3, pos := "ref.go:32", after := #[{ on := 3, ground := Ground.guard }], guard := some (3, true) }) (v := ?_) rfl (by kernel_rfl) (by kernel_rfl) (by kernel_rfl) (fun _ _ _ h => h) (Or.inl ⟨by rfl, ?_⟩) (by assumption) ?_
                        rotate_left
                        · intro w hSw; (try dsimp only at hSw); go_simp; try with_reducible rfl
                        (try simp only [Act.put, List.setIfInBounds_toArray, List.set_cons_zero, List.set_cons_succ])
                        refine wpAnyH_take (i := 10) (oi := { dst := some 78, op := Op.indexAddr 34 (Operand.tmp 76) (Operand.tmp 77), type := 0, pos := "ref.go:32", after := #[{ on := 8, ground := Ground.data }, { on := 9, ground := Ground.data }, { on := 3, ground := Ground.guard }], guard := some (3, true) }) (v := ?_) rfl (by kernel_rfl) (by kernel_rfl) (by kernel_rfl) (fun _ _ _ h => h) (Or.inl ⟨by rfl, ?_⟩) (by assumption) ?_
                        rotate_left
                        · intro w hSw; (try dsimp only at hSw); have ci := CI.out w hSw; go_simp; try with_reducible rfl
                        (try simp only [Act.put, List.setIfInBounds_toArray, List.set_cons_zero, List.set_cons_succ])
                        refine wpAnyH_take (i := 11) (oi := { dst := some 79, op := Op.load 2 (Operand.tmp 78), type := 2, pos := "ref.go:32", after := #[{ on := 10, ground := Ground.data }, { on := 3, ground := Ground.guard }], guard := some (3, true) }) (v := ?_) rfl (by kernel_rfl) (by kernel_rfl) (by kernel_rfl) (fun _ _ _ h => h) (Or.inl ⟨by rfl, ?_⟩) (by assumption) ?_
                        rotate_left
                        · intro w hSw; (try dsimp only at hSw); have ci := CI.out w hSw; go_simp; try with_reducible rfl
                        (try simp only [Act.put, List.setIfInBounds_toArray, List.set_cons_zero, List.set_cons_succ])
                        refine wpAnyH_take (i := 12) (oi := { dst := some 80, op := Op.binOp BinOp.geq 2 (Operand.tmp 75) (Operand.tmp 79) 2, type := 4, pos := "ref.go:32", after := #[{ on := 7, ground := Ground.data }, { on := 11, ground := Ground.data }, { on := 3, ground := Ground.guard }], guard := some (3, true) }) (v := ?_) rfl (by kernel_rfl) (by kernel_rfl) (by kernel_rfl) (fun _ _ _ h => h) (Or.inl ⟨by rfl, ?_⟩) (by assumption) ?_
                        rotate_left
                        · intro w hSw; (try dsimp only at hSw); go_simp; try with_reducible rfl
                        (try simp only [Act.put, List.setIfInBounds_toArray, List.set_cons_zero, List.set_cons_succ])
                        refine wpAnyH_take (i := 13) (oi := { dst := some 81, op := Op.pick (Operand.tmp 71) (Operand.tmp 80) (Operand.const (Value.bool false)), type := 4, pos := "ref.go:32", after := #[{ on := 3, ground := Ground.data }, { on := 12, ground := Ground.data }], guard := none }) (v := ?_) rfl (by kernel_rfl) (by kernel_rfl) (by kernel_rfl) (fun _ _ _ h => h) (Or.inl ⟨by rfl, ?_⟩) (by assumption) ?_
                        rotate_left
                        · intro w hSw; (try dsimp only at hSw); go_simp; try with_reducible rfl
                        (try simp only [Act.put, List.setIfInBounds_toArray, List.set_cons_zero, List.set_cons_succ])
                        refine wpAnyH_take (i := 14) (oi := { dst := some 82, op := Op.move (Operand.tmp 81), type := 4, pos := "ref.go:32", after := #[{ on := 13, ground := Ground.data }, { on := 3, ground := Ground.chain }], guard := none }) (v := ?_) rfl (by kernel_rfl) (by kernel_rfl) (by kernel_rfl) (fun _ _ _ h => h) (Or.inl ⟨by rfl, ?_⟩) (by assumption) ?_
                        rotate_left
                        · intro w hSw; (try dsimp only at hSw); go_simp; try with_reducible rfl
                        (try simp only [Act.put, List.setIfInBounds_toArray, List.set_cons_zero, List.set_cons_succ])
                        refine wpAnyH_take (i := 15) (oi := { dst := some 83, op := Op.move (Operand.tmp 9), type := 40, pos := "ref.go:32", after := #[{ on := 14, ground := Ground.guard }], guard := some (14, true) }) (v := undef) rfl (by kernel_rfl) (by kernel_rfl) (by kernel_rfl) (fun _ _ _ h => h) (Or.inr ⟨by rfl, rfl⟩) (by assumption) ?_
                        (try simp only [Act.put, List.setIfInBounds_toArray, List.set_cons_zero, List.set_cons_succ])
                        refine wpAnyH_take (i := 16) (oi := { dst := some 84, op := Op.move (Operand.tmp 12), type := 3, pos := "ref.go:32", after := #[{ on := 14, ground := Ground.guard }], guard := some (14, true) }) (v := undef) rfl (by kernel_rfl) (by kernel_rfl) (by kernel_rfl) (fun _ _ _ h => h) (Or.inr ⟨by rfl, rfl⟩) (by assumption) ?_
                        (try simp only [Act.put, List.setIfInBounds_toArray, List.set_cons_zero, List.set_cons_succ])
                        refine wpAnyH_take (i := 17) (oi := { dst := some 85, op := Op.indexAddr 40 (Operand.tmp 83) (Operand.tmp 84), type := 0, pos := "ref.go:32", after := #[{ on := 15, ground := Ground.data }, { on := 16, ground := Ground.data }, { on := 14, ground := Ground.guard }], guard := some (14, true) }) (v := undef) rfl (by kernel_rfl) (by kernel_rfl) (by kernel_rfl) (fun _ _ _ h => h) (Or.inr ⟨by rfl, rfl⟩) (by assumption) ?_
                        (try simp only [Act.put, List.setIfInBounds_toArray, List.set_cons_zero, List.set_cons_succ])
                        refine wpAnyH_take (i := 18) (oi := { dst := some 86, op := Op.load 23 (Operand.tmp 85), type := 23, pos := "ref.go:32", after := #[{ on := 17, ground := Ground.data }, { on := 14, ground := Ground.guard }], guard := some (14, true) }) (v := undef) rfl (by kernel_rfl) (by kernel_rfl) (by kernel_rfl) (fun _ _ _ h => h) (Or.inr ⟨by rfl, rfl⟩) (by assumption) ?_
                        (try simp only [Act.put, List.setIfInBounds_toArray, List.set_cons_zero, List.set_cons_succ])
                        refine wpAnyH_take (i := 19) (oi := { dst := some 87, op := Op.move (Operand.tmp 9), type := 40, pos := "ref.go:32", after := #[{ on := 14, ground := Ground.guard }], guard := some (14, true) }) (v := undef) rfl (by kernel_rfl) (by kernel_rfl) (by kernel_rfl) (fun _ _ _ h => h) (Or.inr ⟨by rfl, rfl⟩) (by assumption) ?_
                        (try simp only [Act.put, List.setIfInBounds_toArray, List.set_cons_zero, List.set_cons_succ])
                        refine wpAnyH_take (i := 20) (oi := { dst := some 88, op := Op.move (Operand.tmp 10), type := 3, pos := "ref.go:32", after := #[{ on := 14, ground := Ground.guard }], guard := some (14, true) }) (v := undef) rfl (by kernel_rfl) (by kernel_rfl) (by kernel_rfl) (fun _ _ _ h => h) (Or.inr ⟨by rfl, rfl⟩) (by assumption) ?_
                        (try simp only [Act.put, List.setIfInBounds_toArray, List.set_cons_zero, List.set_cons_succ])
                        refine wpAnyH_take (i := 21) (oi := { dst := some 89, op := Op.indexAddr 40 (Operand.tmp 87) (Operand.tmp 88), type := 0, pos := "ref.go:32", after := #[{ on := 19, ground := Ground.data }, { on := 20, ground := Ground.data }, { on := 14, ground := Ground.guard }], guard := some (14, true) }) (v := undef) rfl (by kernel_rfl) (by kernel_rfl) (by kernel_rfl) (fun _ _ _ h => h) (Or.inr ⟨by rfl, rfl⟩) (by assumption) ?_
                        (try simp only [Act.put, List.setIfInBounds_toArray, List.set_cons_zero, List.set_cons_succ])
                        refine wpAnyH_take (i := 22) (oi := { dst := some 90, op := Op.load 23 (Operand.tmp 89), type := 23, pos := "ref.go:32", after := #[{ on := 21, ground := Ground.data }, { on := 14, ground := Ground.guard }], guard := some (14, true) }) (v := undef) rfl (by kernel_rfl) (by kernel_rfl) (by kernel_rfl) (fun _ _ _ h => h) (Or.inr ⟨by rfl, rfl⟩) (by assumption) ?_
                        (try simp only [Act.put, List.setIfInBounds_toArray, List.set_cons_zero, List.set_cons_succ])
                        refine wpAnyH_take (i := 23) (oi := { dst := some 91, op := Op.call { callee := Callee.value (Operand.func 50), args := #[Operand.tmp 86, Operand.tmp 90], argTypes := #[23, 23] }, type := 4, pos := "ref.go:32", after := #[{ on := 18, ground := Ground.data }, { on := 22, ground := Ground.data }, { on := 14, ground := Ground.chain }, { on := 14, ground := Ground.guard }], guard := some (14, true) }) (v := undef) rfl (by kernel_rfl) (by kernel_rfl) (by kernel_rfl) (fun _ _ _ h => h) (Or.inr ⟨by rfl, rfl⟩) (by assumption) ?_
                        (try simp only [Act.put, List.setIfInBounds_toArray, List.set_cons_zero, List.set_cons_succ])
                        refine wpAnyH_take (i := 24) (oi := { dst := some 92, op := Op.pick (Operand.tmp 82) (Operand.tmp 91) (Operand.const (Value.bool false)), type := 4, pos := "ref.go:32", after := #[{ on := 14, ground := Ground.data }, { on := 23, ground := Ground.data }], guard := none }) (v := ?_) rfl (by kernel_rfl) (by kernel_rfl) (by kernel_rfl) (fun _ _ _ h => h) (Or.inl ⟨by rfl, ?_⟩) (by assumption) ?_
                        rotate_left
                        · intro w hSw; (try dsimp only at hSw); go_simp; try with_reducible rfl
                        (try simp only [Act.put, List.setIfInBounds_toArray, List.set_cons_zero, List.set_cons_succ])
                        refine wpAnyH_done (by kernel_rfl) ?_ _
                        clear hHeld
                        have HAB := Lib.hid (HNO.out (.inr (.inl (by omega))))
                        go_wp2
                        go_roundw
                        case rel => exact ⟨k + 1, by omega, by go_num, by rw [HAB.out], HBd.out, O6.out⟩
                        case measure => simp [intOf]; omega
                  · have hkn : k = np := by omega
                    have HQ := Lib.hid (show abvB L [q0, q1, q2, q3, q4, q5] i k = decide (VV.subT (fT L [q0, q1, q2, q3, q4, q5]) [y0, y1, y2, y3, y4, y5] < vi) from by
                      rw [hkn, abv_all HBU.out HNC.out hlt hone HL0.out HTO.out, HYI.out]
                      have hrk : VV.rank [q0, q1, q2, q3, q4, q5] [y0, y1, y2, y3, y4, y5] = i := by rw [← HYI.out]; exact VV.rank_at (by have := HNC.out; omega)
                      have : fT L [q0, q1, q2, q3, q4, q5] [y0, y1, y2, y3, y4, y5] = vi := by unfold fT; rw [hrk, HVI.out]
                      rw [this])
                    have HFY := Lib.hid (show fT L [q0, q1, q2, q3, q4, q5] [y0, y1, y2, y3, y4, y5] = vi from by
                      have hrk : VV.rank [q0, q1, q2, q3, q4, q5] [y0, y1, y2, y3, y4, y5] = i := by rw [← HYI.out]; exact VV.rank_at (by have := HNC.out; omega)
                      unfold fT; rw [hrk, HVI.out])
                    have HTK := Lib.hid (show (VV.all [q0, q1, q2, q3, q4, q5]).take (i + 1) = (VV.all [q0, q1, q2, q3, q4, q5]).take i ++ [[y0, y1, y2, y3, y4, y5]] from by rw [offs_take (by have := HNC.out; omega), HYI.out])
                    rw [HQ.out]
                    clear hkn HQ
                    by_cases hab : VV.subT (fT L [q0, q1, q2, q3, q4, q5]) [y0, y1, y2, y3, y4, y5] < vi
                    · rw [decide_eq_true hab]
                      have HEQ := Lib.hid (show offs (fT L [q0, q1, q2, q3, q4, q5]) ((VV.all [q0, q1, q2, q3, q4, q5]).take i) ++ [(⟨0, y0, y1, y2, y3, y4, y5, vi⟩ : MF.Of)] = offs (fT L [q0, q1, q2, q3, q4, q5]) ((VV.all [q0, q1, q2, q3, q4, q5]).take (i + 1)) from by rw [HTK.out, offs_yes (by rw [HFY.out]; exact hab), HFY.out]; rfl)
                      have HOL := Lib.hid (show (offs (fT L [q0, q1, q2, q3, q4, q5]) ((VV.all [q0, q1, q2, q3, q4, q5]).take i)).length + 1 ≤ 1025 from by have h1 := offs_len (fT L [q0, q1, q2, q3, q4, q5]) ((VV.all [q0, q1, q2, q3, q4, q5]).take i); have h2 := List.length_take_le i (VV.all [q0, q1, q2, q3, q4, q5]); omega)
                      have HOF := Lib.hid (show ofE.fine ⟨0, y0, y1, y2, y3, y4, y5, vi⟩ from by
                        have g : ∀ j, j < 6 → 0 ≤ MB.at_ [y0, y1, y2, y3, y4, y5] j ∧ MB.at_ [y0, y1, y2, y3, y4, y5] j ≤ 4 := fun j hj => by
                          rw [← HYI.out]
                          have h1 := HBI.out.1.pos j hj; have h2 := HBI.out.2 j hj; have h3 := okB_at HOKB.out (k := j) (by simpa using hj); omega
                        have g0 : 0 ≤ y0 ∧ y0 ≤ 4 := g 0 (by decide)
                        have g1 : 0 ≤ y1 ∧ y1 ≤ 4 := g 1 (by decide)
                        have g2 : 0 ≤ y2 ∧ y2 ≤ 4 := g 2 (by decide)
                        have g3 : 0 ≤ y3 ∧ y3 ≤ 4 := g 3 (by decide)
                        have g4 : 0 ≤ y4 ∧ y4 ≤ 4 := g 4 (by decide)
                        have g5 : 0 ≤ y5 ∧ y5 ≤ 4 := g 5 (by decide)
                        have g6 := HVB.out
                        dsimp only [ofE]
                        omega)
                      clear hab HTK HFY
                      generalize VV.subT (fT L [q0, q1, q2, q3, q4, q5]) [y0, y1, y2, y3, y4, y5] = sb at *
                      generalize offs (fT L [q0, q1, q2, q3, q4, q5]) ((VV.all [q0, q1, q2, q3, q4, q5]).take i) = Os at *
                      go_wp2_with fail
                      have HBd := Lib.hid (HBw2.out.trans ((below_drawn wr).mono HBw2.out.size))
                      have O6 := Lib.hid (O6'.out.keep (below_drawn wr))
                      clear HBw2 O6'
                      refine wp_region_held_drew (S := fun w' => Below w5.heap.size w5 w') hmo HBd.out (fun hHeld => ?_)
                      generalize wr.drew = Y at *
                      refine wpAnyH_take (i := 0) (oi := { dst := some 94, op := Op.move (Operand.tmp 8), type := 29, pos := "ref.go:37", after := #[], guard := none }) (v := ?_) rfl (by kernel_rfl) (by kernel_rfl) (by kernel_rfl) (fun _ _ _ h => h) (Or.inl ⟨by rfl, ?_⟩) (by assumption) ?_
                      rotate_left
                      · intro w hSw; (try dsimp only at hSw); go_simp; try with_reducible rfl
                      (try simp only [Act.put, List.setIfInBounds_toArray, List.set_cons_zero, List.set_cons_succ])
                      refine wpAnyH_take (i := 1) (oi := { dst := some 95, op := Op.move (Operand.tmp 9), type := 40, pos := "ref.go:37", after := #[], guard := none }) (v := ?_) rfl (by kernel_rfl) (by kernel_rfl) (by kernel_rfl) (fun _ _ _ h => h) (Or.inl ⟨by rfl, ?_⟩) (by assumption) ?_
                      rotate_left
                      · intro w hSw; (try dsimp only at hSw); go_simp; try with_reducible rfl
                      (try simp only [Act.put, List.setIfInBounds_toArray, List.set_cons_zero, List.set_cons_succ])
                      refine wpAnyH_take (i := 2) (oi := { dst := some 96, op := Op.move (Operand.tmp 10), type := 3, pos := "ref.go:37", after := #[], guard := none }) (v := ?_) rfl (by kernel_rfl) (by kernel_rfl) (by kernel_rfl) (fun _ _ _ h => h) (Or.inl ⟨by rfl, ?_⟩) (by assumption) ?_
                      rotate_left
                      · intro w hSw; (try dsimp only at hSw); go_simp; try with_reducible rfl
                      (try simp only [Act.put, List.setIfInBounds_toArray, List.set_cons_zero, List.set_cons_succ])
                      refine wpAnyH_take (i := 3) (oi := { dst := some 97, op := Op.indexAddr 40 (Operand.tmp 95) (Operand.tmp 96), type := 0, pos := "ref.go:37", after := #[{ on := 1, ground := Ground.data }, { on := 2, ground := Ground.data }], guard := none }) (v := ?_) rfl (by kernel_rfl) (by kernel_rfl) (by kernel_rfl) (fun _ _ _ h => h) (Or.inl ⟨by rfl, ?_⟩) (by assumption) ?_
                      rotate_left
                      · intro w hSw; (try dsimp only at hSw); obtain ⟨v0, v1, v2, v3, v4, v5⟩ := PI.out w hSw; go_simp; try with_reducible rfl
                      (try simp only [Act.put, List.setIfInBounds_toArray, List.set_cons_zero, List.set_cons_succ])
                      refine wpAnyH_take (i := 4) (oi := { dst := some 98, op := Op.load 23 (Operand.tmp 97), type := 23, pos := "ref.go:37", after := #[{ on := 3, ground := Ground.data }], guard := none }) (v := ?_) rfl (by kernel_rfl) (by kernel_rfl) (by kernel_rfl) (fun _ _ _ h => h) (Or.inl ⟨by rfl, ?_⟩) (by assumption) ?_
                      rotate_left
                      · intro w hSw; (try dsimp only at hSw); obtain ⟨v0, v1, v2, v3, v4, v5⟩ := PI.out w hSw; go_simp; try with_reducible rfl
                      (try simp only [Act.put, List.setIfInBounds_toArray, List.set_cons_zero, List.set_cons_succ])
                      refine wpAnyH_take (i := 5) (oi := { dst := some 99, op := Op.move (Operand.tmp 0), type := 34, pos := "ref.go:37", after := #[], guard := none }) (v := ?_) rfl (by kernel_rfl) (by kernel_rfl) (by kernel_rfl) (fun _ _ _ h => h) (Or.inl ⟨by rfl, ?_⟩) (by assumption) ?_
                      rotate_left
                      · intro w hSw; (try dsimp only at hSw); go_simp; try with_reducible rfl
                      (try simp only [Act.put, List.setIfInBounds_toArray, List.set_cons_zero, List.set_cons_succ])
                      refine wpAnyH_take (i := 6) (oi := { dst := some 100, op := Op.move (Operand.tmp 10), type := 3, pos := "ref.go:37", after := #[], guard := none }) (v := ?_) rfl (by kernel_rfl) (by kernel_rfl) (by kernel_rfl) (fun _ _ _ h => h) (Or.inl ⟨by rfl, ?_⟩) (by assumption) ?_
                      rotate_left
                      · intro w hSw; (try dsimp only at hSw); go_simp; try with_reducible rfl
                      (try simp only [Act.put, List.setIfInBounds_toArray, List.set_cons_zero, List.set_cons_succ])
                      refine wpAnyH_take (i := 7) (oi := { dst := some 101, op := Op.indexAddr 34 (Operand.tmp 99) (Operand.tmp 100), type := 0, pos := "ref.go:37", after := #[{ on := 5, ground := Ground.data }, { on := 6, ground := Ground.data }], guard := none }) (v := ?_) rfl (by kernel_rfl) (by kernel_rfl) (by kernel_rfl) (fun _ _ _ h => h) (Or.inl ⟨by rfl, ?_⟩) (by assumption) ?_
                      rotate_left
                      · intro w hSw; (try dsimp only at hSw); have ci := CI.out w hSw; go_simp; try with_reducible rfl
                      (try simp only [Act.put, List.setIfInBounds_toArray, List.set_cons_zero, List.set_cons_succ])
                      refine wpAnyH_take (i := 8) (oi := { dst := some 102, op := Op.load 2 (Operand.tmp 101), type := 2, pos := "ref.go:37", after := #[{ on := 7, ground := Ground.data }], guard := none }) (v := ?_) rfl (by kernel_rfl) (by kernel_rfl) (by kernel_rfl) (fun _ _ _ h => h) (Or.inl ⟨by rfl, ?_⟩) (by assumption) ?_
                      rotate_left
                      · intro w hSw; (try dsimp only at hSw); have ci := CI.out w hSw; go_simp; try with_reducible rfl
                      (try simp only [Act.put, List.setIfInBounds_toArray, List.set_cons_zero, List.set_cons_succ])
                      refine wpAnyH_take (i := 9) (oi := { dst := some 103, op := Op.build 52 #[(1, Operand.tmp 98), (2, Operand.tmp 102)], type := 52, pos := "ref.go:37", after := #[{ on := 4, ground := Ground.data }, { on := 8, ground := Ground.data }], guard := none }) (v := ?_) rfl (by kernel_rfl) (by kernel_rfl) (by kernel_rfl) (fun _ _ _ h => h) (Or.inl ⟨by rfl, ?_⟩) (by assumption) ?_
                      rotate_left
                      · intro w hSw; (try dsimp only at hSw); go_simp; try with_reducible rfl
                      (try simp only [Act.put, List.setIfInBounds_toArray, List.set_cons_zero, List.set_cons_succ])
                      refine wpAnyH_ready (rs := [10]) (by kernel_rfl) (by simp) ?_
                      refine AllReadyH.cons (o := { dst := some 104, op := Op.buildSlice 29 1 #[(0, Operand.tmp 103)], type := 29, pos := "ref.go:37", after := #[{ on := 9, ground := Ground.data }], guard := none }) rfl (fun K hK => ?_) AllReadyH.nil
                      go_simp
                      have nb := below_new Y (.cells #[.int .i64 0, .int .i64 y0, .int .i64 y1, .int .i64 y2, .int .i64 y3, .int .i64 y4, .int .i64 y5, .int .i64 vi] 52)
                      have N6 := Lib.hid (heap_new Y (.cells #[.int .i64 0, .int .i64 y0, .int .i64 y1, .int .i64 y2, .int .i64 y3, .int .i64 y4, .int .i64 y5, .int .i64 vi] 52))
                      have O7 := Lib.hid (O6.out.keep nb)
                      have HB7 := Lib.hid (HBd.out.trans (nb.mono HBd.out.size))
                      clear nb O6 HBd
                      refine hK.out _ _ ?_ (fun hHeld => ?_)
                      · exact HB7.out
                      obtain ⟨w6, hw6⟩ : ∃ w6, w6 = Y.alloc (.cells #[.int .i64 0, .int .i64 y0, .int .i64 y1, .int .i64 y2, .int .i64 y3, .int .i64 y4, .int .i64 y5, .int .i64 vi] 52) := ⟨_, rfl⟩
                      rw [← hw6] at N6 O7 HB7 ⊢
                      clear hw6
                      clear hK K
                      (try simp only [Act.put, List.setIfInBounds_toArray, List.set_cons_zero, List.set_cons_succ])
                      refine wpAnyH_ready (rs := [11]) (by kernel_rfl) (by simp) ?_
                      refine AllReadyH.cons (o := { dst := some 105, op := Op.call { callee := Callee.builtin Builtin.append, args := #[Operand.tmp 94, Operand.tmp 104], argTypes := #[29, 29] }, type := 29, pos := "ref.go:37", after := #[{ on := 0, ground := Ground.data }, { on := 10, ground := Ground.data }], guard := none }) rfl (fun K hK => ?_) AllReadyH.nil
                      refine step_append_lies _ (by rfl) _ _ _ (by rfl) w5.heap.size 52 i1 (.agg #[.int .i64 0, .int .i64 0, .int .i64 0, .int .i64 0, .int .i64 0, .int .i64 0, .int .i64 0, .int .i64 0]) 8 64 Try.underlying29 hi1 hy0 hy1 hy2 rfl (by decide) _ _ _ (by rfl) O7.out.1 ⟨Y.heap.size, 0, none⟩ 1 1 [.int .i64 0, .int .i64 y0, .int .i64 y1, .int .i64 y2, .int .i64 y3, .int .i64 y4, .int .i64 y5, .int .i64 vi] (by rfl) rfl ?c1 ?c2 (by decide) ?c4 ?c5 ?c6 _ rfl ?_
                      case c1 => exact World.news_of_block N6.out
                      case c2 => exact ofE.one ⟨0, y0, y1, y2, y3, y4, y5, vi⟩
                      case c4 => exact Nat.le_trans HOL.out (by unfold maxLen; decide)
                      case c5 => exact Nat.le_trans (Nat.mul_le_mul_right 64 HOL.out) (by decide)
                      case c6 => exact HB7.out.size
                      intro gg cp w7 hown hgrow hat hlt7
                      have RR := O7.out.app (x := ⟨0, y0, y1, y2, y3, y4, y5, vi⟩) HOF.out HB7.out HB7.out.size (by exact hown) hgrow
                      have O8 := Lib.hid RR.1
                      have HB8 := Lib.hid RR.2
                      clear RR hown hgrow hat hlt7 O7 HB7 N6
                      refine hK.out _ _ ?_ (fun hHeld => ?_)
                      · exact HB8.out
                      clear hK K
                      (try simp only [Act.put, List.setIfInBounds_toArray, List.set_cons_zero, List.set_cons_succ])
                      refine wpAnyH_take (i := 12) (oi := { dst := some 8, op := Op.assign (Operand.tmp 105), type := 29, pos := "ref.go:37", after := #[{ on := 11, ground := Ground.data }, { on := 11, ground := Ground.chain }, { on := 0, ground := Ground.phase }, { on := 1, ground := Ground.phase }, { on := 2, ground := Ground.phase }, { on := 3, ground := Ground.phase }, { on := 4, ground := Ground.phase }, { on := 5, ground := Ground.phase }, { on := 6, ground := Ground.phase }, { on := 7, ground := Ground.phase }, { on := 8, ground := Ground.phase }, { on := 9, ground := Ground.phase }, { on := 10, ground := Ground.phase }, { on := 11, ground := Ground.phase }], guard := none }) (v := ?_) rfl (by kernel_rfl) (by kernel_rfl) (by kernel_rfl) (fun _ _ _ h => h) (Or.inl ⟨by rfl, ?_⟩) (by assumption) ?_
                      rotate_left
                      · intro w hSw; (try dsimp only at hSw); go_simp; try with_reducible rfl
                      (try simp only [Act.put, List.setIfInBounds_toArray, List.set_cons_zero, List.set_cons_succ])
                      refine wpAnyH_done (by kernel_rfl) ?_ _
                      clear hHeld
                      rw [HEQ.out] at O8
                      go_wp2
                      go_roundw
                      case rel => exact ⟨i + 1, by omega, by omega, by go_num, HB8.out, O8.out⟩
                      case measure => simp [intOf]; omega
                    · rw [decide_eq_false hab]
                      have HEQ := Lib.hid (show offs (fT L [q0, q1, q2, q3, q4, q5]) ((VV.all [q0, q1, q2, q3, q4, q5]).take i) = offs (fT L [q0, q1, q2, q3, q4, q5]) ((VV.all [q0, q1, q2, q3, q4, q5]).take (i + 1)) from by rw [HTK.out, offs_no (by rw [HFY.out]; exact hab)])
                      clear hab HTK HFY
                      generalize VV.subT (fT L [q0, q1, q2, q3, q4, q5]) [y0, y1, y2, y3, y4, y5] = sb at *
                      rw [HEQ.out] at O6'
                      go_wp2
                      go_roundw
                      case rel => exact ⟨i + 1, by omega, by omega, by go_num, HBw2.out, O6'.out⟩
                      case measure => simp [intOf]; omega
              · have hin : i = np := by omega
                have HALL2 := Lib.hid (show (VV.all [q0, q1, q2, q3, q4, q5]).take i = VV.all [q0, q1, q2, q3, q4, q5] from by
                  have h2 : (VV.all [q0, q1, q2, q3, q4, q5]).length = VV.cnt [q0, q1, q2, q3, q4, q5] := by unfold VV.all; exact MB.row_length _ _ _
                  rw [hin, HNC.out, ← h2, List.take_length])
                rw [HALL2.out] at O5
                have hol : (offs (fT L [q0, q1, q2, q3, q4, q5]) (VV.all [q0, q1, q2, q3, q4, q5])).length ≤ 1024 := by
                  have h1 := offs_len (fT L [q0, q1, q2, q3, q4, q5]) (VV.all [q0, q1, q2, q3, q4, q5])
                  have h2 : (VV.all [q0, q1, q2, q3, q4, q5]).length = VV.cnt [q0, q1, q2, q3, q4, q5] := by unfold VV.all; exact MB.row_length _ _ _
                  have := HNC.out
                  omega
                generalize offs (fT L [q0, q1, q2, q3, q4, q5]) (VV.all [q0, q1, q2, q3, q4, q5]) = Os at *
                clear HALL2 hin
                obtain ⟨A8, c8, hv8, hl8, _⟩ := O5.out.form2 (by omega)
                have L8 := Lib.hid hl8
                have B8 := Lib.hid (B5.out.trans (HBw.out.mono B5.out.size))
                clear O5 HBw hl8
                subst hv8
                by_cases h40 : 40 < Os.length
                · have HE := Lib.hid (HE2.out h40)
                  have d40 : decide ((40 : Int) < (Os.length : Int)) = true := decide_eq_true (by omega)
                  clear HE2 HE3
                  go_wp2
                  go_ret2
                  rw [HE.out]
                  exact ⟨none, 0, 0, rfl, Lst.nil _, B8.out⟩
                · have HE := Lib.hid (HE3.out h40)
                  have d40 : decide ((40 : Int) < (Os.length : Int)) = false := decide_eq_false (by omega)
                  clear HE2 HE3
                  go_wp2
                  go_ret2
                  rw [HE.out]
                  exact ⟨A8, _, c8, rfl, L8.out, B8.out⟩
end Go.Proofs.Ytbnillkihmooeaa
namespace Go.Proofs.Ytbnillkihmooeaa
open Go.RowKit
attribute [local go_sem] Oper.semAt_some
set_option maxRecDepth 100000 in
set_option maxHeartbeats 4000000 in
theorem rfoffers_any (x : NT) (hx : x.size ≤ 1000000) (q0 q1 q2 q3 q4 q5 : Int) (w : World) (ok : Nat → Prop) (hok : x.Ok w ok) : Calls Try.prog 18 #[x.val, .agg #[.int .i64 q0, .int .i64 q1, .int .i64 q2, .int .i64 q3, .int .i64 q4, .int .i64 q5]] w (GivesO (offersE x.n [q0, q1, q2, q3, q4, q5]) w) := by
  have CT := Lib.hid (fun w' (hb : Below w.heap.size w w') => rtable_any x hx q0 q1 q2 q3 q4 q5 w' ok (hok.below hb))
  have CF := Lib.hid (fun A n c L w' h => rffrom_any A n c L q0 q1 q2 q3 q4 q5 w' h)
  have E1 := Lib.hid (offersE1 (n := x.n) (s := [q0, q1, q2, q3, q4, q5]))
  have E2 := Lib.hid (offersE2 (n := x.n) (s := [q0, q1, q2, q3, q4, q5]))
  obtain ⟨R, hR⟩ : ∃ R, R = offersE x.n [q0, q1, q2, q3, q4, q5] := ⟨_, rfl⟩
  rw [← hR] at E1 E2 ⊢
  clear hR
  generalize tabE x.n [q0, q1, q2, q3, q4, q5] = T at *
  obtain ⟨TL, te⟩ := T
  dsimp only at E1 E2
  obtain ⟨o, bb, v, A, cc, k⟩ := x
  obtain ⟨x0, x1, x2, x3, x4, x5, rfl⟩ := six hok.six
  rw [NT.val_lit] at CT ⊢
  clear hok hx
  have I0 := Lib.hid (IV14.start w (.int .i64 o) (.int .i64 x0) (.int .i64 x1) (.int .i64 x2) (.int .i64 x3) (.int .i64 x4) (.int .i64 x5) (.int .i64 v) (.slice A k.len cc) q0 q1 q2 q3 q4 q5)
  go_enter Try.func18, Try.ntmps18
  go_upto_region 1 with (fail)
  generalize (w.alloc (.cells #[.int .i64 o, .int .i64 x0, .int .i64 x1, .int .i64 x2, .int .i64 x3, .int .i64 x4, .int .i64 x5, .int .i64 v, .slice A k.len cc] 26)).alloc (.cells #[.int .i64 q0, .int .i64 q1, .int .i64 q2, .int .i64 q3, .int .i64 q4, .int .i64 q5] 23) = w1 at *
  obtain ⟨e0, e1, e2, e3, e4, e5, e6, e7, e8⟩ := I0.out.e.cells
  obtain ⟨r0, r1, r2, r3, r4, r5⟩ := cells6 I0.out.q
  go_wp2_with fail
  refine (CT.out _ I0.out.below).mono ?_
  rintro ev w2 ⟨A2, n2, c2, rfl, hl2, nb⟩
  have I2 := Lib.hid (I0.out.keep nb)
  have L2 := Lib.hid hl2
  clear nb I0 CT e0 e1 e2 e3 e4 e5 e6 e7 e8 r0 r1 r2 r3 r4 r5 hl2
  dsimp only at L2 ⊢
  by_cases h0 : te = 0
  · have d0 : (te == 0) = true := beq_iff_eq.2 h0
    have HE := Lib.hid (E2.out h0)
    subst h0
    obtain ⟨r0, r1, r2, r3, r4, r5⟩ := cells6 I2.out.q
    go_wp2_with fail
    refine (CF.out A2 n2 c2 TL _ L2.out).mono ?_
    rintro ev w3 ⟨A3, n3, c3, rfl, hl3, nb⟩
    have I3 := Lib.hid (I2.out.keep nb)
    have L3 := Lib.hid hl3
    clear nb r0 r1 r2 r3 r4 r5 I2 L2 CF hl3
    go_wp2
    go_ret2
    rw [HE.out]
    exact ⟨A3, n3, c3, rfl, L3.out, I3.out.below⟩
  · have d0 : (te == 0) = false := beq_eq_false_iff_ne.2 h0
    have HE := Lib.hid (E1.out h0)
    go_wp2
    go_ret2
    rw [HE.out]
    exact ⟨none, 0, 0, rfl, Lst.nil _, I2.out.below⟩
end Go.Proofs.Ytbnillkihmooeaa
namespace Go.Proofs.Ytbnillkihmooeaa
open Go.RowKit
attribute [local go_sem] Oper.semAt_some
set_option maxRecDepth 100000 in
set_option maxHeartbeats 4000000 in
theorem small14_any (x : NT) (hx : x.size ≤ 1000000) (q0 q1 q2 q3 q4 q5 : Int) (w : World) (ok : Nat → Prop) (hok : x.Ok w ok) : Calls Try.prog 15 #[x.val, .agg #[.int .i64 q0, .int .i64 q1, .int .i64 q2, .int .i64 q3, .int .i64 q4, .int .i64 q5]] w (Gives (.bool (decide (x.size ≤ 60) && decide (cntB [q0, q1, q2, q3, q4, q5] ≤ 100))) w) := by
  have CS := Lib.hid (fun w' (hb : Below w.heap.size w w') => rsize_any x (Nat.le_trans hx (by decide)) w' ok (hok.below hb))
  have CC := Lib.hid (fun w' => rcount_any q0 q1 q2 q3 q4 q5 w')
  obtain ⟨o, bb, v, A, cc, k⟩ := x
  obtain ⟨x0, x1, x2, x3, x4, x5, rfl⟩ := six hok.six
  rw [NT.val_lit] at CS ⊢
  generalize hz : NT.size ⟨o, [x0, x1, x2, x3, x4, x5], v, A, cc, k⟩ = z at *
  generalize cntB [q0, q1, q2, q3, q4, q5] = cn at *
  clear hok hz
  have I0 := Lib.hid (IV14.start w (.int .i64 o) (.int .i64 x0) (.int .i64 x1) (.int .i64 x2) (.int .i64 x3) (.int .i64 x4) (.int .i64 x5) (.int .i64 v) (.slice A k.len cc) q0 q1 q2 q3 q4 q5)
  go_enter Try.func15, Try.ntmps15
  go_upto_region 1 with (fail)
  generalize (w.alloc (.cells #[.int .i64 o, .int .i64 x0, .int .i64 x1, .int .i64 x2, .int .i64 x3, .int .i64 x4, .int .i64 x5, .int .i64 v, .slice A k.len cc] 26)).alloc (.cells #[.int .i64 q0, .int .i64 q1, .int .i64 q2, .int .i64 q3, .int .i64 q4, .int .i64 q5] 23) = w1 at *
  obtain ⟨e0, e1, e2, e3, e4, e5, e6, e7, e8⟩ := I0.out.e.cells
  by_cases h1 : z ≤ 60
  · have d1 : decide (z ≤ 60) = true := decide_eq_true h1
    have d2 : decide ((z : Int) ≤ 60) = true := decide_eq_true (by omega)
    go_wp2_with fail
    refine (CS.out _ I0.out.below).mono ?_
    rintro ev w2 ⟨rfl, nb⟩
    have I2 := Lib.hid (I0.out.keep nb)
    clear nb I0 CS e0 e1 e2 e3 e4 e5 e6 e7 e8
    obtain ⟨r0, r1, r2, r3, r4, r5⟩ := cells6 I2.out.q
    go_wp2_with fail
    refine (CC.out _).mono ?_
    rintro ev w3 ⟨rfl, nb⟩
    have I3 := Lib.hid (I2.out.keep nb)
    clear nb I2 CC r0 r1 r2 r3 r4 r5
    go_wp2
    go_ret
    exact ⟨by rw [d1]; try rfl, I3.out.below⟩
  · have d1 : decide (z ≤ 60) = false := decide_eq_false h1
    have d2 : decide ((z : Int) ≤ 60) = false := decide_eq_false (by omega)
    go_wp2_with fail
    refine (CS.out _ I0.out.below).mono ?_
    rintro ev w2 ⟨rfl, nb⟩
    have I2 := Lib.hid (I0.out.keep nb)
    clear nb I0 CS e0 e1 e2 e3 e4 e5 e6 e7 e8
    go_wp2
    go_ret
    exact ⟨by rw [d1]; try rfl, I2.out.below⟩
end Go.Proofs.Ytbnillkihmooeaa
