/- FChk, FMost, MathFU, joined: no claim of its own. -/
import Derived.Test.YtjjpfpgjpmedmaaVMono
import Derived.Test.YtjjpfpgjpmedmaaVTable
import Derived.Test.YtjjpfpgjpmedmaaVWorth
import Derived.Test.YtjjpfpgjpmedmaaMathVE
import Derived.Test.YtjjpfpgjpmedmaaJFM
import Derived.Test.YtjjpfpgjpmedmaaJFA
namespace Go.Proofs.Ytjjpfpgjpmedmaa
open Go.RowKit
/-- Every value of a table is one. -/
def tabOk (L : List Int) : Bool := L.all fun v => decide (0 ≤ v) && decide (v ≤ 1000000)
/-- The first error of a table. -/
def ckT (L s : List Int) : Int := if cntB s = 0 then 4 else if (L.length : Int) < cntB s then 1 else if cntB s < (L.length : Int) then 3 else if L.getD 0 0 ≠ 0 then 4 else if tabOk L = true then 0 else 4
theorem ckT1 {L s : List Int} (h : cntB s = 0) : ckT L s = 4 := if_pos h
theorem ckT2 {L s : List Int} (h : cntB s ≠ 0) (h2 : (L.length : Int) < cntB s) : ckT L s = 1 := (if_neg h).trans (if_pos h2)
theorem ckT3 {L s : List Int} (h : cntB s ≠ 0) (h2 : cntB s < (L.length : Int)) : ckT L s = 3 := (if_neg h).trans ((if_neg (by omega)).trans (if_pos h2))
theorem ckT4 {L s : List Int} (h : cntB s ≠ 0) (h2 : (L.length : Int) = cntB s) (h3 : L.getD 0 0 ≠ 0) : ckT L s = 4 := (if_neg h).trans ((if_neg (by omega)).trans ((if_neg (by omega)).trans (if_pos h3)))
theorem ckT5 {L s : List Int} (h : cntB s ≠ 0) (h2 : (L.length : Int) = cntB s) (h3 : L.getD 0 0 = 0) : ckT L s = if tabOk L = true then 0 else 4 := (if_neg h).trans ((if_neg (by omega)).trans ((if_neg (by omega)).trans (if_neg (by omega))))
theorem tabOk_yes {L : List Int} {n : Nat} (hn : L.length = n) (h : ∀ i, i < n → 0 ≤ L.getD i 0 ∧ L.getD i 0 ≤ 1000000) : tabOk L = true := by
  unfold tabOk
  rw [List.all_eq_true]
  intro v hv
  obtain ⟨i, hi, rfl⟩ := List.mem_iff_getElem.1 hv
  have := h i (by omega)
  rw [List.getD_eq_getElem?_getD, List.getElem?_eq_getElem hi] at this
  simpa using this
theorem tabOk_no {L : List Int} {n i : Nat} (hn : L.length = n) (hi : i < n) (h : ¬ (0 ≤ L.getD i 0 ∧ L.getD i 0 ≤ 1000000)) : tabOk L = false := by
  cases e : tabOk L with
  | false => rfl
  | true =>
    refine absurd ?_ h
    unfold tabOk at e
    rw [List.all_eq_true] at e
    have hi' : i < L.length := by omega
    have := e _ (List.getElem_mem hi')
    rw [List.getD_eq_getElem?_getD, List.getElem?_eq_getElem hi']
    simpa using this
attribute [local go_sem] Oper.semAt_some
set_option maxRecDepth 100000 in
set_option maxHeartbeats 8000000 in
theorem fcheck_any (A : Option Addr) (n c : Nat) (L : List Int) (q0 q1 q2 q3 q4 q5 : Int) (w : World) (hL : Lst intE w A n c L) : Calls Try.prog 56 #[.slice A n c, .agg #[.int .i64 q0, .int .i64 q1, .int .i64 q2, .int .i64 q3, .int .i64 q4, .int .i64 q5]] w (Gives (.int .i64 (ckT L [q0, q1, q2, q3, q4, q5])) w) := by
  have CC := Lib.hid (fun w' => count_any q0 q1 q2 q3 q4 q5 w')
  have HLL := Lib.hid hL.len
  have K1 := Lib.hid (ckT1 (L := L) (s := [q0, q1, q2, q3, q4, q5]))
  have K2 := Lib.hid (ckT2 (L := L) (s := [q0, q1, q2, q3, q4, q5]))
  have K3 := Lib.hid (ckT3 (L := L) (s := [q0, q1, q2, q3, q4, q5]))
  have K4_ := Lib.hid (ckT4 (L := L) (s := [q0, q1, q2, q3, q4, q5]))
  have K5 := Lib.hid (ckT5 (L := L) (s := [q0, q1, q2, q3, q4, q5]))
  have TY := Lib.hid (fun (n : Nat) (h : L.length = n) h2 => tabOk_yes h h2)
  have TN := Lib.hid (fun (n i : Nat) (h : L.length = n) h2 h3 => tabOk_no (i := i) h h2 h3)
  obtain ⟨R, hR⟩ : ∃ R, R = ckT L [q0, q1, q2, q3, q4, q5] := ⟨_, rfl⟩
  rw [← hR] at K1 K2 K3 K4_ K5 ⊢
  clear hR
  have hn63 := hL.few
  have HB := Lib.hid (below_new w (.cells #[.int .i64 q0, .int .i64 q1, .int .i64 q2, .int .i64 q3, .int .i64 q4, .int .i64 q5] 24))
  have S0 := Lib.hid (BB.new w 24 q0 q1 q2 q3 q4 q5)
  have L0 := Lib.hid (hL.keep HB.out)
  clear hL
  go_enter Try.func56, Try.ntmps56
  go_upto_region 1 with (fail)
  generalize w.alloc (.cells #[.int .i64 q0, .int .i64 q1, .int .i64 q2, .int .i64 q3, .int .i64 q4, .int .i64 q5] 24) = w1 at *
  obtain ⟨r0, r1, r2, r3, r4, r5⟩ := cells6 S0.out
  generalize cntB [q0, q1, q2, q3, q4, q5] = cn at *
  go_wp2_with fail
  refine (CC.out _).mono ?_
  rintro ev w2 ⟨rfl, nb⟩
  have B2 := Lib.hid (HB.out.trans (nb.mono HB.out.size))
  have L2 := Lib.hid (L0.out.keep nb)
  clear nb r0 r1 r2 r3 r4 r5 HB S0 L0 CC
  have HLn := Lib.hid (show (L.length : Int) = (n : Int) by rw [HLL.out])
  by_cases h0 : cn = 0
  · have HE := Lib.hid (K1.out h0)
    have d0 : (cn == 0) = true := beq_iff_eq.2 h0
    go_wp2
    go_ret
    exact ⟨by rw [HE.out]; try rfl, B2.out⟩
  · have d0 : (cn == 0) = false := beq_eq_false_iff_ne.2 h0
    by_cases h1 : (n : Int) < cn
    · have HE := Lib.hid (K2.out h0 (by rw [HLn.out]; exact h1))
      have d1 : decide ((n : Int) < cn) = true := decide_eq_true h1
      go_wp2
      go_ret
      exact ⟨by rw [HE.out]; try rfl, B2.out⟩
    · have d1 : decide ((n : Int) < cn) = false := decide_eq_false h1
      by_cases h2 : cn < (n : Int)
      · have HE := Lib.hid (K3.out h0 (by rw [HLn.out]; exact h2))
        have d2 : decide (cn < (n : Int)) = true := decide_eq_true h2
        go_wp2
        go_ret
        exact ⟨by rw [HE.out]; try rfl, B2.out⟩
      · have d2 : decide (cn < (n : Int)) = false := decide_eq_false h2
        have hnc : (n : Int) = cn := by omega
        have hn0 : 0 < n := by omega
        obtain ⟨ad, had, hr0, hadl, c0⟩ := int_getD L2.out hn0
        rw [show ad.add 0 = ad from by unfold Addr.add; simp] at c0
        by_cases h3 : L.getD 0 0 = 0
        · have HE := Lib.hid (K5.out h0 (by rw [HLn.out]; exact hnc) h3)
          rw [h3] at c0
          clear K1 K2 K3 K4_ K5 h3 hr0 hadl
          subst had
          go_wp2_with fail
          clear c0
          go_loopw [30] (fun t wr => ∃ i : Nat, i ≤ n ∧ t = .int .i64 i ∧ Below w.heap.size w wr ∧ Lst intE wr (some ad) n c L ∧ ∀ j, j < i → 0 ≤ L.getD j 0 ∧ L.getD j 0 ≤ 1000000) (fun t _ => n - (intOf t).toNat)
          case atStart => exact ⟨0, Nat.zero_le _, rfl, B2.out, L2.out, fun j h => absurd h (Nat.not_lt_zero _)⟩
          case round =>
            obtain ⟨i, hi, rfl, hbw, hl, hall⟩ := hrel
            have BW := Lib.hid hbw
            have LW := Lib.hid hl
            have HA := Lib.hid hall
            clear hbw hl hall B2 L2
            by_cases hlt : i < n
            · obtain ⟨ad2, had2, hr, hadl, c1⟩ := int_getD LW.out hlt
              have had3 : ad2 = ad := by injection had2 with e; exact e.symm
              rw [had3] at hadl c1
              clear had2 had3 ad2
              have HA2 := Lib.hid (fun (h : 0 ≤ L.getD i 0 ∧ L.getD i 0 ≤ 1000000) => (show ∀ j, j < i + 1 → 0 ≤ L.getD j 0 ∧ L.getD j 0 ≤ 1000000 from fun j hj => by
                by_cases e : j = i
                · rw [e]; exact h
                · exact HA.out j (by omega)))
              have HF := Lib.hid (fun h => TN.out n i HLL.out hlt h)
              generalize L.getD i 0 = v at *
              by_cases hv0 : v < 0
              · have e0 : decide (v < 0) = true := decide_eq_true hv0
                have HE2 := Lib.hid (HE.out.trans (if_neg (by rw [HF.out (fun h => by omega)]; decide)))
                go_wp2
                go_ret
                exact ⟨by rw [HE2.out]; try rfl, BW.out⟩
              · have e0 : decide (v < 0) = false := decide_eq_false hv0
                by_cases hv1 : 1000000 < v
                · have e1 : decide (1000000 < v) = true := decide_eq_true hv1
                  have HE2 := Lib.hid (HE.out.trans (if_neg (by rw [HF.out (fun h => by omega)]; decide)))
                  go_wp2
                  go_ret
                  exact ⟨by rw [HE2.out]; try rfl, BW.out⟩
                · have e1 : decide (1000000 < v) = false := decide_eq_false hv1
                  have HA3 := Lib.hid (HA2.out (by omega))
                  go_wp2
                  go_roundw
                  case rel => exact ⟨i + 1, hlt, by go_num, BW.out, LW.out, HA3.out⟩
                  case measure => simp [intOf]; omega
            · have hin : i = n := by omega
              have HE2 := Lib.hid (HE.out.trans (if_pos (TY.out n HLL.out (by rw [← hin]; exact HA.out))))
              clear hin
              go_wp2
              go_ret
              exact ⟨by rw [HE2.out]; try rfl, BW.out⟩
        · have HE := Lib.hid (K4_.out h0 (by rw [HLn.out]; exact hnc) h3)
          have d3 : (L.getD 0 0 == 0) = false := beq_eq_false_iff_ne.2 h3
          clear K1 K2 K3 K4_ K5
          generalize L.getD 0 0 = v at *
          subst had
          go_wp2
          go_ret
          exact ⟨by rw [HE.out]; try rfl, B2.out⟩
end Go.Proofs.Ytjjpfpgjpmedmaa
namespace Go.Proofs.Ytjjpfpgjpmedmaa
open Go.RowKit
/-- The greatest value of what has one unit less of the first i products. -/
def mbB (M s b : List Int) : Nat → Int
  | 0 => 0
  | i + 1 => if 0 < MB.at_ b i then max (mbB M s b i) (M.getD (VV.rank s (VV.below b i)) 0) else mbB M s b i
theorem mbB_yes {M s b : List Int} {i : Nat} (h : 0 < MB.at_ b i) : mbB M s b (i + 1) = max (mbB M s b i) (M.getD (VV.rank s (VV.below b i)) 0) := if_pos h
theorem mbB_no {M s b : List Int} {i : Nat} (h : ¬ 0 < MB.at_ b i) : mbB M s b (i + 1) = mbB M s b i := if_neg h
attribute [local go_sem] Oper.semAt_some
set_option maxRecDepth 100000 in
set_option maxHeartbeats 8000000 in
theorem fmost_any (A : Option Addr) (n c : Nat) (M : List Int) (q0 q1 q2 q3 q4 q5 b0 b1 b2 b3 b4 b5 : Int) (w : World) (hL : Lst intE w A n c M) (hoq : MB.okB [q0, q1, q2, q3, q4, q5] = true) (hp : MB.P [q0, q1, q2, q3, q4, q5] 6 ≤ 1024) (hn : n = VV.cnt [q0, q1, q2, q3, q4, q5]) (hbu : VV.Bu [b0, b1, b2, b3, b4, b5]) (hbl : VV.Le [b0, b1, b2, b3, b4, b5] [q0, q1, q2, q3, q4, q5]) :
    Calls Try.prog 84 #[.slice A n c, .agg #[.int .i64 q0, .int .i64 q1, .int .i64 q2, .int .i64 q3, .int .i64 q4, .int .i64 q5], .agg #[.int .i64 b0, .int .i64 b1, .int .i64 b2, .int .i64 b3, .int .i64 b4, .int .i64 b5]] w (Gives (.int .i64 (mbB M [q0, q1, q2, q3, q4, q5] [b0, b1, b2, b3, b4, b5] 6)) w) := by
  have H1 := Lib.hid (two_boxes w 24 24 q0 q1 q2 q3 q4 q5 b0 b1 b2 b3 b4 b5).1
  have H2 := Lib.hid (two_boxes w 24 24 q0 q1 q2 q3 q4 q5 b0 b1 b2 b3 b4 b5).2
  have HB := Lib.hid (below_two w (.cells #[.int .i64 q0, .int .i64 q1, .int .i64 q2, .int .i64 q3, .int .i64 q4, .int .i64 q5] 24) (.cells #[.int .i64 b0, .int .i64 b1, .int .i64 b2, .int .i64 b3, .int .i64 b4, .int .i64 b5] 24))
  have LM := Lib.hid (hL.keep HB.out)
  have HI := Lib.hid (fun k hk w' => index_lit b0 b1 b2 b3 b4 b5 k hk w')
  have HRa := Lib.hid (fun z0 z1 z2 z3 z4 z5 w => rank_any q0 q1 q2 q3 q4 q5 z0 z1 z2 z3 z4 z5 w)
  have hqu := VV.bu_of_ok (b := [q0, q1, q2, q3, q4, q5]) rfl hoq
  have HK := Lib.hid (fun k (hk : k < 6) (h0 : 0 < MB.at_ [b0, b1, b2, b3, b4, b5] k) => (show ([b0, b1, b2, b3, b4, b5] : List Int).set k (MB.at_ [b0, b1, b2, b3, b4, b5] k - 1) = VV.below [b0, b1, b2, b3, b4, b5] k ∧ rankB [q0, q1, q2, q3, q4, q5] (VV.below [b0, b1, b2, b3, b4, b5] k) = (VV.rank [q0, q1, q2, q3, q4, q5] (VV.below [b0, b1, b2, b3, b4, b5] k) : Nat) ∧ VV.rank [q0, q1, q2, q3, q4, q5] (VV.below [b0, b1, b2, b3, b4, b5] k) < n from by
    have e := below_set (b := [b0, b1, b2, b3, b4, b5]) rfl hk
    rw [show max 0 (MB.at_ [b0, b1, b2, b3, b4, b5] k - 1) = MB.at_ [b0, b1, b2, b3, b4, b5] k - 1 by omega] at e
    have hl := (VV.below_bu hbu k).2.trans hbl
    have hu := (VV.below_bu hbu k).1
    exact ⟨e, VV.rankB_in hoq rfl hp hu hl, by rw [hn]; exact VV.rank_lt hqu hu hl⟩))
  have H4 := Lib.hid (fun k (hk : k < 6) => (show 0 ≤ MB.at_ [b0, b1, b2, b3, b4, b5] k ∧ MB.at_ [b0, b1, b2, b3, b4, b5] k ≤ 4 from by
    have h1 := hbu.pos k hk; have h2 := hbl k hk; have h3 := okB_at hoq (k := k) (by simpa using hk); omega))
  clear hL hoq hp hn hbu hbl hqu
  go_enter Try.func84, Try.ntmps84
  go_upto_region 1 with (fail)
  generalize (w.alloc (.cells #[.int .i64 q0, .int .i64 q1, .int .i64 q2, .int .i64 q3, .int .i64 q4, .int .i64 q5] 24)).alloc (.cells #[.int .i64 b0, .int .i64 b1, .int .i64 b2, .int .i64 b3, .int .i64 b4, .int .i64 b5] 24) = w1 at *
  obtain ⟨s0, s1, s2, s3, s4, s5⟩ := cells6 H2.out
  go_wp2_with fail
  clear s0 s1 s2 s3 s4 s5
  go_loopw [7, 14] (fun t i wr => ∃ k : Nat, k ≤ 6 ∧ i = .int .i64 k ∧ t = .int .i64 (mbB M [q0, q1, q2, q3, q4, q5] [b0, b1, b2, b3, b4, b5] k) ∧ Below w.heap.size w wr ∧ BB wr w.heap.size 24 [q0, q1, q2, q3, q4, q5] ∧ BB wr (w.heap.size + 1) 24 [b0, b1, b2, b3, b4, b5] ∧ Lst intE wr A n c M) (fun _ i _ => 6 - (intOf i).toNat)
  case atStart => exact ⟨0, Nat.zero_le _, rfl, rfl, HB.out, H1.out, H2.out, LM.out⟩
  case round =>
    obtain ⟨k, hk, rfl, rfl, hbw, hq, hb, hl⟩ := hrel
    have BW := Lib.hid hbw
    have QW := Lib.hid hq
    have BB_ := Lib.hid hb
    have LW := Lib.hid hl
    clear hbw hq hb hl HB H1 H2 LM
    by_cases hlt : k < 6
    · have i0 := HI.out k hlt
      have h4 := H4.out k hlt
      by_cases hy : 0 < MB.at_ [b0, b1, b2, b3, b4, b5] k
      · obtain ⟨k1, k2, k3⟩ := HK.out k hlt hy
        have HS := Lib.hid (mbB_yes (M := M) (s := [q0, q1, q2, q3, q4, q5]) hy)
        have HD := Lib.hid k1
        have HE := Lib.hid k2
        obtain ⟨s0, s1, s2, s3, s4, s5⟩ := cells6 BB_.out
        have hyd : decide (0 < MB.at_ [b0, b1, b2, b3, b4, b5] k) = true := decide_eq_true hy
        go_upto_region 7 with (fail)
        have nb := below_new wr (.cells #[.int .i64 b0, .int .i64 b1, .int .i64 b2, .int .i64 b3, .int .i64 b4, .int .i64 b5] 24)
        have D1 := Lib.hid (BB.new wr 24 b0 b1 b2 b3 b4 b5)
        have B1 := Lib.hid (BW.out.trans (nb.mono BW.out.size))
        have Q1 := Lib.hid (QW.out.keep nb QW.out.lt)
        have P1 := Lib.hid (BB_.out.keep nb BB_.out.lt)
        have L1 := Lib.hid (LW.out.keep nb)
        have hw1 : w.heap.size + 1 < wr.heap.size := BB_.out.lt
        have N1 := Lib.hid (nb)
        clear nb s0 s1 s2 s3 s4 s5 i0 k1 k2
        generalize hW2 : wr.alloc (.cells #[.int .i64 b0, .int .i64 b1, .int .i64 b2, .int .i64 b3, .int .i64 b4, .int .i64 b5] 24) = w2 at *
        have cd := D1.out.cell hlt
        have fd := D1.out.free k
        have hs1 := D1.out.lt
        have hlw : Lst intE wr A n c M := LW.out
        have DD := Lib.hid (show (∀ v : Value, Below wr.heap.size wr (w2.setCell ⟨wr.heap.size, k, none⟩ v)) from fun v => N1.out.setCell (p := ⟨wr.heap.size, k, none⟩) (Nat.le_refl _) v)
        generalize hyy : MB.at_ [b0, b1, b2, b3, b4, b5] k = y at *
        have hy1 : wrap64 (y - 1) = y - 1 := by unfold wrap64; omega
        go_upto_region 8 with (fail)
        have D2 := Lib.hid (D1.out.set k (y - 1))
        have N2 := Lib.hid (DD.out (.int .i64 (y - 1)))
        rw [HD.out] at D2
        clear D1 B1 Q1 P1 L1 N1 DD cd fd hs1 hW2
        generalize w2.setCell ⟨wr.heap.size, k, none⟩ (.int .i64 (y - 1)) = w3 at *
        have B3 := Lib.hid (BW.out.trans (N2.out.mono BW.out.size))
        have Q3 := Lib.hid (QW.out.keep N2.out QW.out.lt)
        have P3 := Lib.hid (BB_.out.keep N2.out BB_.out.lt)
        have L3 := Lib.hid (LW.out.keep N2.out)
        clear N2 BW QW BB_ LW hlw
        generalize VV.below [b0, b1, b2, b3, b4, b5] k = zs at *
        obtain ⟨z0, z1, z2, z3, z4, z5, rfl⟩ := six D2.out.2
        have HR := Lib.hid (HRa.out z0 z1 z2 z3 z4 z5)
        unfold RankGives at HR
        rw [HE.out] at HR
        obtain ⟨r0, r1, r2, r3, r4, r5⟩ := cells6 Q3.out
        obtain ⟨s0, s1, s2, s3, s4, s5⟩ := cells6 D2.out
        go_wp2_with fail
        refine (HR.out _).mono ?_
        rintro ev w4 ⟨rfl, nb⟩
        have B4 := Lib.hid (B3.out.trans (nb.mono B3.out.size))
        have Q4 := Lib.hid (Q3.out.keep nb Q3.out.lt)
        have P4 := Lib.hid (P3.out.keep nb P3.out.lt)
        have L4 := Lib.hid (L3.out.keep nb)
        clear nb B3 Q3 P3 L3 D2 HR r0 r1 r2 r3 r4 r5 s0 s1 s2 s3 s4 s5
        obtain ⟨ad, rfl, hr, hadl, cm⟩ := int_getD L4.out k3
        generalize VV.rank [q0, q1, q2, q3, q4, q5] [z0, z1, z2, z3, z4, z5] = r at *
        generalize M.getD r 0 = u at *
        generalize mbB M [q0, q1, q2, q3, q4, q5] [b0, b1, b2, b3, b4, b5] k = m at *
        have hlen := L4.out.few
        by_cases hmx : m < u
        · have hmd : decide (m < u) = true := decide_eq_true hmx
          go_wp2
          go_roundw
          case rel => exact ⟨k + 1, by omega, by go_num, by rw [HS.out, Int.max_eq_right (by omega)], B4.out, Q4.out, P4.out, L4.out⟩
          case measure => simp [intOf]; omega
        · have hmd : decide (m < u) = false := decide_eq_false hmx
          go_wp2
          go_roundw
          case rel => exact ⟨k + 1, by omega, by go_num, by rw [HS.out, Int.max_eq_left (by omega)], B4.out, Q4.out, P4.out, L4.out⟩
          case measure => simp [intOf]; omega
      · have HS := Lib.hid (mbB_no (M := M) (s := [q0, q1, q2, q3, q4, q5]) hy)
        have hyd : decide (0 < MB.at_ [b0, b1, b2, b3, b4, b5] k) = false := decide_eq_false hy
        go_wp2
        go_roundw
        case rel => exact ⟨k + 1, by omega, by go_num, by rw [HS.out], BW.out, QW.out, BB_.out, LW.out⟩
        case measure => simp [intOf]; omega
    · obtain rfl : k = 6 := by omega
      go_wp2
      go_ret
      exact ⟨rfl, BW.out⟩
end Go.Proofs.Ytjjpfpgjpmedmaa
namespace Go.Proofs.Ytjjpfpgjpmedmaa
open Go.RowKit
/-- An offer of a bundle. -/
def ofB (b : List Int) (v : Int) : MF.Of := ⟨0, MB.at_ b 0, MB.at_ b 1, MB.at_ b 2, MB.at_ b 3, MB.at_ b 4, MB.at_ b 5, v⟩
/-- The offers of the minimal list over some bundles. -/
def offs (f : List Int → Int) (bs : List (List Int)) : List MF.Of := (bs.filter fun b => decide (VV.subT f b < f b)).map fun b => ofB b (f b)
theorem offs_yes {f : List Int → Int} {bs : List (List Int)} {x : List Int} (h : VV.subT f x < f x) : offs f (bs ++ [x]) = offs f bs ++ [ofB x (f x)] := by
  unfold offs
  rw [List.filter_append, List.map_append]
  simp [List.filter, decide_eq_true h]
theorem offs_no {f : List Int → Int} {bs : List (List Int)} {x : List Int} (h : ¬ VV.subT f x < f x) : offs f (bs ++ [x]) = offs f bs := by
  unfold offs
  rw [List.filter_append, List.map_append]
  simp [List.filter, decide_eq_false h]
theorem offs_len (f : List Int → Int) (bs : List (List Int)) : (offs f bs).length ≤ bs.length := by unfold offs; rw [List.length_map]; exact List.length_filter_le _ _
/-- A table as a function of the bundle. -/
def fT (L s b : List Int) : Int := L.getD (VV.rank s b) 0
def fromE (L s : List Int) : List MF.Of × Int := if ckT L s ≠ 0 then ([], ckT L s) else if 40 < (offs (fT L s) (VV.all s)).length then ([], 3) else (offs (fT L s) (VV.all s), 0)
def offersE (n : ME.Nd) (s : List Int) : List MF.Of × Int := if (tabE n s).2 ≠ 0 then ([], (tabE n s).2) else fromE (tabE n s).1 s
/-- A list of offers and an error handed back. -/
def GivesO (p : List MF.Of × Int) (w : World) (e : Ending) (w' : World) : Prop := ∃ A n c, e = .returned (.tuple #[.slice A n c, .int .i64 p.2]) ∧ Lst ofE w' A n c p.1 ∧ Below w.heap.size w w'
/-- What `most` holds behind k bundles. -/
def gM (L s : List Int) (k i : Nat) : Int := if i < k then VV.upT (fT L s) (VV.at6 s i) else L.getD i 0
theorem getD_map_range (g : Nat → Int) {n i : Nat} (h : i < n) : ((List.range n).map g).getD i 0 = g i := by
  rw [List.getD_eq_getElem?_getD, List.getElem?_map, List.getElem?_range h]; rfl
theorem R_below_lt {s x : List Int} (hs : VV.Bu s) (hx : VV.Bu x) (hl : VV.Le x s) {j : Nat} (hj : j < 6) (h : 0 < MB.at_ x j) : VV.rank s (VV.below x j) < VV.rank s x := by
  have h1 := VV.rank_mono (s := s) (VV.below_bu hx j).2
  rcases Nat.lt_or_eq_of_le h1 with h2 | h2
  · exact h2
  · exfalso
    have e1 := VV.at_rank hs (VV.below_bu hx j).1 ((VV.below_bu hx j).2.trans hl)
    have e2 := VV.at_rank hs hx hl
    rw [h2, e2] at e1
    have := VV.below_at (b := x) (k := j) hj
    rw [← e1, if_pos rfl] at this
    omega
/-- What the call of mostBelow answers in round k. -/
theorem mb_round {L s x : List Int} {n k : Nat} (hs : VV.Bu s) (hn : n = VV.cnt s) (hx : VV.Bu x) (hl : VV.Le x s) (hk : VV.rank s x = k) : mbB ((List.range n).map (gM L s k)) s x 6 = VV.subT (fT L s) x := by
  rw [VV.subT_mb hx]
  have key : ∀ i, i ≤ 6 → mbB ((List.range n).map (gM L s k)) s x i = VV.mbT (VV.upT (fT L s)) x i := by
    intro i
    induction i with
    | zero => exact fun _ => rfl
    | succ i ih =>
      intro hi
      unfold mbB VV.mbT
      rw [ih (by omega)]
      split
      · rename_i hp
        have h1 := R_below_lt hs hx hl (j := i) (by omega) hp
        have hb := (VV.below_bu hx i)
        have hr := VV.rank_lt hs hb.1 (hb.2.trans hl)
        rw [getD_map_range _ (by omega)]
        unfold gM
        rw [if_pos (by omega), VV.at_rank hs hb.1 (hb.2.trans hl)]
      · rfl
  exact key 6 (Nat.le_refl _)
/-- What round k stores. -/
theorem gM_step {L s x : List Int} {k : Nat} (hs : VV.Bu s) (hx : VV.Bu x) (hl : VV.Le x s) (hk : VV.rank s x = k) (i : Nat) : gM L s (k + 1) i = if i = k then max (L.getD k 0) (VV.subT (fT L s) x) else gM L s k i := by
  unfold gM
  by_cases e : i = k
  · subst e
    rw [if_pos (by omega), if_pos rfl]
    have := VV.at_rank hs hx hl
    rw [hk] at this
    rw [this, VV.upT_sub hx]
    unfold fT
    rw [hk]
  · rw [if_neg e]
    by_cases h : i < k
    · rw [if_pos (by omega), if_pos h]
    · rw [if_neg (by omega), if_neg h]
theorem getD_in {L : List Int} (hL : tabOk L = true) (i : Nat) : 0 ≤ L.getD i 0 ∧ L.getD i 0 ≤ 1000000 := by
  rw [List.getD_eq_getElem?_getD]
  by_cases h : i < L.length
  · rw [List.getElem?_eq_getElem h]
    unfold tabOk at hL
    have := List.all_eq_true.1 hL _ (List.getElem_mem h)
    simpa using this
  · rw [List.getElem?_eq_none (by omega)]; exact ⟨by decide, by decide⟩
theorem subT_in {L s x : List Int} (hL : tabOk L = true) (hx : VV.Bu x) : 0 ≤ VV.subT (fT L s) x ∧ VV.subT (fT L s) x ≤ 1000000 := ⟨VV.subT_nonneg _ _, VV.subT_le hx (by decide) fun _d _ _ _ => (getD_in hL _).2⟩
theorem gM_in {L s : List Int} (hL : tabOk L = true) (hs : VV.Bu s) (k i : Nat) : -9223372036854775808 ≤ gM L s k i ∧ gM L s k i ≤ 9223372036854775807 := by
  unfold gM
  split
  · have h0 := VV.upT_nonneg (fT L s) (VV.at6 s i)
    have h1 : VV.upT (fT L s) (VV.at6 s i) ≤ 1000000 := VV.upT_le (VV.at6_bu hs i).1 (by decide) fun d _ _ => (getD_in hL _).2
    omega
  · have := getD_in hL i
    omega
/-- What ckT says of a good table. -/
theorem ckT_ok {L s : List Int} (_hl : s.length = 6) (h : ckT L s = 0) : cntB s ≠ 0 ∧ (L.length : Int) = cntB s ∧ L.getD 0 0 = 0 ∧ tabOk L = true := by
  by_cases h1 : cntB s = 0
  · rw [ckT1 h1] at h; cases h
  · by_cases h2 : (L.length : Int) < cntB s
    · rw [ckT2 h1 h2] at h; cases h
    · by_cases h3 : cntB s < (L.length : Int)
      · rw [ckT3 h1 h3] at h; cases h
      · by_cases h4 : L.getD 0 0 = 0
        · rw [ckT5 h1 (by omega) h4] at h
          by_cases h5 : tabOk L = true
          · exact ⟨h1, by omega, h4, h5⟩
          · rw [if_neg h5] at h; cases h
        · rw [ckT4 h1 (by omega) h4] at h; cases h
end Go.Proofs.Ytjjpfpgjpmedmaa
