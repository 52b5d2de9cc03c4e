/- Scan: no claim of its own. -/
import Derived.Test.YtcokplikmjegcaaGreatDoorJT
import Derived.Test.YtcokplikmjegcaaGreatDoorJG
import Derived.Test.YtcokplikmjegcaaGreatDoorJD
namespace Go.Proofs.YtcokplikmjegcaaGreatDoor
open Go.RowKit
open MC (Pr)
/-- How many tokens the scanner in block g has. -/
def lenAt (g : Nat) (w : World) : Nat := match w.cell? ⟨g, 0, none⟩ with | some (.slice _ n _) => n | _ => 0
theorem SP.lenAt {bad : Nat → Prop} {w : World} {g : Nat} {ts : List Tk} {er : Int} (h : SP bad w g ts er) : lenAt g w = ts.length := by
  obtain ⟨A, n, c, hs, _⟩ := h
  unfold Proofs.YtcokplikmjegcaaGreatDoor.lenAt
  rw [hs.c0]
  exact hs.tks.len.symm
/-- What has been done, in the loop of Scan. -/
structure Lp (N g B Rb : Nat) (L : List Pr) (T : List Int × List Tk × Int) (w wr : World) (R : List Int × List Tk × Int) : Prop where
  sp : SP (fun k => g ≤ k) wr g R.2.1 R.2.2
  bb : BB wr B 24 R.1
  res : BB wr Rb 24 [0, 0, 0, 0, 0, 0]
  below : Mv N g g w wr
  fin : loopR L R = T
  nonneg : ∀ k, 0 ≤ MB.at_ R.1 k
  dead : R.2.2 ≠ 0 → R.2.1 = []
theorem bb_mv {N g B Rb : Nat} {w w' : World} {T : TypeId} {xs : List Int} (h : BB w Rb T xs) (hm : Mv N g B w w') (h1 : Rb ≠ g) (h2 : Rb ≠ B) : BB w' Rb T xs := ⟨(hm.rest Rb h.lt h1 h2).trans h.1, h.2⟩
theorem SP.six {w : World} {g Rb : Nat} {ts : List Tk} {er : Int} (h : SP (fun k => g ≤ k) w g ts er) (hg : g < Rb) (v0 v1 v2 v3 v4 v5 : Value) :
    SP (fun k => g ≤ k) ((((((w.setCell ⟨Rb, 0, none⟩ v0).setCell ⟨Rb, 1, none⟩ v1).setCell ⟨Rb, 2, none⟩ v2).setCell ⟨Rb, 3, none⟩ v3).setCell ⟨Rb, 4, none⟩ v4).setCell ⟨Rb, 5, none⟩ v5) g ts er := by
  have h1 := Nat.le_of_lt hg
  have h2 := Nat.ne_of_lt hg
  exact (((((h.poke (q := Rb) h1 h2 0 v0).poke (q := Rb) h1 h2 1 v1).poke (q := Rb) h1 h2 2 v2).poke (q := Rb) h1 h2 3 v3).poke (q := Rb) h1 h2 4 v4).poke (q := Rb) h1 h2 5 v5
theorem Mv.step {N g B : Nat} {w w1 w2 : World} (h : Mv N g g w w1) (h' : Mv N g B w1 w2) (hB : w.heap.size ≤ B) : Mv N g g w w2 :=
  ⟨h.below.trans h'.below, fun k h1 h2 _ => (h'.rest k (Nat.lt_of_lt_of_le h1 h.below.size) h2 (by omega)).trans (h.rest k h1 h2 h2)⟩
theorem Mv.far {N g B : Nat} {w w1 : World} (h : Mv N g g w w1) (hB : w.heap.size ≤ B) (hNw : N ≤ w.heap.size) (i : Nat) (u : Value) : Mv N g g w (w1.setCell ⟨B, i, none⟩ u) :=
  ⟨h.below.setCell (p := ⟨B, i, none⟩) (Nat.le_trans hNw hB) u, fun k h1 h2 h3 => by rw [heap_setCell_other w1 _ k u (show k ≠ B by omega)]; exact h.rest k h1 h2 h3⟩
theorem mv_six {N g B : Nat} {w w1 : World} (h : Mv N g g w w1) (hB : w.heap.size ≤ B) (hNw : N ≤ w.heap.size) (v0 v1 v2 v3 v4 v5 : Value) :
    Mv N g g w ((((((w1.setCell ⟨B, 0, none⟩ v0).setCell ⟨B, 1, none⟩ v1).setCell ⟨B, 2, none⟩ v2).setCell ⟨B, 3, none⟩ v3).setCell ⟨B, 4, none⟩ v4).setCell ⟨B, 5, none⟩ v5) :=
  (((((h.far hB hNw 0 v0).far hB hNw 1 v1).far hB hNw 2 v2).far hB hNw 3 v3).far hB hNw 4 v4).far hB hNw 5 v5
/-- What Scan does, and that nothing else turns. -/
def ScnX (N g : Nat) (R : List Int × List Tk × Int) (w : World) (e : Ending) (w' : World) : Prop :=
  e = .returned (aggB R.1) ∧ SP (fun k => g ≤ k) w' g R.2.1 R.2.2 ∧ Mv N g g w w'
theorem loop_dead {L : List Pr} {xs : List Int} {ts : List Tk} {er : Int} (h : er ≠ 0) : loopR L (xs, ts, er) = (MC.Z6, [], er) := by unfold loopR; rw [if_neg h]
theorem scan_first0 {L : List Pr} (hL : NoEmpty L) {ts ts1 : List Tk} {e1 : Int} (he : e1 = expE 123 ts 0) (ht : ts1 = if e1 = 0 then ts.drop 1 else []) (h : MC.isO 125 ts1[0]? = false) : loopR L (scE L MC.Z6 ts1 e1) = MC.scanL L ts := by
  cases h0 : MC.isO 123 ts[0]? with
  | true =>
    have e0 : e1 = 0 := by rw [he]; unfold expE; rw [if_pos rfl, h0, if_pos rfl]
    subst e0
    rw [if_pos rfl] at ht
    subst ht
    rw [List.getElem?_drop] at h
    rw [MC.scan_on h0 h]
    exact (elems_loop hL (by rw [List.length_drop]; omega)).symm
  | false =>
    have e0 : e1 = MC.wrongE ts[0]? := by rw [he]; unfold expE; rw [if_pos rfl, h0, if_neg (by decide)]
    have hw := wrong_ne ts[0]?
    rw [MC.scan_bad h0, sc_dead hL (by rw [e0]; exact hw), e0]
    unfold loopR
    rw [if_neg hw]
theorem scan_brace0 {L : List Pr} {ts ts1 : List Tk} {e1 : Int} (he : e1 = expE 123 ts 0) (ht : ts1 = if e1 = 0 then ts.drop 1 else []) (h : MC.isO 125 ts1[0]? = true) : e1 = 0 ∧ MC.scanL L ts = (MC.Z6, ts1.drop 1, 0) := by
  by_cases h0 : e1 = 0
  · rw [if_pos h0] at ht
    subst ht
    rw [List.getElem?_drop] at h
    have h1 : MC.isO 123 ts[0]? = true := by
      cases hh : MC.isO 123 ts[0]? with
      | true => rfl
      | false =>
        rw [h0] at he
        unfold expE at he
        rw [if_pos rfl, hh, if_neg (by decide)] at he
        exact absurd he.symm (wrong_ne _)
    refine ⟨h0, ?_⟩
    rw [MC.scan_empty h1 h, List.drop_drop]
  · rw [if_neg h0] at ht
    subst ht
    cases h
theorem scan_first {L : List Pr} (hL : NoEmpty L) {ts ts1 : List Tk} {e1 er : Int} (he : e1 = expE 123 ts er) (ht : ts1 = if e1 = 0 then ts.drop 1 else []) (h : MC.isO 125 ts1[0]? = false) : loopR L (scE L MC.Z6 ts1 e1) = MX.scanU L ts er := by
  by_cases h0 : er = 0
  · subst h0; rw [scan_first0 hL he ht h]; unfold MX.scanU; rw [if_pos rfl]
  · have e : e1 = er := by rw [he]; exact if_neg h0
    rw [e, if_neg h0] at ht
    subst ht
    rw [e, sc_dead hL h0, loop_dead h0]
    unfold MX.scanU; rw [if_neg h0]
theorem scan_brace {L : List Pr} {ts ts1 : List Tk} {e1 er : Int} (he : e1 = expE 123 ts er) (ht : ts1 = if e1 = 0 then ts.drop 1 else []) (h : MC.isO 125 ts1[0]? = true) : e1 = 0 ∧ MX.scanU L ts er = (MC.Z6, ts1.drop 1, 0) := by
  by_cases h0 : er = 0
  · subst h0
    have := scan_brace0 (L := L) he ht h
    unfold MX.scanU; rw [if_pos rfl]; exact this
  · have e : e1 = er := by rw [he]; exact if_neg h0
    rw [e, if_neg h0] at ht
    subst ht
    cases h
set_option maxRecDepth 100000 in
set_option maxHeartbeats 8000000 in
theorem scanU_any (A : Option Addr) (n cp : Nat) (L : List Pr) (N g : Nat) (ts : List Tk) (er : Int) (w : World) (h : SP (fun k => g ≤ k) w g ts er) (hN : N ≤ g) (hNw : N ≤ w.heap.size)
    (hP : ∀ w', Below N w w' → Prs w' A n cp L) (hc : MC.chkL L = 0) :
    Calls Tryz.prog 96 #[.slice A n cp, .pointer (some ⟨g, 0, none⟩)] w (ScnX N g (MX.scanU L ts er) w) := by
  have S0 := Lib.hid (h.keep (below_new w (.cells #[.int .i64 0, .int .i64 0, .int .i64 0, .int .i64 0, .int .i64 0, .int .i64 0] 24)))
  have hgR : g < w.heap.size := h.lt
  have B0 := Lib.hid ((Mv.refl N g g w).quiet (below_new w (.cells #[.int .i64 0, .int .i64 0, .int .i64 0, .int .i64 0, .int .i64 0, .int .i64 0] 24)) hNw)
  have R0 := Lib.hid (BB.new w 24 0 0 0 0 0 0)
  have CK := Lib.hid (fun w' (hb : Below N w w') => check_any A n cp L w' (hP w' hb))
  rw [hc] at CK
  have HP := Lib.hid hP
  have GL := Lib.hid (MC.chk_good hc)
  have HNE := Lib.hid (no_empty GL.out)
  obtain ⟨e1, he1⟩ : ∃ e1, e1 = expE 123 ts er := ⟨_, rfl⟩
  obtain ⟨ts1, hts1⟩ : ∃ ts1, ts1 = if e1 = 0 then ts.drop 1 else [] := ⟨_, rfl⟩
  have EX := Lib.hid (fun (w' : World) (hs : SP (fun k => g ≤ k) w' g ts er) => expectU 123 hs)
  rw [← he1, ← hts1] at EX
  have AC := Lib.hid (fun (w' : World) (hs : SP (fun k => g ≤ k) w' g ts1 e1) => acceptU 125 hs)
  clear h hP hc
  go_enter Tryz.func96, Tryz.ntmps96
  go_wp2_with fail
  refine (CK.out _ B0.out.below).mono ?_
  rintro q1 w1 ⟨rfl, hb⟩
  have S1 := Lib.hid (S0.out.keep hb)
  have B1 := Lib.hid (B0.out.quiet hb hNw)
  have R1 := Lib.hid (R0.out.keep hb R0.out.lt)
  clear hb S0 B0 R0 CK
  have S2 := Lib.hid (S1.out.keep (below_new w1 (.cells #[.int .i64 0, .int .i64 0, .int .i64 0, .int .i64 0, .int .i64 0, .int .i64 0] 24)))
  have B2 := Lib.hid (B1.out.quiet (below_new w1 (.cells #[.int .i64 0, .int .i64 0, .int .i64 0, .int .i64 0, .int .i64 0, .int .i64 0] 24)) hNw)
  have R2 := Lib.hid (R1.out.alloc (.cells #[.int .i64 0, .int .i64 0, .int .i64 0, .int .i64 0, .int .i64 0, .int .i64 0] 24))
  have Q2 := Lib.hid (BB.new w1 24 0 0 0 0 0 0)
  have hRB : w.heap.size < w1.heap.size := R1.out.lt
  clear S1 B1 R1
  go_wp2_with fail
  refine (EX.out _ S2.out).mono ?_
  rintro q2 w2 ⟨rfl, hs, hg⟩
  have S3 := Lib.hid hs
  have B3 := Lib.hid (B2.out.grown hg hN hNw)
  have R3 := Lib.hid (bb_grown R2.out hg hgR)
  have Q3 := Lib.hid (bb_grown Q2.out hg (Nat.lt_trans hgR hRB))
  clear hs hg S2 B2 R2 Q2 EX
  generalize w1.heap.size = B at *
  go_wp2_with fail
  refine (AC.out _ S3.out).mono ?_
  rintro q3 w3 ⟨rfl, hs, hg⟩
  have B4 := Lib.hid (B3.out.grown hg hN hNw)
  have R4 := Lib.hid (bb_grown R3.out hg hgR)
  have Q4 := Lib.hid (bb_grown Q3.out hg (Nat.lt_trans hgR hRB))
  have HS := Lib.hid hs
  clear hs hg B3 R3 Q3 S3 AC
  cases hb1 : MC.isO 125 ts1[0]? with
  | true =>
    obtain ⟨h0, hR⟩ := scan_brace (L := L) he1 hts1 hb1
    rw [hb1, if_pos rfl, h0] at HS
    have HR := Lib.hid hR
    have ER := Lib.hid (errU HS.out)
    have S4 := Lib.hid HS.out
    obtain ⟨c0, c1, c2, c3, c4, c5⟩ := cells6 Q4.out
    obtain ⟨r0, r1, r2, r3, r4, r5⟩ := cells6 R4.out
    obtain ⟨g0, g1, g2, g3, g4, g5⟩ := free6 R4.out
    have hsz := R4.out.lt
    clear HS hR he1 hts1 h0 Q4 R4
    go_wp2_with fail
    refine ER.out.mono ?_
    rintro q4 w4 ⟨rfl, rfl⟩
    clear ER
    go_wp2_with fail
    refine bodyPost_ret (v := .agg #[.int .i64 0, .int .i64 0, .int .i64 0, .int .i64 0, .int .i64 0, .int .i64 0]) (by simp [results, Tryz.results96, go_sem, r0, r1, r2, r3, r4, r5]) rfl ?_
    rw [HR.out]
    exact ⟨rfl, S4.out.six hgR _ _ _ _ _ _, mv_six B4.out (Nat.le_refl _) hNw _ _ _ _ _ _⟩
  | false =>
    rw [hb1, if_neg (by decide)] at HS
    have HFin := Lib.hid (scan_first HNE.out he1 hts1 hb1)
    have EL := Lib.hid (scanEl_any A n cp L GL.out.few N g B MC.Z6 ts1 e1 w3 HS.out Q4.out (Nat.lt_trans hgR hRB) hN (Nat.le_trans hNw B4.out.below.size) (fun w' hb => HP.out w' (B4.out.below.trans hb)) Z6_nonneg)
    have HD1 : Hid ((scE L MC.Z6 ts1 e1).2.2 ≠ 0 → (scE L MC.Z6 ts1 e1).2.1 = []) := Lib.hid (fun hh => by
      by_cases h0 : e1 = 0
      · subst h0; exact sc_empty HNE.out hh
      · rw [sc_dead HNE.out h0])
    have NN := Lib.hid (sc_nonneg (L := L) (ts := ts1) (er := e1) Z6_nonneg)
    generalize MX.scanU L ts er = T at *
    clear he1 hts1 HS Q4 hb1
    go_wp2_with fail
    refine EL.out.mono ?_
    rintro q4 w4 ⟨rfl, hs, hbb, hmv⟩
    have LP : Hid (Lp N g B w.heap.size L T w w4 (scE L MC.Z6 ts1 e1)) := Lib.hid ⟨hs, hbb, bb_mv R4.out hmv (Nat.ne_of_gt hgR) (Nat.ne_of_lt hRB), B4.out.step hmv (Nat.le_of_lt hRB), HFin.out, NN.out, HD1.out⟩
    clear hs hbb hmv EL HFin HD1 NN R4 B4
    generalize scE L MC.Z6 ts1 e1 = R at *
    go_wp2_with fail
    go_loopw [24] (fun _ wr => ∃ R, Hid (Lp N g B w.heap.size L T w wr R)) (fun _ wr => lenAt g wr)
    case atStart => exact ⟨_, LP⟩
    case round =>
      rename_i _ wr
      clear LP R
      obtain ⟨R, HL⟩ := hrel
      have AC := Lib.hid (acceptU 44 HL.out.sp)
      cases hb : MC.isO 44 R.2.1[0]? with
      | true =>
        have h0 : R.2.2 = 0 := by
          by_cases h0 : R.2.2 = 0
          · exact h0
          · rw [HL.out.dead h0] at hb; cases hb
        rw [hb, if_pos rfl, h0] at AC
        have HF := Lib.hid ((loop_on HNE.out h0 hb).symm.trans HL.out.fin)
        have HLen : Hid ((R.2.1.drop 1).length < lenAt g wr) := Lib.hid (by
          rw [HL.out.sp.lenAt, List.length_drop]
          cases hr : R.2.1 with
          | nil => rw [hr] at hb; cases hb
          | cons t r => simp)
        go_wp2_with fail
        refine AC.out.mono ?_
        rintro q5 w5 ⟨rfl, hs, hg⟩
        have B5 := HL.out.below.grown hg hN hNw
        have EL := Lib.hid (scanEl_any A n cp L GL.out.few N g B R.1 (R.2.1.drop 1) 0 w5 hs (bb_grown HL.out.bb hg (Nat.lt_trans hgR hRB)) (Nat.lt_trans hgR hRB) hN (Nat.le_trans hNw B5.below.size) (fun w' hb => HP.out w' (B5.below.trans hb)) HL.out.nonneg)
        have R5 := Lib.hid (bb_grown HL.out.res hg hgR)
        have B5' := Lib.hid B5
        have NN := Lib.hid (sc_nonneg (L := L) (ts := R.2.1.drop 1) (er := 0) HL.out.nonneg)
        have SH := Lib.hid (sc_short HNE.out (xs := R.1) (R.2.1.drop 1))
        have SE := Lib.hid (fun hh => sc_empty HNE.out (xs := R.1) (ts := R.2.1.drop 1) hh)
        clear hs hg B5 AC HL hb h0
        go_wp2_with fail
        refine EL.out.mono ?_
        rintro q6 w6 ⟨rfl, hs, hbb, hmv⟩
        have G : Hid (Lp N g B w.heap.size L T w w6 (scE L R.1 (R.2.1.drop 1) 0)) := Lib.hid ⟨hs, hbb, bb_mv R5.out hmv (Nat.ne_of_gt hgR) (Nat.ne_of_lt hRB), B5'.out.step hmv (Nat.le_of_lt hRB), HF.out, NN.out, SE.out⟩
        have HLen2 : Hid (lenAt g w6 < lenAt g wr) := Lib.hid (by rw [G.out.sp.lenAt]; exact Nat.lt_of_le_of_lt SH.out HLen.out)
        clear hs hbb hmv EL HF NN SE SH HLen R5 B5'
        go_wp2_with fail
        go_roundw
        case rel => exact ⟨_, G⟩
        case measure => exact HLen2.out
      | false =>
        rw [hb, if_neg (by decide)] at AC
        have HE := HL.out.fin
        rw [loop_end HL.out.dead hb] at HE
        have EX := Lib.hid (fun (w' : World) (hs : SP (fun k => g ≤ k) w' g R.2.1 R.2.2) => expectU 125 hs)
        obtain ⟨e2, he2⟩ : ∃ e2, e2 = expE 125 R.2.1 R.2.2 := ⟨_, rfl⟩
        rw [← he2] at HE EX
        obtain ⟨ts2, hts2⟩ : ∃ ts2, ts2 = if e2 = 0 then R.2.1.drop 1 else [] := ⟨_, rfl⟩
        rw [← hts2] at HE EX
        clear he2 hts2 hb
        have HT := Lib.hid HE
        go_wp2_with fail
        refine AC.out.mono ?_
        rintro q5 w5 ⟨rfl, hs, hg⟩
        have S5 := Lib.hid hs
        have B5 := Lib.hid (HL.out.below.grown hg hN hNw)
        have Q5 := Lib.hid (bb_grown HL.out.bb hg (Nat.lt_trans hgR hRB))
        have R5 := Lib.hid (bb_grown HL.out.res hg hgR)
        clear hs hg AC HL HE
        go_wp2_with fail
        refine (EX.out _ S5.out).mono ?_
        rintro q6 w6 ⟨rfl, hs, hg⟩
        have S6 := Lib.hid hs
        have B6 := Lib.hid (B5.out.grown hg hN hNw)
        have Q6 := bb_grown Q5.out hg (Nat.lt_trans hgR hRB)
        have R6 := bb_grown R5.out hg hgR
        have ER := Lib.hid (errU S6.out)
        obtain ⟨z0, z1, z2, z3, z4, z5, hz⟩ := six Q6.2
        have HZ := Lib.hid hz
        rw [hz] at Q6
        obtain ⟨c0, c1, c2, c3, c4, c5⟩ := cells6 Q6
        obtain ⟨r0, r1, r2, r3, r4, r5⟩ := cells6 R6
        obtain ⟨g0, g1, g2, g3, g4, g5⟩ := free6 R6
        have hsz := R6.lt
        clear hs hg S5 B5 Q5 R5 EX Q6 R6 hz
        by_cases h0 : e2 = 0
        · subst h0
          have HT2 := Lib.hid (show (([z0, z1, z2, z3, z4, z5], ts2, 0) : List Int × List Tk × Int) = T by rw [← HT.out, if_pos rfl, HZ.out])
          clear HT HZ
          go_wp2_with fail
          refine ER.out.mono ?_
          rintro q7 w7 ⟨rfl, rfl⟩
          clear ER
          go_wp2_with fail
          refine bodyPost_ret (v := .agg #[.int .i64 z0, .int .i64 z1, .int .i64 z2, .int .i64 z3, .int .i64 z4, .int .i64 z5]) (by simp [results, Tryz.results96, go_sem, r0, r1, r2, r3, r4, r5]) rfl ?_
          rw [← HT2.out]
          exact ⟨rfl, S6.out.six hgR _ _ _ _ _ _, mv_six B6.out (Nat.le_refl _) hNw _ _ _ _ _ _⟩
        · have hb0 : (e2 != 0) = true := bne_iff_ne.2 h0
          have HT2 := Lib.hid (show ((MC.Z6, ts2, e2) : List Int × List Tk × Int) = T by rw [← HT.out, if_neg h0])
          clear h0 HT HZ
          go_wp2_with fail
          refine ER.out.mono ?_
          rintro q7 w7 ⟨rfl, rfl⟩
          clear ER
          go_wp2_with fail
          refine bodyPost_ret (v := .agg #[.int .i64 0, .int .i64 0, .int .i64 0, .int .i64 0, .int .i64 0, .int .i64 0]) (by simp [results, Tryz.results96, go_sem, r0, r1, r2, r3, r4, r5]) rfl ?_
          rw [← HT2.out]
          exact ⟨rfl, S6.out.six hgR _ _ _ _ _ _, mv_six B6.out (Nat.le_refl _) hNw _ _ _ _ _ _⟩
end Go.Proofs.YtcokplikmjegcaaGreatDoor
