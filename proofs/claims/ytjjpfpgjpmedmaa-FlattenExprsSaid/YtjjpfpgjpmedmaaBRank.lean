/- Rank: no claim of its own. -/
import Derived.Test.YtjjpfpgjpmedmaaJB
namespace Go.Proofs.Ytjjpfpgjpmedmaa
open Go.RowKit
/-- Whether b has a rank within s; the rank, the error. -/
def rankOk (s b : List Int) : Bool := MB.okB s && decide (MB.P s 6 ≤ 1024) && MB.okB b && MB.withinB b s 6
def rankB (s b : List Int) : Int := if rankOk s b then (MB.R s b 6 : Int) else 0
def rankE (s b : List Int) : Int := if rankOk s b then 0 else 4
theorem P_pos' (s : List Int) (k : Nat) : (0 : Int) < (MB.P s k : Int) := by have := MB.P_pos s k; omega
theorem cnt_yes {s : List Int} (h1 : MB.okB s = true) (h2 : MB.P s 6 ≤ 1024) : cntB s = (MB.P s 6 : Int) := by unfold cntB; rw [if_pos h1, if_pos h2]
theorem cnt_no {s : List Int} (h : ¬ (MB.okB s = true ∧ MB.P s 6 ≤ 1024)) : cntB s = 0 := by
  unfold cntB
  split
  · next h1 => rw [if_neg (fun h2 => h ⟨h1, h2⟩)]
  · rfl
theorem rank_no {s b : List Int} (h : rankOk s b = false) : rankB s b = 0 ∧ rankE s b = 4 := by
  unfold rankB rankE
  rw [h]
  exact ⟨rfl, rfl⟩
theorem rank_yes {s b : List Int} (h : rankOk s b = true) : rankB s b = (MB.R s b 6 : Int) ∧ rankE s b = 0 := by
  unfold rankB rankE
  rw [h]
  exact ⟨rfl, rfl⟩
theorem rankOk_iff (s b : List Int) : rankOk s b = true ↔ (MB.okB s = true ∧ MB.P s 6 ≤ 1024) ∧ MB.okB b = true ∧ MB.withinB b s 6 = true := by
  unfold rankOk
  simp only [Bool.and_eq_true, decide_eq_true_eq]
  exact ⟨fun h => ⟨h.1.1, h.1.2, h.2⟩, fun h => ⟨⟨h.1, h.2.1⟩, h.2.2⟩⟩
theorem R_next (s b : List Int) (k : Nat) : MB.R s b (k + 1) = MB.R s b k * ((MB.at_ s k).toNat + 1) + (MB.at_ b k).toNat := rfl
theorem R_small {s b : List Int} (h : MB.okB s = true) (hl : s.length = 6) (hb : MB.okB b = true) (hbl : b.length = 6) (hw : MB.withinB b s 6 = true) {k : Nat} (hk : k ≤ 6) : MB.R s b k < 15625 := by
  have h1 := MB.R_lt s b k fun j hj => by
    have x1 := (MB.withinB_iff b s 6).1 hw j (by omega)
    have x2 := okB_at hb (k := j) (by omega)
    omega
  have h2 := P_small h hl hk
  omega
theorem R_int {s b : List Int} (h : MB.okB s = true) (hl : s.length = 6) (hb : MB.okB b = true) (hbl : b.length = 6) {k : Nat} (hk : k < 6) :
    ((MB.R s b (k + 1) : Nat) : Int) = (MB.R s b k : Int) * (MB.at_ s k + 1) + MB.at_ b k := by
  have h1 := okB_at h (k := k) (by omega)
  have h2 := okB_at hb (k := k) (by omega)
  rw [R_next]
  push_cast
  rw [Int.toNat_of_nonneg h1.1, Int.toNat_of_nonneg h2.1]
theorem rank_in {r r' : Nat} {y x : Int} (h : (r' : Int) = r * (y + 1) + x) (h' : r' < 15625) (hx : 0 ≤ x ∧ x ≤ 4) : wrap64 (wrap64 ((r : Int) * (y + 1)) + x) = (r' : Int) := by
  generalize hp : (r : Int) * (y + 1) = p at h ⊢
  have : wrap64 p = p := by unfold wrap64; omega
  rw [this]
  unfold wrap64; omega
/-- Eats one way out of Rank. -/
def RankGives (s b : List Int) (w : World) : Ending → World → Prop := Gives (.tuple #[.int .i64 (rankB s b), .int .i64 (rankE s b)]) w
theorem RankGives.no {s b : List Int} {w w' : World} (h : rankOk s b = false) (hb : Below w.heap.size w w') : RankGives s b w (.returned (.tuple #[.int .i64 0, .int .i64 4])) w' := by
  unfold RankGives
  rw [(rank_no h).1, (rank_no h).2]
  exact ⟨rfl, hb⟩
theorem RankGives.yes {s b : List Int} {w w' : World} (h : rankOk s b = true) (hb : Below w.heap.size w w') : RankGives s b w (.returned (.tuple #[.int .i64 (MB.R s b 6 : Nat), .int .i64 0])) w' := by
  unfold RankGives
  rw [(rank_yes h).1, (rank_yes h).2]
  exact ⟨rfl, hb⟩
set_option maxRecDepth 100000 in
set_option maxHeartbeats 2000000 in
theorem rank_1 (a b c d e f a' b' c' d' e' f' : Int) (w : World) (h : ¬ (MB.okB [a, b, c, d, e, f] = true ∧ MB.P [a, b, c, d, e, f] 6 ≤ 1024)) : Calls Try.prog 103 #[.agg #[.int .i64 a, .int .i64 b, .int .i64 c, .int .i64 d, .int .i64 e, .int .i64 f], .agg #[.int .i64 a', .int .i64 b', .int .i64 c', .int .i64 d', .int .i64 e', .int .i64 f']] w (RankGives [a, b, c, d, e, f] [a', b', c', d', e', f'] w) := by
  obtain ⟨H1, H2⟩ := two_boxes w 24 24 a b c d e f a' b' c' d' e' f'
  have HB := Lib.hid (below_two w (.cells #[.int .i64 a, .int .i64 b, .int .i64 c, .int .i64 d, .int .i64 e, .int .i64 f] 24) (.cells #[.int .i64 a', .int .i64 b', .int .i64 c', .int .i64 d', .int .i64 e', .int .i64 f'] 24))
  have HCt := Lib.hid (fun w => count_any a b c d e f w)
  have HCk := Lib.hid (fun w => bcheck_any a' b' c' d' e' f' w)
  have HWi := Lib.hid (fun w => within_any a' b' c' d' e' f' a b c d e f w)
  have HN := Lib.hid (show rankOk [a, b, c, d, e, f] [a', b', c', d', e', f'] = false by rw [Bool.eq_false_iff]; intro k; exact h ((rankOk_iff _ _).1 k).1)
  rw [cnt_no h] at HCt
  clear h
  have G1 := Lib.hid H1
  have G2 := Lib.hid H2
  clear H1 H2
  go_enter Try.func103, Try.ntmps103
  go_wp2_with fail
  refine (HCt.out _).mono ?_
  rintro e1 w1 ⟨rfl, hb⟩
  have HB1 := Lib.hid (HB.out.trans (hb.mono HB.out.size))
  have G11 := Lib.hid (G1.out.keep hb G1.out.lt)
  have G21 := Lib.hid (G2.out.keep hb G2.out.lt)
  clear hb G1 G2 HB
  go_wp2
  go_ret2
  exact RankGives.no HN.out HB1.out
set_option maxRecDepth 100000 in
set_option maxHeartbeats 2000000 in
theorem rank_2 (a b c d e f a' b' c' d' e' f' : Int) (w : World) (h : MB.okB [a, b, c, d, e, f] = true ∧ MB.P [a, b, c, d, e, f] 6 ≤ 1024) (h2 : MB.okB [a', b', c', d', e', f'] = false) : Calls Try.prog 103 #[.agg #[.int .i64 a, .int .i64 b, .int .i64 c, .int .i64 d, .int .i64 e, .int .i64 f], .agg #[.int .i64 a', .int .i64 b', .int .i64 c', .int .i64 d', .int .i64 e', .int .i64 f']] w (RankGives [a, b, c, d, e, f] [a', b', c', d', e', f'] w) := by
  obtain ⟨H1, H2⟩ := two_boxes w 24 24 a b c d e f a' b' c' d' e' f'
  have HB := Lib.hid (below_two w (.cells #[.int .i64 a, .int .i64 b, .int .i64 c, .int .i64 d, .int .i64 e, .int .i64 f] 24) (.cells #[.int .i64 a', .int .i64 b', .int .i64 c', .int .i64 d', .int .i64 e', .int .i64 f'] 24))
  have HCt := Lib.hid (fun w => count_any a b c d e f w)
  have HCk := Lib.hid (fun w => bcheck_any a' b' c' d' e' f' w)
  have HWi := Lib.hid (fun w => within_any a' b' c' d' e' f' a b c d e f w)
  have HN := Lib.hid (show rankOk [a, b, c, d, e, f] [a', b', c', d', e', f'] = false by rw [Bool.eq_false_iff]; intro k; have := ((rankOk_iff _ _).1 k).2.1; rw [h2] at this; cases this)
  rw [cnt_yes h.1 h.2] at HCt
  rw [chk_no h2] at HCk
  have hP := P_pos' [a, b, c, d, e, f] 6
  generalize ((MB.P [a, b, c, d, e, f] 6 : Nat) : Int) = P at *
  have hq : (P == 0) = false := by simp; omega
  clear h h2
  have G1 := Lib.hid H1
  have G2 := Lib.hid H2
  clear H1 H2
  go_enter Try.func103, Try.ntmps103
  go_wp2_with fail
  refine (HCt.out _).mono ?_
  rintro e1 w1 ⟨rfl, hb⟩
  have HB1 := Lib.hid (HB.out.trans (hb.mono HB.out.size))
  have G11 := Lib.hid (G1.out.keep hb G1.out.lt)
  have G21 := Lib.hid (G2.out.keep hb G2.out.lt)
  clear hb G1 G2 HB
  obtain ⟨x0, x1, x2, x3, x4, x5⟩ := cells6 G11.out
  obtain ⟨y0, y1, y2, y3, y4, y5⟩ := cells6 G21.out
  go_wp2_with fail
  refine (HCk.out _).mono ?_
  rintro e2 w2 ⟨rfl, hb⟩
  have HB2 := Lib.hid (HB1.out.trans (hb.mono HB1.out.size))
  have G12 := Lib.hid (G11.out.keep hb G11.out.lt)
  have G22 := Lib.hid (G21.out.keep hb G21.out.lt)
  clear hb G11 G21 HB1
  clear x0 x1 x2 x3 x4 x5 y0 y1 y2 y3 y4 y5
  go_wp2
  go_ret2
  exact RankGives.no HN.out HB2.out
set_option maxRecDepth 100000 in
set_option maxHeartbeats 2000000 in
theorem rank_3 (a b c d e f a' b' c' d' e' f' : Int) (w : World) (h : MB.okB [a, b, c, d, e, f] = true ∧ MB.P [a, b, c, d, e, f] 6 ≤ 1024) (h2 : MB.okB [a', b', c', d', e', f'] = true) (h3 : MB.withinB [a', b', c', d', e', f'] [a, b, c, d, e, f] 6 = false) : Calls Try.prog 103 #[.agg #[.int .i64 a, .int .i64 b, .int .i64 c, .int .i64 d, .int .i64 e, .int .i64 f], .agg #[.int .i64 a', .int .i64 b', .int .i64 c', .int .i64 d', .int .i64 e', .int .i64 f']] w (RankGives [a, b, c, d, e, f] [a', b', c', d', e', f'] w) := by
  obtain ⟨H1, H2⟩ := two_boxes w 24 24 a b c d e f a' b' c' d' e' f'
  have HB := Lib.hid (below_two w (.cells #[.int .i64 a, .int .i64 b, .int .i64 c, .int .i64 d, .int .i64 e, .int .i64 f] 24) (.cells #[.int .i64 a', .int .i64 b', .int .i64 c', .int .i64 d', .int .i64 e', .int .i64 f'] 24))
  have HCt := Lib.hid (fun w => count_any a b c d e f w)
  have HCk := Lib.hid (fun w => bcheck_any a' b' c' d' e' f' w)
  have HWi := Lib.hid (fun w => within_any a' b' c' d' e' f' a b c d e f w)
  have HN := Lib.hid (show rankOk [a, b, c, d, e, f] [a', b', c', d', e', f'] = false by rw [Bool.eq_false_iff]; intro k; have := ((rankOk_iff _ _).1 k).2.2; rw [h3] at this; cases this)
  rw [cnt_yes h.1 h.2] at HCt
  rw [chk_ok h2] at HCk
  rw [h3] at HWi
  have hP := P_pos' [a, b, c, d, e, f] 6
  generalize ((MB.P [a, b, c, d, e, f] 6 : Nat) : Int) = P at *
  have hq : (P == 0) = false := by simp; omega
  clear h h2 h3
  have G1 := Lib.hid H1
  have G2 := Lib.hid H2
  clear H1 H2
  go_enter Try.func103, Try.ntmps103
  go_wp2_with fail
  refine (HCt.out _).mono ?_
  rintro e1 w1 ⟨rfl, hb⟩
  have HB1 := Lib.hid (HB.out.trans (hb.mono HB.out.size))
  have G11 := Lib.hid (G1.out.keep hb G1.out.lt)
  have G21 := Lib.hid (G2.out.keep hb G2.out.lt)
  clear hb G1 G2 HB
  obtain ⟨x0, x1, x2, x3, x4, x5⟩ := cells6 G11.out
  obtain ⟨y0, y1, y2, y3, y4, y5⟩ := cells6 G21.out
  go_wp2_with fail
  refine (HCk.out _).mono ?_
  rintro e2 w2 ⟨rfl, hb⟩
  have HB2 := Lib.hid (HB1.out.trans (hb.mono HB1.out.size))
  have G12 := Lib.hid (G11.out.keep hb G11.out.lt)
  have G22 := Lib.hid (G21.out.keep hb G21.out.lt)
  clear hb G11 G21 HB1
  clear x0 x1 x2 x3 x4 x5 y0 y1 y2 y3 y4 y5
  obtain ⟨x0, x1, x2, x3, x4, x5⟩ := cells6 G12.out
  obtain ⟨y0, y1, y2, y3, y4, y5⟩ := cells6 G22.out
  go_wp2_with fail
  refine (HWi.out _).mono ?_
  rintro e3 w3 ⟨rfl, hb⟩
  have HB3 := Lib.hid (HB2.out.trans (hb.mono HB2.out.size))
  have G13 := Lib.hid (G12.out.keep hb G12.out.lt)
  have G23 := Lib.hid (G22.out.keep hb G22.out.lt)
  clear hb G12 G22 HB2
  clear x0 x1 x2 x3 x4 x5 y0 y1 y2 y3 y4 y5
  go_wp2
  go_ret2
  exact RankGives.no HN.out HB3.out
set_option maxRecDepth 100000 in
set_option maxHeartbeats 2000000 in
theorem rank_4 (a b c d e f a' b' c' d' e' f' : Int) (w : World) (h : MB.okB [a, b, c, d, e, f] = true ∧ MB.P [a, b, c, d, e, f] 6 ≤ 1024) (h2 : MB.okB [a', b', c', d', e', f'] = true) (h3 : MB.withinB [a', b', c', d', e', f'] [a, b, c, d, e, f] 6 = true) : Calls Try.prog 103 #[.agg #[.int .i64 a, .int .i64 b, .int .i64 c, .int .i64 d, .int .i64 e, .int .i64 f], .agg #[.int .i64 a', .int .i64 b', .int .i64 c', .int .i64 d', .int .i64 e', .int .i64 f']] w (RankGives [a, b, c, d, e, f] [a', b', c', d', e', f'] w) := by
  obtain ⟨H1, H2⟩ := two_boxes w 24 24 a b c d e f a' b' c' d' e' f'
  have HB := Lib.hid (below_two w (.cells #[.int .i64 a, .int .i64 b, .int .i64 c, .int .i64 d, .int .i64 e, .int .i64 f] 24) (.cells #[.int .i64 a', .int .i64 b', .int .i64 c', .int .i64 d', .int .i64 e', .int .i64 f'] 24))
  have HCt := Lib.hid (fun w => count_any a b c d e f w)
  have HCk := Lib.hid (fun w => bcheck_any a' b' c' d' e' f' w)
  have HWi := Lib.hid (fun w => within_any a' b' c' d' e' f' a b c d e f w)
  have HN := Lib.hid (show rankOk [a, b, c, d, e, f] [a', b', c', d', e', f'] = true from (rankOk_iff _ _).2 ⟨h, h2, h3⟩)
  rw [cnt_yes h.1 h.2] at HCt
  rw [chk_ok h2] at HCk
  rw [h3] at HWi
  have hP := P_pos' [a, b, c, d, e, f] 6
  generalize ((MB.P [a, b, c, d, e, f] 6 : Nat) : Int) = P at *
  have hq : (P == 0) = false := by simp; omega
  have HBa := Lib.hid (fun k hk => base_any a b c d e f k hk (okB_at h.1 (b := [a, b, c, d, e, f]) hk).1 (okB_at h.1 (b := [a, b, c, d, e, f]) hk).2)
  have HRi := Lib.hid (fun k hk => R_int (k := k) h.1 rfl h2 rfl hk)
  have HRs := Lib.hid (fun k hk => R_small (k := k) h.1 rfl h2 rfl h3 hk)
  have HSa := Lib.hid (fun k hk => okB_at h.1 (b := [a, b, c, d, e, f]) (k := k) hk)
  have HTa := Lib.hid (fun k hk => okB_at h2 (b := [a', b', c', d', e', f']) (k := k) hk)
  have HI := Lib.hid (fun k hk w => index_lit a' b' c' d' e' f' k hk w)
  clear h h2 h3
  have G1 := Lib.hid H1
  have G2 := Lib.hid H2
  clear H1 H2
  go_enter Try.func103, Try.ntmps103
  go_wp2_with fail
  refine (HCt.out _).mono ?_
  rintro e1 w1 ⟨rfl, hb⟩
  have HB1 := Lib.hid (HB.out.trans (hb.mono HB.out.size))
  have G11 := Lib.hid (G1.out.keep hb G1.out.lt)
  have G21 := Lib.hid (G2.out.keep hb G2.out.lt)
  clear hb G1 G2 HB
  obtain ⟨x0, x1, x2, x3, x4, x5⟩ := cells6 G11.out
  obtain ⟨y0, y1, y2, y3, y4, y5⟩ := cells6 G21.out
  go_wp2_with fail
  refine (HCk.out _).mono ?_
  rintro e2 w2 ⟨rfl, hb⟩
  have HB2 := Lib.hid (HB1.out.trans (hb.mono HB1.out.size))
  have G12 := Lib.hid (G11.out.keep hb G11.out.lt)
  have G22 := Lib.hid (G21.out.keep hb G21.out.lt)
  clear hb G11 G21 HB1
  clear x0 x1 x2 x3 x4 x5 y0 y1 y2 y3 y4 y5
  obtain ⟨x0, x1, x2, x3, x4, x5⟩ := cells6 G12.out
  obtain ⟨y0, y1, y2, y3, y4, y5⟩ := cells6 G22.out
  go_wp2_with fail
  refine (HWi.out _).mono ?_
  rintro e3 w3 ⟨rfl, hb⟩
  have HB3 := Lib.hid (HB2.out.trans (hb.mono HB2.out.size))
  have G13 := Lib.hid (G12.out.keep hb G12.out.lt)
  have G23 := Lib.hid (G22.out.keep hb G22.out.lt)
  clear hb G12 G22 HB2
  clear x0 x1 x2 x3 x4 x5 y0 y1 y2 y3 y4 y5
  obtain ⟨x0, x1, x2, x3, x4, x5⟩ := cells6 G13.out
  obtain ⟨y0, y1, y2, y3, y4, y5⟩ := cells6 G23.out
  go_wp2
  clear x0 x1 x2 x3 x4 x5 y0 y1 y2 y3 y4 y5
  go_loopw [6, 7, 8, 24] (fun r _ _ i wr => ∃ k : Nat, k ≤ 6 ∧ i = .int .i64 k ∧ r = .int .i64 (MB.R [a, b, c, d, e, f] [a', b', c', d', e', f'] k : Nat) ∧ BB wr w.heap.size 24 [a, b, c, d, e, f] ∧ Below w.heap.size w wr) (fun _ _ _ i _ => 6 - (intOf i).toNat)
  case atStart => exact ⟨0, Nat.zero_le _, rfl, rfl, G13.out, HB3.out⟩
  case round =>
    obtain ⟨k, hk, rfl, rfl, hbb, hbw⟩ := hrel
    have G := Lib.hid hbb
    have HW := Lib.hid hbw
    clear hbb hbw G13 G23 HB3
    by_cases hlt : k < 6
    · obtain ⟨x0, x1, x2, x3, x4, x5⟩ := cells6 G.out
      have i0 := HI.out k hlt
      have hs := HSa.out k hlt
      have ht := HTa.out k hlt
      have hr' := HRs.out (k + 1) hlt
      have HRk := Lib.hid (HRi.out k hlt)
      have HBk := Lib.hid (HBa.out k hlt)
      generalize MB.at_ [a, b, c, d, e, f] k = y at *
      generalize MB.at_ [a', b', c', d', e', f'] k = x at *
      generalize hz : MB.R [a, b, c, d, e, f] [a', b', c', d', e', f'] (k + 1) = r' at *
      generalize MB.R [a, b, c, d, e, f] [a', b', c', d', e', f'] k = r at *
      have HZ := Lib.hid hz
      have HV := Lib.hid (congrArg (Value.int .i64) (rank_in HRk.out hr' ht))
      obtain ⟨hs0, hs4⟩ := hs
      clear hz hr' ht
      go_wp2_with fail
      refine (HBk.out _).mono ?_
      rintro e4 w4 ⟨rfl, hb⟩
      have HW4 := Lib.hid (HW.out.trans (hb.mono HW.out.size))
      have G4 := Lib.hid (G.out.keep hb G.out.lt)
      clear hb x0 x1 x2 x3 x4 x5 HW G
      go_wp2
      go_roundw
      case rel => exact ⟨k + 1, by omega, by go_num, by rw [HZ.out]; exact HV.out, G4.out, HW4.out⟩
      case measure => simp [intOf]; omega
    · obtain rfl : k = 6 := by omega
      go_wp2
      go_ret2
      exact RankGives.yes HN.out HW.out
theorem rank_any (a b c d e f a' b' c' d' e' f' : Int) (w : World) : Calls Try.prog 103 #[.agg #[.int .i64 a, .int .i64 b, .int .i64 c, .int .i64 d, .int .i64 e, .int .i64 f], .agg #[.int .i64 a', .int .i64 b', .int .i64 c', .int .i64 d', .int .i64 e', .int .i64 f']] w (RankGives [a, b, c, d, e, f] [a', b', c', d', e', f'] w) := by
  by_cases h1 : MB.okB [a, b, c, d, e, f] = true ∧ MB.P [a, b, c, d, e, f] 6 ≤ 1024
  · cases h2 : MB.okB [a', b', c', d', e', f']
    · exact rank_2 _ _ _ _ _ _ _ _ _ _ _ _ w h1 h2
    · cases h3 : MB.withinB [a', b', c', d', e', f'] [a, b, c, d, e, f] 6
      · exact rank_3 _ _ _ _ _ _ _ _ _ _ _ _ w h1 h2 h3
      · exact rank_4 _ _ _ _ _ _ _ _ _ _ _ _ w h1 h2 h3
  · exact rank_1 _ _ _ _ _ _ _ _ _ _ _ _ w h1
end Go.Proofs.Ytjjpfpgjpmedmaa
