/- The reference of layer 13: within, held, count, index, at. No claim of its own. -/
import Derived.Test.YtjjpfpgjpmedmaaBRank
import Derived.Test.YtjjpfpgjpmedmaaBNext
import Derived.Test.YtjjpfpgjpmedmaaBUnr
namespace Go.Proofs.Ytjjpfpgjpmedmaa
open Go.RowKit
set_option maxRecDepth 100000 in
set_option maxHeartbeats 1000000 in
theorem rwithin13_any (a b c d e f a' b' c' d' e' f' : Int) (w : World) : Calls Try.prog 70 #[.agg #[.int .i64 a, .int .i64 b, .int .i64 c, .int .i64 d, .int .i64 e, .int .i64 f], .agg #[.int .i64 a', .int .i64 b', .int .i64 c', .int .i64 d', .int .i64 e', .int .i64 f']] w
    (Gives (.bool (MB.withinB [a, b, c, d, e, f] [a', b', c', d', e', f'] 6)) w) := by
  obtain ⟨H1, H2⟩ := two_boxes w 24 24 a b c d e f a' b' c' d' e' f'
  have HB := Lib.hid (below_two w (.cells #[.int .i64 a, .int .i64 b, .int .i64 c, .int .i64 d, .int .i64 e, .int .i64 f] 24) (.cells #[.int .i64 a', .int .i64 b', .int .i64 c', .int .i64 d', .int .i64 e', .int .i64 f'] 24))
  obtain ⟨xs, hxs⟩ : ∃ xs, [a, b, c, d, e, f] = xs := ⟨_, rfl⟩
  obtain ⟨ys, hys⟩ : ∃ ys, [a', b', c', d', e', f'] = ys := ⟨_, rfl⟩
  have HX := Lib.hid hxs
  have HY := Lib.hid hys
  rw [hxs] at H1
  rw [hys] at H2
  clear hxs hys
  have G1 := Lib.hid H1
  have G2 := Lib.hid H2
  clear H1 H2
  go_enter Try.func70, Try.ntmps70
  go_wp2
  obtain ⟨W, hW⟩ : ∃ W, W = (w.alloc (.cells #[.int .i64 a, .int .i64 b, .int .i64 c, .int .i64 d, .int .i64 e, .int .i64 f] 24)).alloc (.cells #[.int .i64 a', .int .i64 b', .int .i64 c', .int .i64 d', .int .i64 e', .int .i64 f'] 24) := ⟨_, rfl⟩
  rw [← hW] at G1 G2 HB ⊢
  clear hW
  go_loopw [5] (fun  i wr => ∃ k q : Nat, k ≤ 6 ∧ i = .int .i64 k ∧ wr = W.drewN q ∧ ∀ j, j < k → MB.at_ xs j ≤ MB.at_ ys j) (fun  i _ => 6 - (intOf i).toNat)
  case atStart => exact ⟨0, 0, Nat.zero_le _, rfl, rfl, fun j hj => absurd hj (Nat.not_lt_zero _)⟩
  case round =>
    obtain ⟨k, q, hk, rfl, rfl, hall⟩ := hrel
    have HA := Lib.hid hall
    clear hall
    by_cases hlt : k < 6
    · have c1 := G1.out.cell hlt
      have c2 := G2.out.cell hlt
      by_cases h1 : MB.at_ xs k ≤ MB.at_ ys k
      · have h2 : decide (MB.at_ ys k < MB.at_ xs k) = false := by simpa using h1
        go_wp2
        go_quiet (fail)
        go_wp2
        go_roundw
        case rel => exact ⟨k + 1, _, by omega, by go_num, rfl, fun j hj => by
          rcases Nat.lt_or_ge j k with g | g
          · exact HA.out j g
          · have : j = k := by omega
            subst this; exact h1⟩
        case measure => simp [intOf]; omega
      · have h2 : decide (MB.at_ ys k < MB.at_ xs k) = true := by simpa using h1
        have h3 : MB.at_ ys k < MB.at_ xs k := by omega
        go_wp2
        go_quiet (fail)
        go_wp2
        go_ret
        exact ⟨ret_bool (by rw [HX.out, HY.out]; exact (within_not hlt h3).symm), below_drewN (below_drewN HB.out _) _⟩
    · go_wp2
      go_ret
      exact ⟨ret_bool (by rw [HX.out, HY.out]; exact (within_all fun j hj => HA.out j (by omega)).symm), below_drewN HB.out _⟩
set_option maxRecDepth 100000 in
set_option maxHeartbeats 2000000 in
theorem held_any (x : Int) (w : World) : Calls Try.prog 72 #[.int .i64 x] w fun e w' => e = .returned (.int .i64 (min x 1000000)) ∧ w' = w := by
  by_cases h : 1000000 < x
  · have hd : decide (1000000 < x) = true := decide_eq_true h
    have hm : min x 1000000 = 1000000 := by omega
    go_enter Try.func72, Try.ntmps72
    go_wp2
    go_ret
    exact ⟨by first | rfl | (rw [hm]; rfl), rfl⟩
  · have hd : decide (1000000 < x) = false := decide_eq_false h
    have hm : min x 1000000 = x := by omega
    go_enter Try.func72, Try.ntmps72
    go_wp2
    go_ret
    exact ⟨by first | rfl | (rw [hm]; rfl), rfl⟩
set_option maxRecDepth 100000 in
set_option maxHeartbeats 2000000 in
theorem count13_any (a b c d e f : Int) (hok : MB.okB [a, b, c, d, e, f] = true) (w : World) : Calls Try.prog 68 #[.agg #[.int .i64 a, .int .i64 b, .int .i64 c, .int .i64 d, .int .i64 e, .int .i64 f]] w (Gives (.int .i64 (MB.P [a, b, c, d, e, f] 6 : Nat)) w) := by
  have H1 := Lib.hid (BB.new w 24 a b c d e f)
  have HN := Lib.hid (below_new w (.cells #[.int .i64 a, .int .i64 b, .int .i64 c, .int .i64 d, .int .i64 e, .int .i64 f] 24))
  have h04 : ∀ k, k < 6 → 0 ≤ MB.at_ [a, b, c, d, e, f] k ∧ MB.at_ [a, b, c, d, e, f] k ≤ 4 := fun k hk => okB_at hok hk
  have hpn : ∀ k, k < 6 → ((MB.P [a, b, c, d, e, f] (k + 1) : Nat) : Int) = (MB.P [a, b, c, d, e, f] k : Int) * (MB.at_ [a, b, c, d, e, f] k + 1) := fun k hk => P_next hok rfl hk
  have hps : ∀ k, k ≤ 6 → MB.P [a, b, c, d, e, f] k ≤ 15625 := fun k hk => P_small hok rfl hk
  obtain ⟨xs, hxs⟩ : ∃ xs, [a, b, c, d, e, f] = xs := ⟨_, rfl⟩
  rw [hxs] at H1 h04 hpn hps ⊢
  have HS := Lib.hid h04
  have HPN := Lib.hid hpn
  have HPS := Lib.hid hps
  clear hxs hok h04 hpn hps
  go_enter Try.func68, Try.ntmps68
  go_wp2
  generalize w.alloc (.cells #[.int .i64 a, .int .i64 b, .int .i64 c, .int .i64 d, .int .i64 e, .int .i64 f] 24) = W at H1 HN ⊢
  go_loop [3, 4] (fun t i => ∃ k : Nat, k ≤ 6 ∧ i = .int .i64 k ∧ t = .int .i64 (MB.P xs k : Nat)) (fun _ i => 6 - (intOf i).toNat)
  case atStart => exact ⟨0, Nat.zero_le _, rfl, rfl⟩
  case round =>
    obtain ⟨k, hk, rfl, rfl⟩ := hrel
    by_cases hlt : k < 6
    · have hy := HS.out k hlt
      have hpn := HPN.out k hlt
      have hp2 := HPS.out (k + 1) hlt
      have c1 := H1.out.cell hlt
      generalize MB.at_ xs k = y at *
      obtain ⟨hy0, hy4⟩ := hy
      generalize hq : MB.P xs (k + 1) = p' at *
      generalize MB.P xs k = p at *
      have HQ := Lib.hid hq
      have HE := Lib.hid hpn
      clear hq hpn
      go_wp2
      go_round
      case rel => exact ⟨k + 1, by omega, by go_num, by rw [HQ.out]; exact mul_in HE.out hp2⟩
      case measure => simp [intOf]; omega
    · obtain rfl : k = 6 := by omega
      clear HS HPN HPS
      go_wp2
      go_ret
      exact ⟨rfl, HN.out⟩
set_option maxRecDepth 100000 in
set_option maxHeartbeats 2000000 in
theorem index13_any (a b c d e f a' b' c' d' e' f' : Int) (hok : MB.okB [a, b, c, d, e, f] = true) (hok2 : MB.okB [a', b', c', d', e', f'] = true) (hw2 : MB.withinB [a', b', c', d', e', f'] [a, b, c, d, e, f] 6 = true) (w : World) : Calls Try.prog 88 #[.agg #[.int .i64 a, .int .i64 b, .int .i64 c, .int .i64 d, .int .i64 e, .int .i64 f], .agg #[.int .i64 a', .int .i64 b', .int .i64 c', .int .i64 d', .int .i64 e', .int .i64 f']] w (Gives (.int .i64 (MB.R [a, b, c, d, e, f] [a', b', c', d', e', f'] 6 : Nat)) w) := by
  obtain ⟨H1, H2⟩ := two_boxes w 24 24 a b c d e f a' b' c' d' e' f'
  have HB := Lib.hid (below_two w (.cells #[.int .i64 a, .int .i64 b, .int .i64 c, .int .i64 d, .int .i64 e, .int .i64 f] 24) (.cells #[.int .i64 a', .int .i64 b', .int .i64 c', .int .i64 d', .int .i64 e', .int .i64 f'] 24))
  have HRi := Lib.hid (fun k hk => R_int (k := k) hok rfl hok2 rfl hk)
  have HRs := Lib.hid (fun k hk => R_small (k := k) hok rfl hok2 rfl hw2 hk)
  have HSa := Lib.hid (fun k hk => okB_at hok (b := [a, b, c, d, e, f]) (k := k) hk)
  have HTa := Lib.hid (fun k hk => okB_at hok2 (b := [a', b', c', d', e', f']) (k := k) hk)
  clear hok hok2 hw2
  obtain ⟨xs, hxs⟩ : ∃ xs, [a, b, c, d, e, f] = xs := ⟨_, rfl⟩
  obtain ⟨ys, hys⟩ : ∃ ys, [a', b', c', d', e', f'] = ys := ⟨_, rfl⟩
  have hl1 : xs.length = 6 := by rw [← hxs]; rfl
  have hl2 : ys.length = 6 := by rw [← hys]; rfl
  rw [hxs] at H1 HRi HRs HSa ⊢
  rw [hys] at H2 HRi HRs HTa ⊢
  rw [hl1] at HSa
  rw [hl2] at HTa
  clear hxs hys hl1 hl2
  have G1 := Lib.hid H1
  have G2 := Lib.hid H2
  clear H1 H2
  go_enter Try.func88, Try.ntmps88
  go_wp2
  obtain ⟨W, hW⟩ : ∃ W, W = (w.alloc (.cells #[.int .i64 a, .int .i64 b, .int .i64 c, .int .i64 d, .int .i64 e, .int .i64 f] 24)).alloc (.cells #[.int .i64 a', .int .i64 b', .int .i64 c', .int .i64 d', .int .i64 e', .int .i64 f'] 24) := ⟨_, rfl⟩
  rw [← hW] at G1 G2 HB ⊢
  clear hW
  go_loopw [5, 6] (fun t i wr => ∃ k q : Nat, k ≤ 6 ∧ i = .int .i64 k ∧ t = .int .i64 (MB.R xs ys k : Nat) ∧ wr = W.drewN q) (fun _ i _ => 6 - (intOf i).toNat)
  case atStart => exact ⟨0, 0, Nat.zero_le _, rfl, rfl, rfl⟩
  case round =>
    obtain ⟨k, q, hk, rfl, rfl, rfl⟩ := hrel
    by_cases hlt : k < 6
    · have c1 := G1.out.cell hlt
      have c2 := G2.out.cell hlt
      have hs := HSa.out k hlt
      have ht := HTa.out k hlt
      have hr' := HRs.out (k + 1) hlt
      have HRk := Lib.hid (HRi.out k hlt)
      generalize MB.at_ xs k = y at *
      generalize MB.at_ ys k = x at *
      generalize hz : MB.R xs ys (k + 1) = r' at *
      generalize MB.R xs ys k = r at *
      have HZ := Lib.hid hz
      have HV := Lib.hid (congrArg (Value.int .i64) (rank_in HRk.out hr' ht))
      obtain ⟨hs0, hs4⟩ := hs
      have hy1 : wrap64 (y + 1) = y + 1 := by unfold wrap64; omega
      clear hz hr' ht
      go_wp2
      go_quiet (fail)
      go_wp2
      go_roundw
      case rel => exact ⟨k + 1, _, by omega, by go_num, by rw [HZ.out]; first | exact HV.out | (rw [hy1]; exact HV.out), rfl⟩
      case measure => simp [intOf]; omega
    · obtain rfl : k = 6 := by omega
      clear HRi HRs HSa HTa
      go_wp2
      go_ret
      exact ⟨rfl, below_drewN HB.out _⟩
set_option maxRecDepth 100000 in
set_option maxHeartbeats 2000000 in
theorem at13_any (a b c d e f : Int) (n : Nat) (w : World) (hok : MB.okB [a, b, c, d, e, f] = true) (hn : n < MB.P [a, b, c, d, e, f] 6) : Calls Try.prog 71 #[.agg #[.int .i64 a, .int .i64 b, .int .i64 c, .int .i64 d, .int .i64 e, .int .i64 f], .int .i64 n] w (Gives (aggB (MB.D [a, b, c, d, e, f] 6 n)) w) := by
  have HB := Lib.hid (below_two w (.cells #[.int .i64 a, .int .i64 b, .int .i64 c, .int .i64 d, .int .i64 e, .int .i64 f] 24) (.cells #[.int .i64 0, .int .i64 0, .int .i64 0, .int .i64 0, .int .i64 0, .int .i64 0] 24))
  have G1 := Lib.hid (box_zero w a b c d e f).1
  have G2 := Lib.hid (box_zero w a b c d e f).2
  have HSa := Lib.hid (show ∀ k, k < 6 → 0 ≤ MB.at_ [a, b, c, d, e, f] k ∧ MB.at_ [a, b, c, d, e, f] k ≤ 4 from fun k hk => okB_at hok (b := [a, b, c, d, e, f]) (k := k) hk)
  have HPn := Lib.hid hn
  have HPs := Lib.hid (show ∀ k, k ≤ 6 → MB.P [a, b, c, d, e, f] k ≤ 15625 from fun k hk => P_small hok rfl hk)
  clear hok hn
  go_enter Try.func71, Try.ntmps71
  go_upto_region 1 with (fail)
  generalize (w.alloc (.cells #[.int .i64 a, .int .i64 b, .int .i64 c, .int .i64 d, .int .i64 e, .int .i64 f] 24)).alloc (.cells #[.int .i64 0, .int .i64 0, .int .i64 0, .int .i64 0, .int .i64 0, .int .i64 0] 24) = w1 at G1 G2 HB ⊢
  go_wp2
  have k3 := Lib.hid (BB.new w1 24 0 0 0 0 0 0)
  have k4 := Lib.hid (G1.out.alloc (.cells #[.int .i64 0, .int .i64 0, .int .i64 0, .int .i64 0, .int .i64 0, .int .i64 0] 24))
  have k5 := Lib.hid (G2.out.alloc (.cells #[.int .i64 0, .int .i64 0, .int .i64 0, .int .i64 0, .int .i64 0, .int .i64 0] 24))
  have k6 := Lib.hid (HB.out.alloc HB.out.size (.cells #[.int .i64 0, .int .i64 0, .int .i64 0, .int .i64 0, .int .i64 0, .int .i64 0] 24))
  have k7 := G2.out.lt
  generalize w1.heap.size = B3 at *
  generalize w1.alloc (.cells #[.int .i64 0, .int .i64 0, .int .i64 0, .int .i64 0, .int .i64 0, .int .i64 0] 24) = w2 at *
  clear G1 G2 HB
  go_loopw [1, 6] (fun u t wr => ∃ (i m : Nat) (x : Int) (zs : List Int), i ≤ 6 ∧ x + 1 = (i : Int) ∧ t = .int .i64 x ∧ u = .int .i64 (m : Nat) ∧ m < MB.P [a, b, c, d, e, f] i ∧
      (∀ j, j < i → MB.at_ (MB.D [a, b, c, d, e, f] i m) j = MB.at_ (MB.D [a, b, c, d, e, f] 6 n) j) ∧ (∀ j, i ≤ j → j < 6 → MB.at_ zs j = MB.at_ (MB.D [a, b, c, d, e, f] 6 n) j) ∧
      BB wr B3 24 zs ∧ BB wr w.heap.size 24 [a, b, c, d, e, f] ∧ BB wr (w.heap.size + 1) 24 [0, 0, 0, 0, 0, 0] ∧ Below w.heap.size w wr) (fun _ t _ => (intOf t + 1).toNat)
  case atStart => exact ⟨6, n, 5, _, Nat.le_refl _, rfl, rfl, rfl, HPn.out, fun _ _ => rfl, fun j h1 h2 => absurd h1 (by omega), k3.out, k4.out, k5.out, k6.out⟩
  case round =>
    obtain ⟨i, m, x, zs, hi6, hx, rfl, rfl, hm, hh1, hh2, h1, h2, h3, hbw⟩ := hrel
    clear k3 k4 k5 k6
    have G1 := Lib.hid h1
    have G2 := Lib.hid h2
    have G3 := Lib.hid h3
    have HW := Lib.hid hbw
    have X1 := Lib.hid hh1
    have X2 := Lib.hid hh2
    clear h1 h2 h3 hbw hh1 hh2
    cases i with
    | zero =>
      obtain rfl : x = -1 := by omega
      have HE := Lib.hid (MB.ext6 G1.out.2 (MB.D_length _ 6 n) fun j hj => X2.out j (Nat.zero_le _) hj)
      clear X1 X2 hm
      obtain ⟨z0, z1, z2, z3, z4, z5, hz⟩ := six G1.out.2
      rw [hz] at G1 HE
      obtain ⟨c0, c1, c2, c3, c4, c5⟩ := cells6 G1.out
      obtain ⟨r0, r1, r2, r3, r4, r5⟩ := cells6 G3.out
      obtain ⟨g0, g1, g2, g3, g4, g5⟩ := free6 G3.out
      have hsz := G3.out.lt
      clear hz
      go_wp2
      refine bodyPost_ret (v := .agg #[.int .i64 z0, .int .i64 z1, .int .i64 z2, .int .i64 z3, .int .i64 z4, .int .i64 z5]) (by simp [results, Try.results71, go_sem, r0, r1, r2, r3, r4, r5]) rfl ?_
      rw [← HE.out]
      exact ⟨rfl, below_six HW.out _ (by omega) _ _ _ _ _ _⟩
    | succ k =>
      obtain rfl : x = (k : Int) := by omega
      have hk : k < 6 := by omega
      obtain ⟨q, hq⟩ : ∃ q : Nat, MB.at_ [a, b, c, d, e, f] k = (q : Int) := ⟨(MB.at_ [a, b, c, d, e, f] k).toNat, by have := (HSa.out k hk).1; omega⟩
      have hq4 := (HSa.out k hk).2
      rw [hq] at hq4
      have HST := Lib.hid (unrank_step hq hm X1.out X2.out G1.out.2 hk)
      have HQu := Lib.hid (congrArg (Value.int .i64) (quo_in (m := m) (q := q) (by have := HPs.out (k + 1) hi6; omega)))
      have hml : m % (q + 1) ≤ q := by have := Nat.mod_lt m (Nat.succ_pos q); simp only [Nat.succ_eq_add_one] at this; omega
      have c1 := G2.out.cell hk
      rw [hq] at c1
      have hw1 : wrap64 ((q : Int) + 1) = (q : Int) + 1 := by unfold wrap64; omega
      have HQ := Lib.hid hq
      clear X1 X2 hq hm hi6 hx
      have d1 := G1.out.cell hk
      have f1 := G1.out.free k
      have hs1 := G1.out.lt
      go_upto_region 6 with (fail)
      have j1 := Lib.hid (G1.out.set k ((m : Int) % ((q : Int) + 1)))
      have j2 := Lib.hid (G2.out.other (B' := B3) (k := k) (.int .i64 ((m : Int) % ((q : Int) + 1))) (by have := k7; omega))
      have j3 := Lib.hid (G3.out.other (B' := B3) (k := k) (.int .i64 ((m : Int) % ((q : Int) + 1))) (by have := k7; omega))
      have jb := Lib.hid (HW.out.setCell (p := ⟨B3, k, none⟩) (by have := k7; show w.heap.size ≤ B3; omega) (.int .i64 ((m : Int) % ((q : Int) + 1))))
      generalize wr.setCell ⟨B3, k, none⟩ (.int .i64 ((m : Int) % ((q : Int) + 1))) = w5 at j1 j2 j3 jb ⊢
      clear c1 d1 f1 hs1
      have c1 := j2.out.cell hk
      rw [HQ.out] at c1
      go_wp2
      go_roundw
      case rel => exact ⟨k, m / (q + 1), _, zs.set k ((m % (q + 1) : Nat) : Int), by omega, by first | rfl | omega, rfl, HQu.out, HST.out.1, HST.out.2.1, HST.out.2.2, j1.out, j2.out, j3.out, jb.out⟩
      case measure => simp [intOf]; try omega
end Go.Proofs.Ytjjpfpgjpmedmaa
