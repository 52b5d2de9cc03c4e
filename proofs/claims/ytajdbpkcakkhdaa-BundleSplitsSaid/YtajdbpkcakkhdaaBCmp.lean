/- Compare of both: no claim of its own. -/
import Derived.Test.YtajdbpkcakkhdaaBRead
namespace Go.Proofs.Ytajdbpkcakkhdaa
open Go.RowKit
set_option maxRecDepth 100000 in
theorem isNaN_any (x : Int) (w : World) : Calls Try.prog 47 #[.int .i64 x] w fun e w' => e = .returned (.bool false) ∧ w = w' := by
  go_enter Try.func47, Try.ntmps47
  go_wp2
  go_ret
  exact ⟨by simp, rfl⟩
def cmp3 (x y : Int) : Int := if x < y then -1 else if y < x then 1 else 0
set_option maxRecDepth 100000 in
set_option maxHeartbeats 400000 in
theorem cmpInt_any (x y : Int) (w : World) : Calls Try.prog 44 #[.int .i64 x, .int .i64 y] w fun e w' => e = .returned (.int .i64 (cmp3 x y)) ∧ w = w' := by
  by_cases h1 : x < y
  · have E : Hid (cmp3 x y = -1) := Lib.hid (if_pos h1)
    go_enter Try.func44, Try.ntmps44
    go_wp2_with (go_at_call 47; refine (isNaN_any _ _).mono ?_; rintro e w' ⟨rfl, rfl⟩)
    go_ret
    exact ⟨by rw [E.out]; rfl, rfl⟩
  · by_cases h2 : y < x
    · have E : Hid (cmp3 x y = 1) := Lib.hid (by unfold cmp3; rw [if_neg h1, if_pos h2])
      go_enter Try.func44, Try.ntmps44
      go_wp2_with (go_at_call 47; refine (isNaN_any _ _).mono ?_; rintro e w' ⟨rfl, rfl⟩)
      go_ret
      exact ⟨by rw [E.out]; rfl, rfl⟩
    · have E : Hid (cmp3 x y = 0) := Lib.hid (by unfold cmp3; rw [if_neg h1, if_neg h2])
      go_enter Try.func44, Try.ntmps44
      go_wp2_with (go_at_call 47; refine (isNaN_any _ _).mono ?_; rintro e w' ⟨rfl, rfl⟩)
      go_ret
      exact ⟨by rw [E.out]; rfl, rfl⟩
theorem cmp_stop {a b : List Int} {k n : Nat} (hk : k < n) (h0 : MB.cmp a b k = 0) (h : cmp3 (MB.at_ a k) (MB.at_ b k) ≠ 0) : MB.cmp a b n = cmp3 (MB.at_ a k) (MB.at_ b k) := by
  induction n with
  | zero => omega
  | succ n ih =>
    rcases Nat.lt_or_ge k n with g | g
    · have e := ih g
      rw [MB.cmp, if_pos (by rw [e]; exact h), e]
    · obtain rfl : n = k := by omega
      rw [MB.cmp, if_neg (by rw [h0]; exact fun x => x rfl)]
      rfl
theorem cmp_go {a b : List Int} {k : Nat} (h0 : MB.cmp a b k = 0) (h : cmp3 (MB.at_ a k) (MB.at_ b k) = 0) : MB.cmp a b (k + 1) = 0 := by
  rw [MB.cmp, if_neg (by rw [h0]; exact fun x => x rfl)]
  exact h
/-- Slices that read as bundles, compared. -/
theorem scmp_any (B B' : Nat) (T T' : TypeId) (xs ys : List Int) (w : World) (h1 : BB w B T xs) (h2 : BB w B' T' ys) :
    Calls Try.prog 39 #[.slice (some ⟨B, 0, none⟩) 6 6, .slice (some ⟨B', 0, none⟩) 6 6] w fun e w' => e = .returned (.int .i64 (MB.cmp xs ys 6)) ∧ w = w' := by
  have G1 := Lib.hid h1
  have G2 := Lib.hid h2
  clear h1 h2
  go_enter Try.func39, Try.ntmps39
  go_wp2
  go_loop [5, 6, 7, 8, 11] (fun _ _ _ _ i => ∃ k : Nat, k ≤ 6 ∧ i = .int .i64 k ∧ MB.cmp xs ys k = 0) (fun _ _ _ _ i => 6 - (intOf i).toNat)
  case atStart => exact ⟨0, Nat.zero_le _, rfl, rfl⟩
  case round =>
    obtain ⟨k, hk, rfl, hc⟩ := hrel
    have HC := Lib.hid hc
    clear hc
    by_cases hlt : k < 6
    · have c1 := G1.out.cell hlt
      have c2 := G2.out.cell hlt
      have hge : ((k : Int) ≥ 6) = False := eq_false (by omega)
      have HN := Lib.hid (cmp_stop (a := xs) (b := ys) hlt HC.out)
      have HG := Lib.hid (cmp_go (a := xs) (b := ys) HC.out)
      generalize MB.at_ xs k = x at *
      generalize MB.at_ ys k = y at *
      by_cases hz : cmp3 x y = 0
      · have HG' := Lib.hid (HG.out hz)
        go_wp2_with (go_at_call 44; refine (cmpInt_any _ _ _).mono ?_; rintro e w' ⟨rfl, rfl⟩)
        go_round
        case rel => exact ⟨k + 1, by omega, by go_num, HG'.out⟩
        case measure => simp [intOf]; omega
      · have HN' := Lib.hid (HN.out hz)
        go_wp2_with (go_at_call 44; refine (cmpInt_any _ _ _).mono ?_; rintro e w' ⟨rfl, rfl⟩)
        go_ret
        exact ⟨ret_int HN'.out.symm, rfl⟩
    · obtain rfl : k = 6 := by omega
      go_wp2
      go_ret
      exact ⟨ret_int HC.out.symm, rfl⟩
set_option maxRecDepth 100000 in
set_option maxHeartbeats 1000000 in
theorem compare_any (a b c d e f a' b' c' d' e' f' : Int) (w : World) : Calls Try.prog 17 #[.agg #[.int .i64 a, .int .i64 b, .int .i64 c, .int .i64 d, .int .i64 e, .int .i64 f], .agg #[.int .i64 a', .int .i64 b', .int .i64 c', .int .i64 d', .int .i64 e', .int .i64 f']] w
    (Gives (.int .i64 (MB.cmp [a, b, c, d, e, f] [a', b', c', d', e', f'] 6)) w) := by
  obtain ⟨H1, H2⟩ := two_boxes w 23 23 a b c d e f a' b' c' d' e' f'
  have HB := Lib.hid (below_two w (.cells #[.int .i64 a, .int .i64 b, .int .i64 c, .int .i64 d, .int .i64 e, .int .i64 f] 23) (.cells #[.int .i64 a', .int .i64 b', .int .i64 c', .int .i64 d', .int .i64 e', .int .i64 f'] 23))
  obtain ⟨xs, hxs⟩ : ∃ xs, [a, b, c, d, e, f] = xs := ⟨_, rfl⟩
  obtain ⟨ys, hys⟩ : ∃ ys, [a', b', c', d', e', f'] = ys := ⟨_, rfl⟩
  rw [hxs] at H1 ⊢
  rw [hys] at H2 ⊢
  clear hxs hys
  have G1 := Lib.hid H1
  have G2 := Lib.hid H2
  clear H1 H2
  go_enter Try.func17, Try.ntmps17
  go_wp2
  obtain ⟨W, hW⟩ : ∃ W, W = (w.alloc (.cells #[.int .i64 a, .int .i64 b, .int .i64 c, .int .i64 d, .int .i64 e, .int .i64 f] 23)).alloc (.cells #[.int .i64 a', .int .i64 b', .int .i64 c', .int .i64 d', .int .i64 e', .int .i64 f'] 23) := ⟨_, rfl⟩
  rw [← hW] at G1 G2 HB ⊢
  clear hW
  go_quiet ((go_at_call 39; exact Calls.quiet_of_same ((scmp_any _ _ _ _ _ _ _ (G1.out.drewN _) (G2.out.drewN _)).mono fun _ _ h => ⟨h.1, h.2.symm⟩)))
  go_wp2
  go_ret
  exact ⟨rfl, below_drewN HB.out _⟩
set_option maxRecDepth 100000 in
set_option maxHeartbeats 1000000 in
theorem rcompare_any (a b c d e f a' b' c' d' e' f' : Int) (w : World) : Calls Try.prog 18 #[.agg #[.int .i64 a, .int .i64 b, .int .i64 c, .int .i64 d, .int .i64 e, .int .i64 f], .agg #[.int .i64 a', .int .i64 b', .int .i64 c', .int .i64 d', .int .i64 e', .int .i64 f']] w
    (Gives (.int .i64 (MB.cmp [a, b, c, d, e, f] [a', b', c', d', e', f'] 6)) w) := by
  obtain ⟨H1, H2⟩ := two_boxes w 23 23 a b c d e f a' b' c' d' e' f'
  have HB := Lib.hid (below_two w (.cells #[.int .i64 a, .int .i64 b, .int .i64 c, .int .i64 d, .int .i64 e, .int .i64 f] 23) (.cells #[.int .i64 a', .int .i64 b', .int .i64 c', .int .i64 d', .int .i64 e', .int .i64 f'] 23))
  obtain ⟨xs, hxs⟩ : ∃ xs, [a, b, c, d, e, f] = xs := ⟨_, rfl⟩
  obtain ⟨ys, hys⟩ : ∃ ys, [a', b', c', d', e', f'] = ys := ⟨_, rfl⟩
  rw [hxs] at H1 ⊢
  rw [hys] at H2 ⊢
  clear hxs hys
  have G1 := Lib.hid H1
  have G2 := Lib.hid H2
  clear H1 H2
  go_enter Try.func18, Try.ntmps18
  go_wp2
  obtain ⟨W, hW⟩ : ∃ W, W = (w.alloc (.cells #[.int .i64 a, .int .i64 b, .int .i64 c, .int .i64 d, .int .i64 e, .int .i64 f] 23)).alloc (.cells #[.int .i64 a', .int .i64 b', .int .i64 c', .int .i64 d', .int .i64 e', .int .i64 f'] 23) := ⟨_, rfl⟩
  rw [← hW] at G1 G2 HB ⊢
  clear hW
  go_loopw [5] (fun i wr => ∃ k q : Nat, k ≤ 6 ∧ i = .int .i64 k ∧ wr = W.drewN q ∧ MB.cmp xs ys k = 0) (fun i _ => 6 - (intOf i).toNat)
  case atStart => exact ⟨0, 0, Nat.zero_le _, rfl, rfl, rfl⟩
  case round =>
    obtain ⟨k, q, hk, rfl, rfl, hc⟩ := hrel
    have HC := Lib.hid hc
    clear hc
    by_cases hlt : k < 6
    · have c1 := G1.out.cell hlt
      have c2 := G2.out.cell hlt
      have HN := Lib.hid (cmp_stop (a := xs) (b := ys) hlt HC.out)
      have HG := Lib.hid (cmp_go (a := xs) (b := ys) HC.out)
      generalize MB.at_ xs k = x at *
      generalize MB.at_ ys k = y at *
      by_cases h1 : x < y
      · have h2 : decide (x < y) = true := by simpa using h1
        have hz : cmp3 x y = -1 := if_pos h1
        have HN' := Lib.hid ((HN.out (by rw [hz]; decide)).trans hz)
        clear hz
        go_wp2
        go_quiet (fail)
        go_wp2
        go_ret
        exact ⟨ret_int HN'.out.symm, below_drewN (below_drewN HB.out _) _⟩
      · have h2 : decide (x < y) = false := by simpa using h1
        by_cases h3 : y < x
        · have h4 : decide (y < x) = true := by simpa using h3
          have hz : cmp3 x y = 1 := by unfold cmp3; rw [if_neg h1, if_pos h3]
          have HN' := Lib.hid ((HN.out (by rw [hz]; decide)).trans hz)
          clear hz
          go_wp2
          go_quiet (fail)
          go_wp2
          go_quiet (fail)
          go_wp2
          go_ret
          exact ⟨ret_int HN'.out.symm, by first | exact below_drewN (below_drewN HB.out _) _ | exact below_drewN (below_drewN (below_drewN HB.out _) _) _⟩
        · have h4 : decide (y < x) = false := by simpa using h3
          have hz : cmp3 x y = 0 := by unfold cmp3; rw [if_neg h1, if_neg h3]
          have HG' := Lib.hid (HG.out hz)
          clear hz
          go_wp2
          go_quiet (fail)
          go_wp2
          go_quiet (fail)
          go_wp2
          go_roundw
          case rel => exact ⟨k + 1, _, by omega, by go_num, rfl, HG'.out⟩
          case measure => simp [intOf]; omega
    · obtain rfl : k = 6 := by omega
      go_wp2
      go_ret
      exact ⟨ret_int HC.out.symm, below_drewN HB.out _⟩
end Go.Proofs.Ytajdbpkcakkhdaa
