/- The reference's Rank and Unrank: no claim of its own. -/
import Derived.Test.YtgknggighpjcdaaBList
import Derived.Test.YtgknggighpjcdaaBUnr
import Derived.Test.YtgknggighpjcdaaBEq
namespace Go.Proofs.Ytgknggighpjcdaa
open Go.RowKit
theorem okB_of {b : List Int} (h : ∀ k, k < b.length → 0 ≤ MB.at_ b k ∧ MB.at_ b k ≤ 4) : MB.okB b = true := by
  cases g : MB.okB b
  · have := ok_all b h
    rw [chk_no g] at this
    omega
  · rfl
theorem row_six {s : List Int} {n k : Nat} {r : List Int} (h : (MB.row s 6 n)[k]? = some r) : k < n ∧ MB.D s 6 k = r := by
  have hk : k < n := by
    rcases Nat.lt_or_ge k n with g | g
    · exact g
    · rw [List.getElem?_eq_none (by rw [MB.row_length]; exact g)] at h; cases h
  rw [MB.row_at hk] at h
  injection h with h
  rw [MB.pad_full (MB.D_length _ _ _)] at h
  exact ⟨hk, h⟩
theorem row_six' {s : List Int} {n k : Nat} (h : k < n) : (MB.row s 6 n)[k]? = some (MB.D s 6 k) := by
  rw [MB.row_at h, MB.pad_full (MB.D_length _ _ _)]
theorem list_yes' {s : List Int} (h : MB.okB s = true ∧ MB.P s 6 ≤ 1024) : listB s = MB.row s 6 (MB.P s 6) := by unfold listB; rw [if_pos h.1, if_pos h.2]
theorem list_no' {s : List Int} (h : ¬ (MB.okB s = true ∧ MB.P s 6 ≤ 1024)) : listB s = [] := by
  unfold listB
  split
  · next h1 => rw [if_neg (fun h2 => h ⟨h1, h2⟩)]
  · rfl
theorem digits_ok {s : List Int} (hs : MB.okB s = true) (hl : s.length = 6) (k : Nat) : MB.okB (MB.D s 6 k) = true ∧ MB.withinB (MB.D s 6 k) s 6 = true := by
  have h : ∀ j, j < 6 → 0 ≤ MB.at_ (MB.D s 6 k) j ∧ MB.at_ (MB.D s 6 k) j ≤ MB.at_ s j ∧ MB.at_ s j ≤ 4 := fun j hj => by
    have h1 := MB.D_within s 6 k j hj
    have h2 := okB_at hs (k := j) (by omega)
    omega
  refine ⟨okB_of fun j hj => ?_, (MB.withinB_iff _ _ 6).2 fun j hj => (h j hj).2.1⟩
  rw [MB.D_length] at hj
  have := h j hj
  omega
theorem list_hit {s b : List Int} {k : Nat} (hl : s.length = 6) (h : (listB s)[k]? = some b) : rankOk s b = true ∧ MB.R s b 6 = k := by
  by_cases hs : MB.okB s = true ∧ MB.P s 6 ≤ 1024
  · rw [list_yes' hs] at h
    obtain ⟨hk, rfl⟩ := row_six h
    exact ⟨(rankOk_iff _ _).2 ⟨hs, digits_ok hs.1 hl k⟩, MB.R_D s 6 k hk⟩
  · rw [list_no' hs] at h
    simp at h
theorem rank_digits {s b : List Int} (_hl : s.length = 6) (hb : b.length = 6) (h : rankOk s b = true) : MB.R s b 6 < MB.P s 6 ∧ MB.D s 6 (MB.R s b 6) = b := by
  obtain ⟨hs, ho, hw⟩ := (rankOk_iff _ _).1 h
  have h1 : ∀ j, j < 6 → 0 ≤ MB.at_ b j ∧ (MB.at_ b j).toNat ≤ (MB.at_ s j).toNat := fun j hj => by
    have x1 := (MB.withinB_iff b s 6).1 hw j hj
    have x2 := okB_at ho (k := j) (by omega)
    omega
  exact ⟨MB.R_lt s b 6 fun j hj => (h1 j hj).2, MB.ext6 (MB.D_length _ _ _) hb (MB.D_R s b 6 h1)⟩
theorem list_miss {s b : List Int} (hl : s.length = 6) (hb : b.length = 6) (h : ∀ j, j < (listB s).length → (listB s)[j]? ≠ some b) : rankOk s b = false := by
  rw [Bool.eq_false_iff]
  intro g
  obtain ⟨h1, h2⟩ := rank_digits hl hb g
  have hs := ((rankOk_iff _ _).1 g).1
  rw [list_yes' hs] at h
  exact h _ (by rw [MB.row_length]; exact h1) (by rw [row_six' h1, h2])
theorem list_few (s : List Int) : (listB s).length ≤ 1024 := by
  by_cases hs : MB.okB s = true ∧ MB.P s 6 ≤ 1024
  · rw [list_yes' hs, MB.row_length]; exact hs.2
  · rw [list_no' hs]; exact Nat.zero_le _
theorem run_eq_lit (a b c d e f a' b' c' d' e' f' : Int) (w : World) : (Op.equalIn 10000 23 (.agg #[.int .i64 a, .int .i64 b, .int .i64 c, .int .i64 d, .int .i64 e, .int .i64 f]) (.agg #[.int .i64 a', .int .i64 b', .int .i64 c', .int .i64 d', .int .i64 e', .int .i64 f'])).run Try.prog w = .ok (decide ([a, b, c, d, e, f] = [a', b', c', d', e', f'])) w := run_same [a, b, c, d, e, f] [a', b', c', d', e', f'] rfl rfl w
theorem unr_len {s : List Int} {n : Int} (h : n < 0 ∨ (listB s).length ≤ n.toNat) : unrOk s n = false := by
  rw [Bool.eq_false_iff]
  intro g
  obtain ⟨hs, h0, h1⟩ := (unrOk_iff _ _).1 g
  rw [list_yes' hs, MB.row_length] at h
  omega
theorem unr_hit {s r : List Int} {n : Nat} (h : (listB s)[n]? = some r) : unrOk s n = true ∧ r = MB.D s 6 n := by
  by_cases hs : MB.okB s = true ∧ MB.P s 6 ≤ 1024
  · rw [list_yes' hs] at h
    obtain ⟨hk, rfl⟩ := row_six h
    exact ⟨(unrOk_iff _ _).2 ⟨hs, by omega, by omega⟩, rfl⟩
  · rw [list_no' hs] at h
    simp at h
set_option maxRecDepth 100000 in
set_option maxHeartbeats 2000000 in
theorem runr_any (a b c d e f n : Int) (w : World) : Calls Try.prog 26 #[.agg #[.int .i64 a, .int .i64 b, .int .i64 c, .int .i64 d, .int .i64 e, .int .i64 f], .int .i64 n] w (UnrGives [a, b, c, d, e, f] n w) := by
  have HLi := Lib.hid (fun w => list_any a b c d e f w)
  have HN := Lib.hid (unr_len (s := [a, b, c, d, e, f]) (n := n))
  have HY := Lib.hid (fun (m : Nat) r => unr_hit (s := [a, b, c, d, e, f]) (r := r) (n := m))
  have G1 := Lib.hid (box_zero w a b c d e f).1
  have G2 := Lib.hid (box_zero w a b c d e f).2
  have HB := Lib.hid (below_two w (.cells #[.int .i64 a, .int .i64 b, .int .i64 c, .int .i64 d, .int .i64 e, .int .i64 f] 23) (.cells #[.int .i64 0, .int .i64 0, .int .i64 0, .int .i64 0, .int .i64 0, .int .i64 0] 23))
  generalize listB [a, b, c, d, e, f] = rs at *
  go_enter Try.func26, Try.ntmps26
  go_wp2_with fail
  refine (HLi.out _).mono ?_
  rintro e1 w1 ⟨Ad, N, cap, rfl, hr, hb⟩
  have RW := Lib.hid hr
  have HB1 := Lib.hid (HB.out.trans (hb.mono HB.out.size))
  have K2 := Lib.hid (G2.out.keep hb G2.out.lt)
  have hfew := hr.few
  have hlen := Lib.hid hr.len
  clear hr hb G1 G2 HB HLi
  obtain ⟨r0, r1, r2, r3, r4, r5⟩ := cells6 K2.out
  obtain ⟨g0, g1, g2, g3, g4, g5⟩ := free6 K2.out
  have hsz := K2.out.lt
  rcases Int.lt_or_le n 0 with hn | hn
  · have HF := Lib.hid (HN.out (.inl hn))
    go_wp2
    refine bodyPost_ret (v := .tuple #[.agg #[.int .i64 0, .int .i64 0, .int .i64 0, .int .i64 0, .int .i64 0, .int .i64 0], .int .i64 4]) (by simp [results, Try.results26, go_sem, r0, r1, r2, r3, r4, r5]) rfl (UnrGives.no HF.out ?_)
    exact below_six HB1.out _ (by omega) _ _ _ _ _ _
  · obtain ⟨m, rfl⟩ := Int.eq_ofNat_of_zero_le hn
    have hn1 : decide ((m : Int) < 0) = false := by simp
    have hn2 : ¬ (m : Int) < 0 := by omega
    by_cases hm : N ≤ m
    · have HF := Lib.hid (HN.out (.inr (by rw [hlen.out]; simpa using hm)))
      clear HN
      have hm1 : decide (N ≤ m) = true := by simpa using hm
      go_wp2
      refine bodyPost_ret (v := .tuple #[.agg #[.int .i64 0, .int .i64 0, .int .i64 0, .int .i64 0, .int .i64 0, .int .i64 0], .int .i64 4]) (by simp [results, Try.results26, go_sem, r0, r1, r2, r3, r4, r5]) rfl (UnrGives.no HF.out ?_)
      exact below_six HB1.out _ (by omega) _ _ _ _ _ _
    · have hm1 : decide (N ≤ m) = false := by simpa using hm
      have hml : m < N := by omega
      obtain ⟨ad, z0, z1, z2, z3, z4, z5, rfl, hrow, hadl, e0, e1, e2, e3, e4, e5⟩ := RW.out.at_ hml
      have HF := Lib.hid (HY.out m _ hrow)
      clear hrow HY HN
      go_wp2
      refine bodyPost_ret (v := .tuple #[.agg #[.int .i64 z0, .int .i64 z1, .int .i64 z2, .int .i64 z3, .int .i64 z4, .int .i64 z5], .int .i64 0]) (by simp [results, Try.results26, go_sem, r0, r1, r2, r3, r4, r5]) rfl (UnrGives.yes HF.out.1 HF.out.2 ?_)
      exact below_six HB1.out _ (by omega) _ _ _ _ _ _
end Go.Proofs.Ytgknggighpjcdaa
