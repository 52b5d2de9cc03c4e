/- Totals, costs, counts: no claim of its own. -/
import Derived.Test.YtdlpolnnhhnecaaDoorBRead
import Derived.IntWalk
namespace Go.Proofs.YtdlpolnnhhnecaaDoor
open Go.RowKit
def totB (b : List Int) : Nat → Int
  | 0 => 0
  | i + 1 => wrap64 (totB b i + MB.at_ b i)
def cstB (p b : List Int) : Nat → Int
  | 0 => 0
  | i + 1 => wrap64 (cstB p b i + wrap64 (MB.at_ p i * MB.at_ b i))
/-- What Count answers. -/
def cntB (s : List Int) : Int := if MB.okB s then (if MB.P s 6 ≤ 1024 then (MB.P s 6 : Int) else 0) else 0
theorem okB_at {b : List Int} (h : MB.okB b = true) {k : Nat} (hk : k < b.length) : 0 ≤ MB.at_ b k ∧ MB.at_ b k ≤ 4 := by
  unfold MB.okB at h
  rw [List.all_eq_true] at h
  have := h (MB.at_ b k) (by unfold MB.at_; rw [List.getD_eq_getElem?_getD, List.getElem?_eq_getElem hk]; exact List.getElem_mem hk)
  simp at this
  exact this
theorem P_next {s : List Int} (h : MB.okB s = true) (hl : s.length = 6) {k : Nat} (hk : k < 6) : ((MB.P s (k + 1) : Nat) : Int) = (MB.P s k : Int) * (MB.at_ s k + 1) := by
  have := okB_at h (by rw [hl]; exact hk)
  rw [MB.P]
  push_cast
  rw [Int.toNat_of_nonneg this.1]
theorem P_le {s : List Int} (h : MB.okB s = true) (hl : s.length = 6) : ∀ k, k ≤ 6 → MB.P s k ≤ 5 ^ k
  | 0, _ => Nat.le_refl _
  | k + 1, hk => by
    have h1 := P_le h hl k (by omega)
    have h2 := okB_at h (k := k) (by rw [hl]; omega)
    rw [MB.P, Nat.pow_succ]
    exact Nat.mul_le_mul h1 (by omega)
theorem P_small {s : List Int} (h : MB.okB s = true) (hl : s.length = 6) {k : Nat} (hk : k ≤ 6) : MB.P s k ≤ 15625 :=
  Nat.le_trans (P_le h hl k hk) (Nat.le_trans (Nat.pow_le_pow_right (by decide) hk) (by decide))
theorem mul_in {p p' : Nat} {y : Int} (h : (p' : Int) = p * (y + 1)) (hp : p' ≤ 15625) : Value.int .i64 (wrap64 (p * (y + 1))) = .int .i64 (p' : Int) := by
  rw [← h]
  have : wrap64 (p' : Int) = p' := by unfold wrap64; omega
  rw [this]
theorem chk_ok {b : List Int} (h : MB.okB b = true) : chk b = 0 := if_pos h
theorem chk_no {b : List Int} (h : MB.okB b = false) : chk b = 4 := if_neg (by rw [h]; exact fun k => by cases k)
set_option maxRecDepth 100000 in
set_option maxHeartbeats 1000000 in
theorem cost_any (a b c d e f a' b' c' d' e' f' : Int) (w : World) : Calls Tryd.prog 59 #[.agg #[.int .i64 a, .int .i64 b, .int .i64 c, .int .i64 d, .int .i64 e, .int .i64 f], .agg #[.int .i64 a', .int .i64 b', .int .i64 c', .int .i64 d', .int .i64 e', .int .i64 f']] w
    (Gives (.int .i64 (cstB [a, b, c, d, e, f] [a', b', c', d', e', f'] 6)) w) := by
  obtain ⟨H1, H2⟩ := two_boxes w 89 29 a b c d e f a' b' c' d' e' f'
  have HB := Lib.hid (below_two w (.cells #[.int .i64 a, .int .i64 b, .int .i64 c, .int .i64 d, .int .i64 e, .int .i64 f] 89) (.cells #[.int .i64 a', .int .i64 b', .int .i64 c', .int .i64 d', .int .i64 e', .int .i64 f'] 29))
  obtain ⟨xs, hxs⟩ : ∃ xs, [a, b, c, d, e, f] = xs := ⟨_, rfl⟩
  obtain ⟨ys, hys⟩ : ∃ ys, [a', b', c', d', e', f'] = ys := ⟨_, rfl⟩
  have hi : ∀ (k : Nat), k < 6 → ∀ w : World, (Instr.index 29 (.agg #[.int .i64 a', .int .i64 b', .int .i64 c', .int .i64 d', .int .i64 e', .int .i64 f']) (.int .i64 k)).run Tryd.prog w = .ok (.int .i64 (MB.at_ ys k)) w :=
    fun k hk w => by rw [← hys]; exact index_lit a' b' c' d' e' f' k hk w
  have HI := Lib.hid hi
  have HX := Lib.hid hxs
  have HY := Lib.hid hys
  rw [hxs] at H1
  rw [hys] at H2
  clear hxs hys hi
  have G1 := Lib.hid H1
  have G2 := Lib.hid H2
  clear H1 H2
  go_enter Tryd.func59, Tryd.ntmps59
  go_wp2
  obtain ⟨W, hW⟩ : ∃ W, W = (w.alloc (.cells #[.int .i64 a, .int .i64 b, .int .i64 c, .int .i64 d, .int .i64 e, .int .i64 f] 89)).alloc (.cells #[.int .i64 a', .int .i64 b', .int .i64 c', .int .i64 d', .int .i64 e', .int .i64 f'] 29) := ⟨_, rfl⟩
  rw [← hW] at G1 G2 HB ⊢
  clear hW
  go_loopw [5, 6, 7, 9] (fun t _ _ i wr => ∃ k q : Nat, k ≤ 6 ∧ i = .int .i64 k ∧ t = .int .i64 (cstB xs ys k) ∧ wr = W.drewN q) (fun _ _ _ i _ => 6 - (intOf i).toNat)
  case atStart => exact ⟨0, 0, Nat.zero_le _, rfl, rfl, rfl⟩
  case round =>
    obtain ⟨k, q, hk, rfl, rfl, rfl⟩ := hrel
    by_cases hlt : k < 6
    · have c1 := G1.out.cell hlt
      have c2 := HI.out k hlt
      go_wp2
      go_roundw
      case rel => exact ⟨k + 1, _, by omega, by go_num, rfl, rfl⟩
      case measure => simp [intOf]; omega
    · obtain rfl : k = 6 := by omega
      go_wp2
      go_ret
      exact ⟨ret_int (by rw [HX.out, HY.out]), below_drewN HB.out _⟩
set_option maxRecDepth 100000 in
set_option maxHeartbeats 1000000 in
theorem base_any (a b c d e f : Int) (k : Nat) (hk : k < 6) (h0 : 0 ≤ MB.at_ [a, b, c, d, e, f] k) (h4 : MB.at_ [a, b, c, d, e, f] k ≤ 4) (w : World) :
    Calls Tryd.prog 58 #[.agg #[.int .i64 a, .int .i64 b, .int .i64 c, .int .i64 d, .int .i64 e, .int .i64 f], .int .i64 k] w (Gives (.int .i64 (MB.at_ [a, b, c, d, e, f] k + 1)) w) := by
  have H1 := (BB.new w 29 a b c d e f).cell hk
  generalize MB.at_ [a, b, c, d, e, f] k = y at H1 h0 h4 ⊢
  go_enter Tryd.func58, Tryd.ntmps58
  go_wp2
  go_ret
  exact ⟨rfl, below_new _ _⟩
set_option maxRecDepth 100000 in
set_option maxHeartbeats 1000000 in
theorem count_any (a b c d e f : Int) (w : World) : Calls Tryd.prog 37 #[.agg #[.int .i64 a, .int .i64 b, .int .i64 c, .int .i64 d, .int .i64 e, .int .i64 f]] w (Gives (.int .i64 (cntB [a, b, c, d, e, f])) w) := by
  have HC := Lib.hid (bcheck_any a b c d e f (w.alloc (.cells #[.int .i64 a, .int .i64 b, .int .i64 c, .int .i64 d, .int .i64 e, .int .i64 f] 29)))
  have H1 := Lib.hid (BB.new w 29 a b c d e f)
  have HN := Lib.hid (below_new w (.cells #[.int .i64 a, .int .i64 b, .int .i64 c, .int .i64 d, .int .i64 e, .int .i64 f] 29))
  by_cases hok : MB.okB [a, b, c, d, e, f] = true
  · rw [chk_ok hok] at HC
    have h04 : ∀ k, k < 6 → 0 ≤ MB.at_ [a, b, c, d, e, f] k ∧ MB.at_ [a, b, c, d, e, f] k ≤ 4 := fun k hk => okB_at hok hk
    have hpn : ∀ k, k < 6 → ((MB.P [a, b, c, d, e, f] (k + 1) : Nat) : Int) = (MB.P [a, b, c, d, e, f] k : Int) * (MB.at_ [a, b, c, d, e, f] k + 1) := fun k hk => P_next hok rfl hk
    have hps : ∀ k, k ≤ 6 → MB.P [a, b, c, d, e, f] k ≤ 15625 := fun k hk => P_small hok rfl hk
    have hcn : cntB [a, b, c, d, e, f] = if MB.P [a, b, c, d, e, f] 6 ≤ 1024 then (MB.P [a, b, c, d, e, f] 6 : Int) else 0 := if_pos hok
    have HBa := Lib.hid (fun k hk => base_any a b c d e f k hk (h04 k hk).1 (h04 k hk).2)
    obtain ⟨xs, hxs⟩ : ∃ xs, [a, b, c, d, e, f] = xs := ⟨_, rfl⟩
    rw [hxs] at H1 h04 hpn hps hcn HBa ⊢
    have HS := Lib.hid h04
    have HPN := Lib.hid hpn
    have HPS := Lib.hid hps
    have HCN := Lib.hid hcn
    have HXE := Lib.hid hxs
    clear hxs hok h04 hpn hps hcn
    go_enter Tryd.func37, Tryd.ntmps37
    go_wp2_with fail
    refine (HC.out).mono ?_
    rintro e1 w1 ⟨rfl, hb⟩
    have HW := Lib.hid (HN.out.trans (hb.mono (by simp)))
    have K1 := Lib.hid (H1.out.keep hb H1.out.lt)
    clear hb HC H1 HN
    go_wp2
    go_loopw [3, 4, 8] (fun t _ i wr => ∃ k : Nat, k ≤ 6 ∧ i = .int .i64 k ∧ t = .int .i64 (MB.P xs k : Nat) ∧ BB wr w.heap.size 29 xs ∧ Below w.heap.size w wr) (fun _ _ i _ => 6 - (intOf i).toNat)
    case atStart => exact ⟨0, Nat.zero_le _, rfl, rfl, K1.out, HW.out⟩
    case round =>
      obtain ⟨k, hk, rfl, rfl, hbb, hbw⟩ := hrel
      have HB := Lib.hid hbb
      have HW' := Lib.hid hbw
      clear hbb hbw K1 HW
      by_cases hlt : k < 6
      · have hy := HS.out k hlt
        have hpn := HPN.out k hlt
        have hp1 := HPS.out k hk
        have hp2 := HPS.out (k + 1) hlt
        have HBk := Lib.hid (HBa.out k hlt)
        have c1 := HB.out.cell hlt
        generalize MB.at_ xs k = y at *
        obtain ⟨hy0, hy4⟩ := hy
        generalize hq : MB.P xs (k + 1) = p' at *
        generalize MB.P xs k = p at *
        have HQ := Lib.hid hq
        have HE := Lib.hid hpn
        clear hq hpn
        obtain ⟨c2, c3, c4, c5, c6, c7⟩ : wr.cell? ⟨w.heap.size, 0, none⟩ = some (.int .i64 a) ∧ wr.cell? ⟨w.heap.size, 1, none⟩ = some (.int .i64 b) ∧ wr.cell? ⟨w.heap.size, 2, none⟩ = some (.int .i64 c) ∧ wr.cell? ⟨w.heap.size, 3, none⟩ = some (.int .i64 d) ∧ wr.cell? ⟨w.heap.size, 4, none⟩ = some (.int .i64 e) ∧ wr.cell? ⟨w.heap.size, 5, none⟩ = some (.int .i64 f) := by
          have h := HB.out
          rw [← HXE.out] at h
          exact ⟨h.cell (k := 0) (by decide), h.cell (k := 1) (by decide), h.cell (k := 2) (by decide), h.cell (k := 3) (by decide), h.cell (k := 4) (by decide), h.cell (k := 5) (by decide)⟩
        clear c1
        go_wp2_with fail
        refine (HBk.out _).mono ?_
        rintro e2 w2 ⟨rfl, hb⟩
        have HW2 := Lib.hid (HW'.out.trans (hb.mono HW'.out.size))
        have HB2 := Lib.hid (HB.out.keep hb HB.out.lt)
        clear hb HB HW' c2 c3 c4 c5 c6 c7
        go_wp2
        go_roundw
        case rel => exact ⟨k + 1, by omega, by go_num, by rw [HQ.out]; exact mul_in HE.out hp2, HB2.out, HW2.out⟩
        case measure => simp [intOf]; omega
      · obtain rfl : k = 6 := by omega
        have hcn := HCN.out
        clear HBa HS HPN HPS
        by_cases hle : MB.P xs 6 ≤ 1024
        · rw [if_pos hle] at hcn
          have HC1 := Lib.hid hcn
          clear hcn HCN
          generalize MB.P xs 6 = p at *
          go_wp2
          go_ret
          exact ⟨ret_int HC1.out.symm, HW'.out⟩
        · rw [if_neg hle] at hcn
          have HC1 := Lib.hid hcn
          clear hcn HCN
          generalize MB.P xs 6 = p at *
          go_wp2
          go_ret
          exact ⟨ret_int HC1.out.symm, HW'.out⟩
  · rw [chk_no (by simpa using hok)] at HC
    have hcn : cntB [a, b, c, d, e, f] = 0 := if_neg hok
    have HCN := Lib.hid hcn
    clear hcn hok
    go_enter Tryd.func37, Tryd.ntmps37
    go_wp2_with fail
    refine (HC.out).mono ?_
    rintro e1 w1 ⟨rfl, hb⟩
    have HW := Lib.hid (HN.out.trans (hb.mono (by simp)))
    clear hb HC H1 HN
    go_wp2
    go_ret
    exact ⟨ret_int HCN.out.symm, HW.out⟩
end Go.Proofs.YtdlpolnnhhnecaaDoor
