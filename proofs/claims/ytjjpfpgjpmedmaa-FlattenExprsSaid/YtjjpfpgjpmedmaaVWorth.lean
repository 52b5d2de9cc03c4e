/- worth, rankBelow: no claim of its own. -/
import Derived.Test.YtjjpfpgjpmedmaaVSteps
import Derived.Test.YtjjpfpgjpmedmaaBRank
import Derived.Test.YtjjpfpgjpmedmaaBUnr
namespace Go.Proofs.Ytjjpfpgjpmedmaa
open Go.RowKit
theorem take_snoc' {α} {S : List α} {k : Nat} {p : α} (h : S[k]? = some p) : S.take (k + 1) = S.take k ++ [p] := by
  rw [List.take_add_one, h]; rfl
theorem worth_yes {S : VV.St} {k : Nat} {p : List Int × Int} {x : List Int} (h : S[k]? = some p) (hw : MB.withinB p.1 x 6 = true) (hv : VV.worth (S.take k) x < p.2) : VV.worth (S.take (k + 1)) x = p.2 := by
  rw [take_snoc' h, VV.worth_snoc, if_pos (show VV.leB p.1 x = true from hw)]; omega
theorem worth_no1 {S : VV.St} {k : Nat} {p : List Int × Int} {x : List Int} (h : S[k]? = some p) (hv : p.2 ≤ VV.worth (S.take k) x) : VV.worth (S.take (k + 1)) x = VV.worth (S.take k) x := by
  rw [take_snoc' h, VV.worth_snoc]; split <;> omega
theorem worth_no2 {S : VV.St} {k : Nat} {p : List Int × Int} {x : List Int} (h : S[k]? = some p) (hw : MB.withinB p.1 x 6 = false) : VV.worth (S.take (k + 1)) x = VV.worth (S.take k) x := by
  rw [take_snoc' h, VV.worth_snoc, if_neg]
  intro g
  rw [show VV.leB p.1 x = false from hw] at g
  cases g
set_option maxRecDepth 100000 in
set_option maxHeartbeats 2000000 in
theorem worth_any (S : VV.St) (A : Option Addr) (n cp : Nat) (a b c d e f : Int) (w : World) (hS : StW w A n cp S) : Calls Try.prog 83 #[.slice A n cp, .agg #[.int .i64 a, .int .i64 b, .int .i64 c, .int .i64 d, .int .i64 e, .int .i64 f]] w (Gives (.int .i64 (VV.worth S [a, b, c, d, e, f])) w) := by
  have H1 := Lib.hid (BB.new w 24 a b c d e f)
  have HN := Lib.hid (below_new w (.cells #[.int .i64 a, .int .i64 b, .int .i64 c, .int .i64 d, .int .i64 e, .int .i64 f] 24))
  have RW := Lib.hid (hS.keep HN.out)
  have hn := hS.few
  have HLen := Lib.hid hS.len
  have HWi := Lib.hid (fun x0 x1 x2 x3 x4 x5 w => within_any x0 x1 x2 x3 x4 x5 a b c d e f w)
  obtain ⟨W0, hW0⟩ : ∃ F : VV.St → Int, F = fun T => VV.worth T [a, b, c, d, e, f] := ⟨_, rfl⟩
  have hN : VV.worth S [a, b, c, d, e, f] = W0 (S.take n) := by rw [hW0, ← hS.len, List.take_length]
  rw [hN]
  have HW0 := Lib.hid hW0
  clear hN hW0 hS
  go_enter Try.func83, Try.ntmps83
  go_wp2
  generalize w.alloc (.cells #[.int .i64 a, .int .i64 b, .int .i64 c, .int .i64 d, .int .i64 e, .int .i64 f] 24) = W at *
  go_loopw [5, 10] (fun t i wr => ∃ k : Nat, k ≤ n ∧ i = .int .i64 k ∧ t = .int .i64 (W0 (S.take k)) ∧ BB wr w.heap.size 24 [a, b, c, d, e, f] ∧ StW wr A n cp S ∧ Below w.heap.size w wr) (fun _ i _ => n - (intOf i).toNat)
  case atStart => exact ⟨0, Nat.zero_le _, rfl, by rw [HW0.out]; rfl, H1.out, RW.out, HN.out⟩
  case round =>
    obtain ⟨k, hk, rfl, rfl, hbb, hst, hbw⟩ := hrel
    have K := Lib.hid hbb
    have R := Lib.hid hst
    have HB := Lib.hid hbw
    clear hbb hst hbw H1 HN RW
    by_cases hlt : k < n
    · obtain ⟨ad, x0, x1, x2, x3, x4, x5, v, rfl, hrow, hadl, e0, e1, e2, e3, e4, e5, e6⟩ := R.out.at_ hlt
      have HR := Lib.hid hrow
      clear hrow
      have Y1 := Lib.hid (fun (h : MB.withinB [x0, x1, x2, x3, x4, x5] [a, b, c, d, e, f] 6 = true) (hv : W0 (S.take k) < v) => (by
        rw [HW0.out] at hv ⊢
        exact (worth_yes HR.out h hv).symm : v = W0 (S.take (k + 1))))
      have Y2 := Lib.hid (fun (hv : v ≤ W0 (S.take k)) => (by
        rw [HW0.out] at hv ⊢
        exact (worth_no1 HR.out hv).symm : W0 (S.take k) = W0 (S.take (k + 1))))
      have Y3 := Lib.hid (fun (h : MB.withinB [x0, x1, x2, x3, x4, x5] [a, b, c, d, e, f] 6 = false) => (by
        rw [HW0.out]
        exact (worth_no2 HR.out h).symm : W0 (S.take k) = W0 (S.take (k + 1))))
      generalize W0 (S.take k) = m at *
      generalize hm' : W0 (S.take (k + 1)) = m' at *
      have HM := Lib.hid hm'
      clear hm'
      go_upto_region 5 with (fail)
      have hh := heap_new wr (.cells #[.int .i64 x0, .int .i64 x1, .int .i64 x2, .int .i64 x3, .int .i64 x4, .int .i64 x5, .int .i64 v] 127)
      have q0 := (cell_of_row _ _ 0 _ _ _ hh).trans rfl
      have q1 := (cell_of_row _ _ 1 _ _ _ hh).trans rfl
      have q2 := (cell_of_row _ _ 2 _ _ _ hh).trans rfl
      have q3 := (cell_of_row _ _ 3 _ _ _ hh).trans rfl
      have q4 := (cell_of_row _ _ 4 _ _ _ hh).trans rfl
      have q5 := (cell_of_row _ _ 5 _ _ _ hh).trans rfl
      have q6 := (cell_of_row _ _ 6 _ _ _ hh).trans rfl
      have hn1 := below_new wr (.cells #[.int .i64 x0, .int .i64 x1, .int .i64 x2, .int .i64 x3, .int .i64 x4, .int .i64 x5, .int .i64 v] 127)
      have K1 := Lib.hid (K.out.keep hn1 K.out.lt)
      have R1 := Lib.hid (R.out.keep hn1)
      have HB1 := Lib.hid (HB.out.trans (hn1.mono HB.out.size))
      have hB1 : wr.heap.size < (wr.alloc (.cells #[.int .i64 x0, .int .i64 x1, .int .i64 x2, .int .i64 x3, .int .i64 x4, .int .i64 x5, .int .i64 v] 127)).heap.size := by simp
      generalize wr.alloc (.cells #[.int .i64 x0, .int .i64 x1, .int .i64 x2, .int .i64 x3, .int .i64 x4, .int .i64 x5, .int .i64 v] 127) = w1 at *
      generalize wr.heap.size = B1 at *
      clear hh hn1 e0 e1 e2 e3 e4 e5 e6 hadl K R HB
      by_cases hv : m < v
      · have hd : decide (m < v) = true := decide_eq_true hv
        obtain ⟨r0, r1, r2, r3, r4, r5⟩ := cells6 K1.out
        have HC := Lib.hid (HWi.out x0 x1 x2 x3 x4 x5)
        by_cases h : MB.withinB [x0, x1, x2, x3, x4, x5] [a, b, c, d, e, f] 6 = true
        · rw [h] at HC
          go_wp2_with fail
          refine (HC.out _).mono ?_
          rintro e2 w2 ⟨rfl, hb⟩
          have q6' := (hb.cell (p := ⟨B1, 6, none⟩) hB1).trans q6
          have K2 := Lib.hid (K1.out.keep hb K1.out.lt)
          have R2 := Lib.hid (R1.out.keep hb)
          have HB2 := Lib.hid (HB1.out.trans (hb.mono HB1.out.size))
          clear q0 q1 q2 q3 q4 q5 q6 r0 r1 r2 r3 r4 r5 K1 R1 HB1 hb
          go_wp2
          go_roundw
          case rel => exact ⟨k + 1, by omega, by go_num, by rw [Y1.out h hv, HM.out], K2.out, R2.out, HB2.out⟩
          case measure => simp [intOf]; omega
        · have h' : MB.withinB [x0, x1, x2, x3, x4, x5] [a, b, c, d, e, f] 6 = false := by simpa using h
          rw [h'] at HC
          go_wp2_with fail
          refine (HC.out _).mono ?_
          rintro e2 w2 ⟨rfl, hb⟩
          have K2 := Lib.hid (K1.out.keep hb K1.out.lt)
          have R2 := Lib.hid (R1.out.keep hb)
          have HB2 := Lib.hid (HB1.out.trans (hb.mono HB1.out.size))
          clear q0 q1 q2 q3 q4 q5 q6 r0 r1 r2 r3 r4 r5 K1 R1 HB1 hb
          go_wp2
          go_roundw
          case rel => exact ⟨k + 1, by omega, by go_num, by rw [Y3.out h', HM.out], K2.out, R2.out, HB2.out⟩
          case measure => simp [intOf]; omega
      · have hd : decide (m < v) = false := decide_eq_false hv
        go_wp2
        go_roundw
        case rel => exact ⟨k + 1, by omega, by go_num, by rw [Y2.out (by omega), HM.out], K1.out, R1.out, HB1.out⟩
        case measure => simp [intOf]; omega
    · obtain rfl : k = n := by omega
      go_wp2
      go_ret
      exact ⟨rfl, HB.out⟩
theorem below_set {b : List Int} (hb : b.length = 6) {k : Nat} (hk : k < 6) : b.set k (max 0 (MB.at_ b k - 1)) = VV.below b k := by
  obtain ⟨x0, x1, x2, x3, x4, x5, rfl⟩ := six hb
  match k, hk with
  | 0, _ => rfl
  | 1, _ => rfl
  | 2, _ => rfl
  | 3, _ => rfl
  | 4, _ => rfl
  | 5, _ => rfl
end Go.Proofs.Ytjjpfpgjpmedmaa
