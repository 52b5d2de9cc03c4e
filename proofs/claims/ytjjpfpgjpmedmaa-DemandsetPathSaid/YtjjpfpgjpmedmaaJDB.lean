/- DCnt, DRVal, DUtl, joined: no claim of its own. -/
import Derived.Test.YtjjpfpgjpmedmaaJDA
import Derived.Test.YtjjpfpgjpmedmaaJFR
import Derived.Test.YtjjpfpgjpmedmaaJFA
namespace Go.Proofs.Ytjjpfpgjpmedmaa
open Go.RowKit
attribute [local go_sem] Oper.semAt_some
theorem cnt_take_yes {l : List MF.Of} {k : Nat} {x : MF.Of} (h : l[k]? = some x) (hx : MD.cnts x = true) : MD.cntL (l.take k) ++ [x] = MD.cntL (l.take (k + 1)) := by
  unfold MD.cntL; rw [take_snoc' h, List.filter_append]; simp [hx]
theorem cnt_take_no {l : List MF.Of} {k : Nat} {x : MF.Of} (h : l[k]? = some x) (hx : MD.cnts x = false) : MD.cntL (l.take k) = MD.cntL (l.take (k + 1)) := by
  unfold MD.cntL; rw [take_snoc' h, List.filter_append]; simp [hx]
theorem cnt_len (l : List MF.Of) (k : Nat) : (MD.cntL (l.take k)).length ≤ k := by
  unfold MD.cntL
  exact Nat.le_trans (List.length_filter_le _ _) (by rw [List.length_take]; omega)
set_option maxRecDepth 100000 in
set_option maxHeartbeats 4000000 in
theorem counting_any (A : Option Addr) (n c : Nat) (l : List MF.Of) (hn : n ≤ 100000) (w : World) (hl : Lst ofE w A n c l) : Calls Try.prog 48 #[.slice A n c] w (GivesL ofE (MD.cntL l) w) := by
  have HL := Lib.hid hl
  have HLN := Lib.hid hl.len
  clear hl
  obtain ⟨i1, hi1, hy0, hy1, hy2⟩ := info_parts infoOff
  go_enter Try.func48, Try.ntmps48
  go_wp2_with fail
  go_loopw [3, 8] (fun v i wr => ∃ k : Nat, k ≤ n ∧ i = .int .i64 k ∧ OwnL ofE 60 wr w.heap.size v (MD.cntL (l.take k)) ∧ Below w.heap.size w wr) (fun _ i _ => n - (intOf i).toNat)
  case atStart => exact ⟨0, Nat.zero_le _, rfl, OwnL.nil _ _ _, Below.refl _ _⟩
  case round =>
    obtain ⟨k, hk, rfl, hown, hbw⟩ := hrel
    have O0 := Lib.hid hown
    have B0 := Lib.hid hbw
    clear hown hbw
    have hlen := cnt_len l k
    by_cases hlt : k < n
    · obtain ⟨ad, x, rfl, hrow, hfx, hadl, e0, e1, e2, e3, e4, e5, e6, e7⟩ := of_at (HL.out.keep B0.out) hlt
      have HY := Lib.hid (cnt_take_yes hrow)
      have HN := Lib.hid (cnt_take_no hrow)
      have HFX := Lib.hid hfx
      obtain ⟨xi, x0, x1, x2, x3, x4, x5, xv⟩ := x
      dsimp only at e0 e1 e2 e3 e4 e5 e6 e7
      clear hrow hfx
      generalize MD.cntL (l.take k) = Rs at *
      obtain ⟨Rs', hRS⟩ : ∃ R, R = MD.cntL (l.take (k + 1)) := ⟨_, rfl⟩
      rw [← hRS] at HY HN
      have HRS := Lib.hid hRS.symm
      clear hRS
      go_upto_region 5 with (fail)
      have nb := below_new wr (.cells #[.int .i64 xi, .int .i64 x0, .int .i64 x1, .int .i64 x2, .int .i64 x3, .int .i64 x4, .int .i64 x5, .int .i64 xv] 60)
      have X1 := Lib.hid (heap_new wr (.cells #[.int .i64 xi, .int .i64 x0, .int .i64 x1, .int .i64 x2, .int .i64 x3, .int .i64 x4, .int .i64 x5, .int .i64 xv] 60))
      have O1 := Lib.hid (O0.out.keep nb)
      have B1 := Lib.hid (B0.out.trans (nb.mono B0.out.size))
      have hz : wr.heap.size < (wr.alloc (.cells #[.int .i64 xi, .int .i64 x0, .int .i64 x1, .int .i64 x2, .int .i64 x3, .int .i64 x4, .int .i64 x5, .int .i64 xv] 60)).heap.size := by simp
      generalize wr.alloc (.cells #[.int .i64 xi, .int .i64 x0, .int .i64 x1, .int .i64 x2, .int .i64 x3, .int .i64 x4, .int .i64 x5, .int .i64 xv] 60) = w1 at *
      generalize wr.heap.size = Bx at *
      clear nb e0 e1 e2 e3 e4 e5 e6 e7 O0 B0 hadl
      have q1 := (cell_of_row _ _ 1 _ _ _ X1.out).trans rfl
      have q2 := (cell_of_row _ _ 2 _ _ _ X1.out).trans rfl
      have q3 := (cell_of_row _ _ 3 _ _ _ X1.out).trans rfl
      have q4 := (cell_of_row _ _ 4 _ _ _ X1.out).trans rfl
      have q5 := (cell_of_row _ _ 5 _ _ _ X1.out).trans rfl
      have q6 := (cell_of_row _ _ 6 _ _ _ X1.out).trans rfl
      have q7 := (cell_of_row _ _ 7 _ _ _ X1.out).trans rfl
      by_cases h1 : 1 ≤ xv
      · by_cases h2 : xv ≤ 1000000
        · cases hok : MB.okB [x0, x1, x2, x3, x4, x5] with
          | true =>
            have HE := Lib.hid (HY.out (show (decide (1 ≤ xv) && (decide (xv ≤ 1000000) && MB.okB [x0, x1, x2, x3, x4, x5])) = true from by rw [hok, decide_eq_true h1, decide_eq_true h2]; rfl))
            have HC := Lib.hid (bcheck_any x0 x1 x2 x3 x4 x5)
            rw [chk_ok hok] at HC
            clear HY HN hok
            go_wp2_with fail
            refine (HC.out _).mono ?_
            rintro ev w2 ⟨rfl, nb⟩
            have X2 := Lib.hid ((nb.block _ hz).trans X1.out)
            have O2 := Lib.hid (O1.out.keep nb)
            have B2 := Lib.hid (B1.out.trans (nb.mono B1.out.size))
            clear nb HC O1 B1 q1 q2 q3 q4 q5 q6 q7 X1 h1 h2 hz
            have q0 := (cell_of_row _ _ 0 _ _ _ X2.out).trans rfl
            have q1 := (cell_of_row _ _ 1 _ _ _ X2.out).trans rfl
            have q2 := (cell_of_row _ _ 2 _ _ _ X2.out).trans rfl
            have q3 := (cell_of_row _ _ 3 _ _ _ X2.out).trans rfl
            have q4 := (cell_of_row _ _ 4 _ _ _ X2.out).trans rfl
            have q5 := (cell_of_row _ _ 5 _ _ _ X2.out).trans rfl
            have q6 := (cell_of_row _ _ 6 _ _ _ X2.out).trans rfl
            have q7 := (cell_of_row _ _ 7 _ _ _ X2.out).trans rfl
            have hX := heap_new w2 (.cells #[.int .i64 xi, .int .i64 x0, .int .i64 x1, .int .i64 x2, .int .i64 x3, .int .i64 x4, .int .i64 x5, .int .i64 xv] 60)
            have K3 := Lib.hid (O2.out.keep (below_new w2 (.cells #[.int .i64 xi, .int .i64 x0, .int .i64 x1, .int .i64 x2, .int .i64 x3, .int .i64 x4, .int .i64 x5, .int .i64 xv] 60)))
            have HB3 := Lib.hid (B2.out.trans ((below_new w2 (.cells #[.int .i64 xi, .int .i64 x0, .int .i64 x1, .int .i64 x2, .int .i64 x3, .int .i64 x4, .int .i64 x5, .int .i64 xv] 60)).mono B2.out.size))
            have hs3 : w.heap.size ≤ (w2.alloc (.cells #[.int .i64 xi, .int .i64 x0, .int .i64 x1, .int .i64 x2, .int .i64 x3, .int .i64 x4, .int .i64 x5, .int .i64 xv] 60)).heap.size := HB3.out.size
            go_wp2_with (at_builtin; refine wpList_append_own _ rfl _ _ 22 rfl w.heap.size 60 i1 (.agg #[.int .i64 0, .int .i64 0, .int .i64 0, .int .i64 0, .int .i64 0, .int .i64 0, .int .i64 0, .int .i64 0]) 8 64 Try.underlying22 hi1 hy0 hy1 hy2 rfl (by decide) _ _ _ rfl K3.out.1 ⟨w2.heap.size, 0, none⟩ 1 1 [.int .i64 xi, .int .i64 x0, .int .i64 x1, .int .i64 x2, .int .i64 x3, .int .i64 x4, .int .i64 x5, .int .i64 xv] rfl rfl ?c1 ?c2 ?c3 ?c4 ?c5 ?_)
            case c1 => exact World.news_of_block hX
            case c2 => exact ofE.one ⟨xi, x0, x1, x2, x3, x4, x5, xv⟩
            case c3 => unfold maxLen; omega
            case c4 => omega
            case c5 => exact hs3
            intro v' w4 hown' hgrow _
            have RR := K3.out.app (x := ⟨xi, x0, x1, x2, x3, x4, x5, xv⟩) HFX.out HB3.out HB3.out.size (by exact hown') hgrow
            have K4 := Lib.hid RR.1
            have HB4 := Lib.hid RR.2
            clear RR hown' hgrow K3 HB3 hX q0 q1 q2 q3 q4 q5 q6 q7 O2 B2
            rw [HE.out] at K4
            go_wp2
            go_roundw
            case rel => exact ⟨k + 1, by omega, by go_num, by rw [HRS.out]; exact K4.out, HB4.out⟩
            case measure => simp [intOf]; omega
          | false =>
            have HE := Lib.hid (HN.out (show (decide (1 ≤ xv) && (decide (xv ≤ 1000000) && MB.okB [x0, x1, x2, x3, x4, x5])) = false from by rw [hok]; simp))
            have HC := Lib.hid (bcheck_any x0 x1 x2 x3 x4 x5)
            rw [chk_no hok] at HC
            clear HY HN hok
            go_wp2_with fail
            refine (HC.out _).mono ?_
            rintro ev w2 ⟨rfl, nb⟩
            have O2 := Lib.hid (O1.out.keep nb)
            have B2 := Lib.hid (B1.out.trans (nb.mono B1.out.size))
            clear nb HC O1 B1 q1 q2 q3 q4 q5 q6 q7 X1 h1 h2
            go_wp2
            go_roundw
            case rel => exact ⟨k + 1, by omega, by go_num, by rw [HRS.out, ← HE.out]; exact O2.out, B2.out⟩
            case measure => simp [intOf]; omega
        · have HE := Lib.hid (HN.out (show (decide (1 ≤ xv) && (decide (xv ≤ 1000000) && MB.okB [x0, x1, x2, x3, x4, x5])) = false from by rw [decide_eq_false h2]; simp))
          clear HY HN
          go_wp2
          go_roundw
          case rel => exact ⟨k + 1, by omega, by go_num, by rw [HRS.out, ← HE.out]; exact O1.out, B1.out⟩
          case measure => simp [intOf]; omega
      · have HE := Lib.hid (HN.out (show (decide (1 ≤ xv) && (decide (xv ≤ 1000000) && MB.okB [x0, x1, x2, x3, x4, x5])) = false from by rw [decide_eq_false h1]; simp))
        clear HY HN
        go_wp2
        go_roundw
        case rel => exact ⟨k + 1, by omega, by go_num, by rw [HRS.out, ← HE.out]; exact O1.out, B1.out⟩
        case measure => simp [intOf]; omega
    · have hin : k = l.length := by rw [HLN.out]; omega
      rw [hin, List.take_length] at O0
      rw [hin, List.take_length] at hlen
      obtain ⟨A8, c8, hv8, hl8, _⟩ := O0.out.form2 (by rw [HLN.out] at hlen; omega)
      have L8 := Lib.hid hl8
      clear hl8 hin
      subst hv8
      go_wp2
      go_ret
      exact ⟨A8, _, c8, rfl, L8.out, B0.out⟩
end Go.Proofs.Ytjjpfpgjpmedmaa
namespace Go.Proofs.Ytjjpfpgjpmedmaa
open Go.RowKit
attribute [local go_sem] Oper.semAt_some
theorem val_step {l : List MF.Of} {k : Nat} {x : MF.Of} {b : List Int} (h : l[k]? = some x) : MD.val (l.take (k + 1)) b = if MD.cnts x = true ∧ MB.withinB x.want b 6 = true ∧ MD.val (l.take k) b < x.value then x.value else MD.val (l.take k) b := by
  unfold MD.val
  cases hx : MD.cnts x with
  | false => rw [← cnt_take_no h hx, if_neg (fun q => Bool.false_ne_true q.1)]
  | true =>
    rw [← cnt_take_yes h hx, show MF.stp (MD.cntL (l.take k) ++ [x]) = MF.stp (MD.cntL (l.take k)) ++ [(x.want, x.value)] from by unfold MF.stp; rw [List.map_append]; rfl, VV.worth_snoc]
    show (if MB.withinB x.want b 6 = true then _ else _) = _
    by_cases h1 : MB.withinB x.want b 6 = true
    · rw [if_pos h1]
      by_cases h2 : VV.worth (MF.stp (MD.cntL (l.take k))) b < x.value
      · rw [if_pos ⟨rfl, h1, h2⟩]; show max _ x.value = _; omega
      · rw [if_neg (fun q => h2 q.2.2)]; show max _ x.value = _; omega
    · rw [if_neg h1, if_neg (fun q => h1 q.2.1)]
set_option maxRecDepth 100000 in
set_option maxHeartbeats 4000000 in
theorem rval15_any (l : List MF.Of) (A : Option Addr) (n cp : Nat) (a b c d e f : Int) (w : World) (hl : Lst ofE w A n cp l) : Calls Try.prog 50 #[.slice A n cp, .agg #[.int .i64 a, .int .i64 b, .int .i64 c, .int .i64 d, .int .i64 e, .int .i64 f]] w (Gives (.int .i64 (MD.val l [a, b, c, d, e, f])) w) := by
  have H1 := Lib.hid (BB.new w 24 a b c d e f)
  have HN := Lib.hid (below_new w (.cells #[.int .i64 a, .int .i64 b, .int .i64 c, .int .i64 d, .int .i64 e, .int .i64 f] 24))
  have RW := Lib.hid (hl.keep HN.out)
  have hn := hl.few
  have HWi := Lib.hid (fun x0 x1 x2 x3 x4 x5 w => rwithin_any x0 x1 x2 x3 x4 x5 a b c d e f w)
  obtain ⟨W0, hW0⟩ : ∃ F : List MF.Of → Int, F = fun T => MD.val T [a, b, c, d, e, f] := ⟨_, rfl⟩
  have hN : MD.val l [a, b, c, d, e, f] = W0 (l.take n) := by rw [hW0, ← hl.len, List.take_length]
  rw [hN]
  have HW0 := Lib.hid hW0
  clear hN hW0 hl
  go_enter Try.func50, Try.ntmps50
  go_wp2
  generalize w.alloc (.cells #[.int .i64 a, .int .i64 b, .int .i64 c, .int .i64 d, .int .i64 e, .int .i64 f] 24) = W at *
  go_loopw [5, 6] (fun t i wr => ∃ k : Nat, k ≤ n ∧ i = .int .i64 k ∧ t = .int .i64 (W0 (l.take k)) ∧ BB wr w.heap.size 24 [a, b, c, d, e, f] ∧ Lst ofE wr A n cp l ∧ Below w.heap.size w wr) (fun _ i _ => n - (intOf i).toNat)
  case atStart => exact ⟨0, Nat.zero_le _, rfl, by rw [HW0.out]; rfl, H1.out, RW.out, HN.out⟩
  case round =>
    obtain ⟨k, hk, rfl, rfl, hbb, hst, hbw⟩ := hrel
    have K := Lib.hid hbb
    have R := Lib.hid hst
    have HB := Lib.hid hbw
    clear hbb hst hbw H1 HN RW
    by_cases hlt : k < n
    · obtain ⟨ad, ⟨xi, x0, x1, x2, x3, x4, x5, xv⟩, rfl, hrow, _, hadl, e0, e1, e2, e3, e4, e5, e6, e7⟩ := of_at R.out hlt
      have HS := Lib.hid (show W0 (l.take (k + 1)) = if MD.cnts ⟨xi, x0, x1, x2, x3, x4, x5, xv⟩ = true ∧ MB.withinB [x0, x1, x2, x3, x4, x5] [a, b, c, d, e, f] 6 = true ∧ W0 (l.take k) < xv then xv else W0 (l.take k) from by rw [HW0.out]; exact val_step hrow)
      dsimp only at e0 e1 e2 e3 e4 e5 e6 e7
      clear hrow
      generalize W0 (l.take k) = m at *
      obtain ⟨m', hm'⟩ : ∃ m', m' = W0 (l.take (k + 1)) := ⟨_, rfl⟩
      rw [← hm'] at HS
      have HRS := Lib.hid hm'.symm
      clear hm'
      go_upto_region 6 with (fail)
      have nb := below_new wr (.cells #[.int .i64 xi, .int .i64 x0, .int .i64 x1, .int .i64 x2, .int .i64 x3, .int .i64 x4, .int .i64 x5, .int .i64 xv] 60)
      have X1 := Lib.hid (heap_new wr (.cells #[.int .i64 xi, .int .i64 x0, .int .i64 x1, .int .i64 x2, .int .i64 x3, .int .i64 x4, .int .i64 x5, .int .i64 xv] 60))
      have K1 := Lib.hid (K.out.keep nb K.out.lt)
      have R1 := Lib.hid (R.out.keep nb)
      have B1 := Lib.hid (HB.out.trans (nb.mono HB.out.size))
      generalize wr.alloc (.cells #[.int .i64 xi, .int .i64 x0, .int .i64 x1, .int .i64 x2, .int .i64 x3, .int .i64 x4, .int .i64 x5, .int .i64 xv] 60) = w1 at *
      generalize wr.heap.size = Bx at *
      clear nb e0 e1 e2 e3 e4 e5 e6 e7 K R HB hadl
      have q1 := (cell_of_row _ _ 1 _ _ _ X1.out).trans rfl
      have q2 := (cell_of_row _ _ 2 _ _ _ X1.out).trans rfl
      have q3 := (cell_of_row _ _ 3 _ _ _ X1.out).trans rfl
      have q4 := (cell_of_row _ _ 4 _ _ _ X1.out).trans rfl
      have q5 := (cell_of_row _ _ 5 _ _ _ X1.out).trans rfl
      have q6 := (cell_of_row _ _ 6 _ _ _ X1.out).trans rfl
      have q7 := (cell_of_row _ _ 7 _ _ _ X1.out).trans rfl
      cases hok : MB.okB [x0, x1, x2, x3, x4, x5] with
      | false =>
        have HC := Lib.hid (rbcheck_any x0 x1 x2 x3 x4 x5)
        rw [chk_no hok] at HC
        go_wp2_with fail
        refine (HC.out _).mono ?_
        rintro ev w2 ⟨rfl, nb⟩
        have K2 := Lib.hid (K1.out.keep nb K1.out.lt)
        have R2 := Lib.hid (R1.out.keep nb)
        have B2 := Lib.hid (B1.out.trans (nb.mono B1.out.size))
        have X2 := Lib.hid ((nb.block _ (Array.getElem?_eq_some_iff.1 X1.out).1).trans X1.out)
        clear nb K1 R1 B1 X1
        clear q1 q2 q3 q4 q5 q6 q7
        have q1 := (cell_of_row _ _ 1 _ _ _ X2.out).trans rfl
        have q2 := (cell_of_row _ _ 2 _ _ _ X2.out).trans rfl
        have q3 := (cell_of_row _ _ 3 _ _ _ X2.out).trans rfl
        have q4 := (cell_of_row _ _ 4 _ _ _ X2.out).trans rfl
        have q5 := (cell_of_row _ _ 5 _ _ _ X2.out).trans rfl
        have q6 := (cell_of_row _ _ 6 _ _ _ X2.out).trans rfl
        have q7 := (cell_of_row _ _ 7 _ _ _ X2.out).trans rfl
        have HE := Lib.hid (HS.out.trans (if_neg (by rintro ⟨h, _⟩; unfold MD.cnts at h; simp only [Bool.and_eq_true] at h; exact Bool.false_ne_true (hok.symm.trans h.2.2))))
        clear HS hok
        go_wp2
        go_roundw
        case rel => exact ⟨k + 1, by omega, by go_num, by rw [HRS.out, HE.out], K2.out, R2.out, B2.out⟩
        case measure => simp [intOf]; omega
      | true =>
        have HC := Lib.hid (rbcheck_any x0 x1 x2 x3 x4 x5)
        rw [chk_ok hok] at HC
        go_wp2_with fail
        refine (HC.out _).mono ?_
        rintro ev w2 ⟨rfl, nb⟩
        have K2 := Lib.hid (K1.out.keep nb K1.out.lt)
        have R2 := Lib.hid (R1.out.keep nb)
        have B2 := Lib.hid (B1.out.trans (nb.mono B1.out.size))
        have X2 := Lib.hid ((nb.block _ (Array.getElem?_eq_some_iff.1 X1.out).1).trans X1.out)
        clear nb K1 R1 B1 X1
        clear q1 q2 q3 q4 q5 q6 q7
        have q1 := (cell_of_row _ _ 1 _ _ _ X2.out).trans rfl
        have q2 := (cell_of_row _ _ 2 _ _ _ X2.out).trans rfl
        have q3 := (cell_of_row _ _ 3 _ _ _ X2.out).trans rfl
        have q4 := (cell_of_row _ _ 4 _ _ _ X2.out).trans rfl
        have q5 := (cell_of_row _ _ 5 _ _ _ X2.out).trans rfl
        have q6 := (cell_of_row _ _ 6 _ _ _ X2.out).trans rfl
        have q7 := (cell_of_row _ _ 7 _ _ _ X2.out).trans rfl
        by_cases h1 : 1 ≤ xv
        · by_cases h2 : xv ≤ 1000000
          · have HCN : Hid (MD.cnts ⟨xi, x0, x1, x2, x3, x4, x5, xv⟩ = true) := Lib.hid (show (decide (1 ≤ xv) && (decide (xv ≤ 1000000) && MB.okB [x0, x1, x2, x3, x4, x5])) = true from by rw [hok, decide_eq_true h1, decide_eq_true h2]; rfl)
            clear hok HC
            have HW := Lib.hid (HWi.out x0 x1 x2 x3 x4 x5)
            obtain ⟨r0, r1, r2, r3, r4, r5⟩ := cells6 K2.out
            cases hw : MB.withinB [x0, x1, x2, x3, x4, x5] [a, b, c, d, e, f] 6 with
            | false =>
              rw [hw] at HW
              go_wp2_with fail
              refine (HW.out _).mono ?_
              rintro ev w3 ⟨rfl, nb⟩
              have K3 := Lib.hid (K2.out.keep nb K2.out.lt)
              have R3 := Lib.hid (R2.out.keep nb)
              have B3 := Lib.hid (B2.out.trans (nb.mono B2.out.size))
              have X3 := Lib.hid ((nb.block _ (Array.getElem?_eq_some_iff.1 X2.out).1).trans X2.out)
              clear nb K2 R2 B2 X2
              clear r0 r1 r2 r3 r4 r5 q1 q2 q3 q4 q5 q6 q7
              have q1 := (cell_of_row _ _ 1 _ _ _ X3.out).trans rfl
              have q2 := (cell_of_row _ _ 2 _ _ _ X3.out).trans rfl
              have q3 := (cell_of_row _ _ 3 _ _ _ X3.out).trans rfl
              have q4 := (cell_of_row _ _ 4 _ _ _ X3.out).trans rfl
              have q5 := (cell_of_row _ _ 5 _ _ _ X3.out).trans rfl
              have q6 := (cell_of_row _ _ 6 _ _ _ X3.out).trans rfl
              have q7 := (cell_of_row _ _ 7 _ _ _ X3.out).trans rfl
              have HE := Lib.hid (HS.out.trans (if_neg (by rintro ⟨_, h, _⟩; exact Bool.false_ne_true (hw.symm.trans h))))
              clear HS hw
              go_wp2
              go_roundw
              case rel => exact ⟨k + 1, by omega, by go_num, by rw [HRS.out, HE.out], K3.out, R3.out, B3.out⟩
              case measure => simp [intOf]; omega
            | true =>
              rw [hw] at HW
              go_wp2_with fail
              refine (HW.out _).mono ?_
              rintro ev w3 ⟨rfl, nb⟩
              have K3 := Lib.hid (K2.out.keep nb K2.out.lt)
              have R3 := Lib.hid (R2.out.keep nb)
              have B3 := Lib.hid (B2.out.trans (nb.mono B2.out.size))
              have X3 := Lib.hid ((nb.block _ (Array.getElem?_eq_some_iff.1 X2.out).1).trans X2.out)
              clear nb K2 R2 B2 X2
              clear r0 r1 r2 r3 r4 r5 q1 q2 q3 q4 q5 q6 q7
              have q1 := (cell_of_row _ _ 1 _ _ _ X3.out).trans rfl
              have q2 := (cell_of_row _ _ 2 _ _ _ X3.out).trans rfl
              have q3 := (cell_of_row _ _ 3 _ _ _ X3.out).trans rfl
              have q4 := (cell_of_row _ _ 4 _ _ _ X3.out).trans rfl
              have q5 := (cell_of_row _ _ 5 _ _ _ X3.out).trans rfl
              have q6 := (cell_of_row _ _ 6 _ _ _ X3.out).trans rfl
              have q7 := (cell_of_row _ _ 7 _ _ _ X3.out).trans rfl
              by_cases hv : m < xv
              · have HE := Lib.hid (HS.out.trans (if_pos ⟨HCN.out, hw, hv⟩))
                clear HS hw HCN HW
                have hd : decide (m < xv) = true := decide_eq_true hv
                go_wp2
                go_roundw
                case rel => exact ⟨k + 1, by omega, by go_num, by rw [HRS.out, HE.out], K3.out, R3.out, B3.out⟩
                case measure => simp [intOf]; omega
              · have HE := Lib.hid (HS.out.trans (if_neg (by rintro ⟨_, _, h⟩; exact hv h)))
                clear HS hw HCN HW
                have hd : decide (m < xv) = false := decide_eq_false hv
                go_wp2
                go_roundw
                case rel => exact ⟨k + 1, by omega, by go_num, by rw [HRS.out, HE.out], K3.out, R3.out, B3.out⟩
                case measure => simp [intOf]; omega
          · clear hok HC
            have HE := Lib.hid (HS.out.trans (if_neg (by rintro ⟨h, _⟩; unfold MD.cnts at h; simp only [Bool.and_eq_true, decide_eq_true_eq] at h; exact h2 h.2.1)))
            clear HS
            go_wp2
            go_roundw
            case rel => exact ⟨k + 1, by omega, by go_num, by rw [HRS.out, HE.out], K2.out, R2.out, B2.out⟩
            case measure => simp [intOf]; omega
        · clear hok HC
          have HE := Lib.hid (HS.out.trans (if_neg (by rintro ⟨h, _⟩; unfold MD.cnts at h; simp only [Bool.and_eq_true, decide_eq_true_eq] at h; exact h1 h.1)))
          clear HS
          go_wp2
          go_roundw
          case rel => exact ⟨k + 1, by omega, by go_num, by rw [HRS.out, HE.out], K2.out, R2.out, B2.out⟩
          case measure => simp [intOf]; omega
    · obtain rfl : k = n := by omega
      go_wp2
      go_ret
      exact ⟨rfl, HB.out⟩
end Go.Proofs.Ytjjpfpgjpmedmaa
namespace Go.Proofs.Ytjjpfpgjpmedmaa
open Go.RowKit
attribute [local go_sem] Oper.semAt_some
/-- Two arrays of six in the call's first two boxes. -/
structure Two2 (w : World) (T1 T2 : TypeId) (p b : List Int) (X : World) : Prop where
  below : Below w.heap.size w X
  x : BB X w.heap.size T1 p
  y : BB X (w.heap.size + 1) T2 b
theorem Two2.keep {w X Y : World} {T1 T2 : TypeId} {p b : List Int} (h : Two2 w T1 T2 p b X) (hb : Below X.heap.size X Y) : Two2 w T1 T2 p b Y :=
  ⟨h.below.trans (hb.mono h.below.size), h.x.keep hb h.x.lt, h.y.keep hb h.y.lt⟩
theorem Two2.start (w : World) (T1 T2 : TypeId) (p0 p1 p2 p3 p4 p5 b0 b1 b2 b3 b4 b5 : Int) : Two2 w T1 T2 [p0, p1, p2, p3, p4, p5] [b0, b1, b2, b3, b4, b5] ((w.alloc (.cells #[.int .i64 p0, .int .i64 p1, .int .i64 p2, .int .i64 p3, .int .i64 p4, .int .i64 p5] T1)).alloc (.cells #[.int .i64 b0, .int .i64 b1, .int .i64 b2, .int .i64 b3, .int .i64 b4, .int .i64 b5] T2)) := by
  obtain ⟨h1, h2⟩ := two_boxes w T1 T2 p0 p1 p2 p3 p4 p5 b0 b1 b2 b3 b4 b5
  exact ⟨below_two w _ _, h1, h2⟩
set_option maxRecDepth 100000 in
set_option maxHeartbeats 8000000 in
theorem utility_any (A : Option Addr) (n c : Nat) (l : List MF.Of) (hn : n ≤ 100000) (p0 p1 p2 p3 p4 p5 b0 b1 b2 b3 b4 b5 : Int) (w : World) (hl : Lst ofE w A n c l) : Calls Try.prog 18 #[.slice A n c, .agg #[.int .i64 p0, .int .i64 p1, .int .i64 p2, .int .i64 p3, .int .i64 p4, .int .i64 p5], .agg #[.int .i64 b0, .int .i64 b1, .int .i64 b2, .int .i64 b3, .int .i64 b4, .int .i64 b5]] w (Gives (.int .i64 (MD.utE l [p0, p1, p2, p3, p4, p5] [b0, b1, b2, b3, b4, b5])) w) := by
  have S0 := Lib.hid (Two2.start w 39 24 p0 p1 p2 p3 p4 p5 b0 b1 b2 b3 b4 b5)
  have L0 := Lib.hid (hl.keep S0.out.below)
  have HC0 := Lib.hid (fun w' => bcheck_any b0 b1 b2 b3 b4 b5 w')
  have HP0 := Lib.hid (fun w' => valid_any p0 p1 p2 p3 p4 p5 w')
  have hmo : Try.prog.follows .mixedOrders = true := by kernel_rfl
  clear hl
  go_enter Try.func18, Try.ntmps18
  go_upto_region 1 with (fail)
  generalize (w.alloc (.cells #[.int .i64 p0, .int .i64 p1, .int .i64 p2, .int .i64 p3, .int .i64 p4, .int .i64 p5] 39)).alloc (.cells #[.int .i64 b0, .int .i64 b1, .int .i64 b2, .int .i64 b3, .int .i64 b4, .int .i64 b5] 24) = w1 at *
  obtain ⟨r0, r1, r2, r3, r4, r5⟩ := cells6 S0.out.y
  cases hok : MB.okB [b0, b1, b2, b3, b4, b5] with
  | false =>
    rw [chk_no hok] at HC0
    have HE := Lib.hid (show MD.utE l [p0, p1, p2, p3, p4, p5] [b0, b1, b2, b3, b4, b5] = 0 from if_neg (fun q => Bool.false_ne_true (hok.symm.trans q.1)))
    go_wp2_with fail
    refine (HC0.out _).mono ?_
    rintro ev w2 ⟨rfl, nb⟩
    have B2 := Lib.hid (S0.out.below.trans (nb.mono S0.out.below.size))
    clear nb r0 r1 r2 r3 r4 r5 S0 L0
    go_wp2
    go_ret
    exact ⟨by rw [HE.out]; rfl, B2.out⟩
  | true =>
    rw [chk_ok hok] at HC0
    go_wp2_with fail
    refine (HC0.out _).mono ?_
    rintro ev w2 ⟨rfl, nb⟩
    have S2 := Lib.hid (S0.out.keep nb)
    have L2 := Lib.hid (L0.out.keep nb)
    clear nb r0 r1 r2 r3 r4 r5 S0 L0
    obtain ⟨r0, r1, r2, r3, r4, r5⟩ := cells6 S2.out.x
    cases hpr : MD.prB [p0, p1, p2, p3, p4, p5] with
    | false =>
      rw [hpr] at HP0
      have HE := Lib.hid (show MD.utE l [p0, p1, p2, p3, p4, p5] [b0, b1, b2, b3, b4, b5] = 0 from if_neg (fun q => Bool.false_ne_true (hpr.symm.trans q.2)))
      go_wp2_with fail
      refine (HP0.out _).mono ?_
      rintro ev w3 ⟨rfl, nb⟩
      have B2 := Lib.hid (S2.out.below.trans (nb.mono S2.out.below.size))
      clear nb r0 r1 r2 r3 r4 r5 S2 L2
      go_wp2
      go_ret
      exact ⟨by rw [HE.out]; rfl, B2.out⟩
    | true =>
      rw [hpr] at HP0
      have HU0 := MD.utE_yes (L := l) (p := [p0, p1, p2, p3, p4, p5]) (b := [b0, b1, b2, b3, b4, b5]) hok hpr
      have hC := MD.cst_in hpr hok rfl rfl
      have hV := MD.val_in l [b0, b1, b2, b3, b4, b5]
      obtain ⟨V, hVe⟩ : ∃ V, V = MD.val l [b0, b1, b2, b3, b4, b5] := ⟨_, rfl⟩
      obtain ⟨C, hCe⟩ : ∃ C, C = cstB [p0, p1, p2, p3, p4, p5] [b0, b1, b2, b3, b4, b5] 6 := ⟨_, rfl⟩
      have HV0 := Lib.hid (fun A' n' c' w' (h : Lst ofE w' A' n' c' (MD.cntL l)) => show Calls Try.prog _ _ w' (Gives (.int .i64 (MD.val l [b0, b1, b2, b3, b4, b5])) w') from fval_any (MD.cntL l) A' n' c' b0 b1 b2 b3 b4 b5 w' h)
      have HK0 := Lib.hid (fun w' => cost_any p0 p1 p2 p3 p4 p5 b0 b1 b2 b3 b4 b5 w')
      have HU := Lib.hid (show MD.utE l [p0, p1, p2, p3, p4, p5] [b0, b1, b2, b3, b4, b5] = V - C from by rw [HU0, hVe, hCe]; rfl)
      clear HU0
      rw [← hVe] at hV
      rw [← hCe] at hC
      rw [← hVe] at HV0
      rw [← hCe] at HK0
      have HWR := Lib.hid (show IntKind.i64.wrap (V - C) = V - C from by first | exact Go.i64_in _ (by omega) | exact IntWalk.i64_in _ (by omega) | (simp only [IntKind.wrap, IntKind.bits, IntKind.signed]; simp; omega))
      have HWS := Lib.hid (show wrap64 (V - C) = V - C from by unfold wrap64; omega)
      clear hVe hCe hV hC hok hpr
      go_wp2_with fail
      refine (HP0.out _).mono ?_
      rintro ev w3 ⟨rfl, nb⟩
      have S3 := Lib.hid (S2.out.keep nb)
      have L3 := Lib.hid (L2.out.keep nb)
      clear nb r0 r1 r2 r3 r4 r5 S2 L2
      go_upto_region 3 with (fail)
      have H2 := Lib.hid (S3.out.keep (below_drawn w3))
      have HL := Lib.hid (L3.out.keep (below_drawn w3))
      clear S3 L3
      refine wp_region_held_drew (S := fun w' => BB w' w.heap.size 39 [p0, p1, p2, p3, p4, p5] ∧ BB w' (w.heap.size + 1) 24 [b0, b1, b2, b3, b4, b5]) hmo ⟨H2.out.x, H2.out.y⟩ (fun hHeld => ?_)
      generalize w3.drew = Y at *
      refine wpAnyH_take (i := 0) (oi := { dst := some 15, op := Op.move (Operand.tmp 0), type := 22, pos := "demandset.go:17", after := #[], guard := none }) (v := ?_) rfl (by kernel_rfl) (by kernel_rfl) (by kernel_rfl) (fun _ _ _ h => h) (Or.inl ⟨by rfl, ?_⟩) (by assumption) ?_
      rotate_left
      · intro w hSw; (try dsimp only at hSw); obtain ⟨hP, hB⟩ := hSw; obtain ⟨r0, r1, r2, r3, r4, r5⟩ := cells6 hP; obtain ⟨s0, s1, s2, s3, s4, s5⟩ := cells6 hB; go_simp; try with_reducible rfl
      (try simp only [Act.put, List.setIfInBounds_toArray, List.set_cons_zero, List.set_cons_succ])
      refine wpAnyH_take (i := 2) (oi := { dst := some 17, op := Op.load 24 (Operand.tmp 5), type := 24, pos := "demandset.go:17", after := #[], guard := none }) (v := ?_) rfl (by kernel_rfl) (by kernel_rfl) (by kernel_rfl) (fun _ _ _ h => h) (Or.inl ⟨by rfl, ?_⟩) (by assumption) ?_
      rotate_left
      · intro w hSw; (try dsimp only at hSw); obtain ⟨hP, hB⟩ := hSw; obtain ⟨r0, r1, r2, r3, r4, r5⟩ := cells6 hP; obtain ⟨s0, s1, s2, s3, s4, s5⟩ := cells6 hB; go_simp; try with_reducible rfl
      (try simp only [Act.put, List.setIfInBounds_toArray, List.set_cons_zero, List.set_cons_succ])
      refine wpAnyH_take (i := 4) (oi := { dst := some 19, op := Op.load 39 (Operand.tmp 4), type := 39, pos := "demandset.go:17", after := #[], guard := none }) (v := ?_) rfl (by kernel_rfl) (by kernel_rfl) (by kernel_rfl) (fun _ _ _ h => h) (Or.inl ⟨by rfl, ?_⟩) (by assumption) ?_
      rotate_left
      · intro w hSw; (try dsimp only at hSw); obtain ⟨hP, hB⟩ := hSw; obtain ⟨r0, r1, r2, r3, r4, r5⟩ := cells6 hP; obtain ⟨s0, s1, s2, s3, s4, s5⟩ := cells6 hB; go_simp; try with_reducible rfl
      (try simp only [Act.put, List.setIfInBounds_toArray, List.set_cons_zero, List.set_cons_succ])
      refine wpAnyH_take (i := 5) (oi := { dst := some 20, op := Op.load 24 (Operand.tmp 5), type := 24, pos := "demandset.go:17", after := #[], guard := none }) (v := ?_) rfl (by kernel_rfl) (by kernel_rfl) (by kernel_rfl) (fun _ _ _ h => h) (Or.inl ⟨by rfl, ?_⟩) (by assumption) ?_
      rotate_left
      · intro w hSw; (try dsimp only at hSw); obtain ⟨hP, hB⟩ := hSw; obtain ⟨r0, r1, r2, r3, r4, r5⟩ := cells6 hP; obtain ⟨s0, s1, s2, s3, s4, s5⟩ := cells6 hB; go_simp; try with_reducible rfl
      (try simp only [Act.put, List.setIfInBounds_toArray, List.set_cons_zero, List.set_cons_succ])
      refine wpAnyH_ready (rs := [1]) (by kernel_rfl) (by simp) ?_
      refine AllReadyH.cons (o := { dst := some 16, op := Op.call { callee := Callee.value (Operand.func 48), args := #[Operand.tmp 15], argTypes := #[22] }, type := 22, pos := "demandset.go:17", after := #[{ on := 0, ground := Ground.data }], guard := none }) rfl (fun K hK => ?_) AllReadyH.nil
      go_simp
      refine (counting_any A n c l hn Y HL.out).mono ?_
      rintro ev v1 ⟨A1, n1, c1, rfl, hK, nb⟩
      have HK := Lib.hid hK
      clear hK
      replace H2 := Lib.hid (H2.out.keep nb)
      replace HL := Lib.hid (HL.out.keep nb)
      clear nb
      refine hK.out _ _ ?_ (fun hHeld => ?_)
      · exact ⟨H2.out.x, H2.out.y⟩
      clear hK K
      (try simp only [Act.put, List.setIfInBounds_toArray, List.set_cons_zero, List.set_cons_succ])
      refine wpAnyH_ready (rs := [3]) (by kernel_rfl) (by simp) ?_
      refine AllReadyH.cons (o := { dst := some 18, op := Op.call { callee := Callee.value (Operand.func 15), args := #[Operand.tmp 16, Operand.tmp 17], argTypes := #[22, 24] }, type := 2, pos := "demandset.go:17", after := #[{ on := 1, ground := Ground.data }, { on := 2, ground := Ground.data }, { on := 1, ground := Ground.chain }], guard := none }) rfl (fun K hK => ?_) AllReadyH.nil
      go_simp
      refine (HV0.out A1 n1 c1 v1 HK.out).mono ?_
      rintro ev v2 ⟨rfl, nb⟩
      replace H2 := Lib.hid (H2.out.keep nb)
      replace HL := Lib.hid (HL.out.keep nb)
      replace HK := Lib.hid (HK.out.keep nb)
      clear nb
      refine hK.out _ _ ?_ (fun hHeld => ?_)
      · exact ⟨H2.out.x, H2.out.y⟩
      clear hK K
      (try simp only [Act.put, List.setIfInBounds_toArray, List.set_cons_zero, List.set_cons_succ])
      refine wpAnyH_ready (rs := [6]) (by kernel_rfl) (by simp) ?_
      refine AllReadyH.cons (o := { dst := some 21, op := Op.call { callee := Callee.value (Operand.func 49), args := #[Operand.tmp 19, Operand.tmp 20], argTypes := #[39, 24] }, type := 2, pos := "demandset.go:17", after := #[{ on := 4, ground := Ground.data }, { on := 5, ground := Ground.data }, { on := 3, ground := Ground.chain }], guard := none }) rfl (fun K hK => ?_) AllReadyH.nil
      go_simp
      refine (HK0.out v2).mono ?_
      rintro ev v3 ⟨rfl, nb⟩
      replace H2 := Lib.hid (H2.out.keep nb)
      replace HL := Lib.hid (HL.out.keep nb)
      replace HK := Lib.hid (HK.out.keep nb)
      clear nb
      refine hK.out _ _ ?_ (fun hHeld => ?_)
      · exact ⟨H2.out.x, H2.out.y⟩
      clear hK K
      (try simp only [Act.put, List.setIfInBounds_toArray, List.set_cons_zero, List.set_cons_succ])
      refine wpAnyH_take (i := 7) (oi := { dst := some 22, op := Op.binOp BinOp.sub 2 (Operand.tmp 18) (Operand.tmp 21) 2, type := 2, pos := "demandset.go:17", after := #[{ on := 3, ground := Ground.data }, { on := 6, ground := Ground.data }], guard := none }) (v := ?_) rfl (by kernel_rfl) (by kernel_rfl) (by kernel_rfl) (fun _ _ _ h => h) (Or.inl ⟨by rfl, ?_⟩) (by assumption) ?_
      rotate_left
      · intro w hSw; (try dsimp only at hSw); obtain ⟨hP, hB⟩ := hSw; obtain ⟨r0, r1, r2, r3, r4, r5⟩ := cells6 hP; obtain ⟨s0, s1, s2, s3, s4, s5⟩ := cells6 hB; go_simp; try with_reducible rfl
      (try simp only [Act.put, List.setIfInBounds_toArray, List.set_cons_zero, List.set_cons_succ])
      refine wpAnyH_take (i := 8) (oi := { dst := some 6, op := Op.assign (Operand.tmp 22), type := 2, pos := "demandset.go:17", after := #[{ on := 7, ground := Ground.data }, { on := 6, ground := Ground.chain }, { on := 0, ground := Ground.phase }, { on := 1, ground := Ground.phase }, { on := 2, ground := Ground.phase }, { on := 3, ground := Ground.phase }, { on := 4, ground := Ground.phase }, { on := 5, ground := Ground.phase }, { on := 6, ground := Ground.phase }, { on := 7, ground := Ground.phase }], guard := none }) (v := ?_) rfl (by kernel_rfl) (by kernel_rfl) (by kernel_rfl) (fun _ _ _ h => h) (Or.inl ⟨by rfl, ?_⟩) (by assumption) ?_
      rotate_left
      · intro w hSw; (try dsimp only at hSw); obtain ⟨hP, hB⟩ := hSw; obtain ⟨r0, r1, r2, r3, r4, r5⟩ := cells6 hP; obtain ⟨s0, s1, s2, s3, s4, s5⟩ := cells6 hB; go_simp; try with_reducible rfl
      (try simp only [Act.put, List.setIfInBounds_toArray, List.set_cons_zero, List.set_cons_succ])
      refine wpAnyH_done (by kernel_rfl) ?_ _
      clear hHeld
      go_wp2
      go_ret
      exact ⟨by rw [HU.out]; first | exact congrArg (fun z => Ending.returned (Value.int .i64 z)) HWS.out | exact congrArg (fun z => Ending.returned (Value.int .i64 z)) HWR.out, H2.out.below⟩

set_option maxRecDepth 100000 in
set_option maxHeartbeats 8000000 in
theorem rutility_any (A : Option Addr) (n c : Nat) (l : List MF.Of) (_hn : n ≤ 100000) (p0 p1 p2 p3 p4 p5 b0 b1 b2 b3 b4 b5 : Int) (w : World) (hl : Lst ofE w A n c l) : Calls Try.prog 19 #[.slice A n c, .agg #[.int .i64 p0, .int .i64 p1, .int .i64 p2, .int .i64 p3, .int .i64 p4, .int .i64 p5], .agg #[.int .i64 b0, .int .i64 b1, .int .i64 b2, .int .i64 b3, .int .i64 b4, .int .i64 b5]] w (Gives (.int .i64 (MD.utE l [p0, p1, p2, p3, p4, p5] [b0, b1, b2, b3, b4, b5])) w) := by
  have S0 := Lib.hid (Two2.start w 39 24 p0 p1 p2 p3 p4 p5 b0 b1 b2 b3 b4 b5)
  have L0 := Lib.hid (hl.keep S0.out.below)
  have HC0 := Lib.hid (fun w' => rbcheck_any b0 b1 b2 b3 b4 b5 w')
  have HP0 := Lib.hid (fun w' => rprices_any p0 p1 p2 p3 p4 p5 w')
  have hmo : Try.prog.follows .mixedOrders = true := by kernel_rfl
  clear hl
  go_enter Try.func19, Try.ntmps19
  go_upto_region 1 with (fail)
  generalize (w.alloc (.cells #[.int .i64 p0, .int .i64 p1, .int .i64 p2, .int .i64 p3, .int .i64 p4, .int .i64 p5] 39)).alloc (.cells #[.int .i64 b0, .int .i64 b1, .int .i64 b2, .int .i64 b3, .int .i64 b4, .int .i64 b5] 24) = w1 at *
  obtain ⟨r0, r1, r2, r3, r4, r5⟩ := cells6 S0.out.y
  cases hok : MB.okB [b0, b1, b2, b3, b4, b5] with
  | false =>
    rw [chk_no hok] at HC0
    have HE := Lib.hid (show MD.utE l [p0, p1, p2, p3, p4, p5] [b0, b1, b2, b3, b4, b5] = 0 from if_neg (fun q => Bool.false_ne_true (hok.symm.trans q.1)))
    go_wp2_with fail
    refine (HC0.out _).mono ?_
    rintro ev w2 ⟨rfl, nb⟩
    have B2 := Lib.hid (S0.out.below.trans (nb.mono S0.out.below.size))
    clear nb r0 r1 r2 r3 r4 r5 S0 L0
    go_wp2
    go_ret
    exact ⟨by rw [HE.out]; rfl, B2.out⟩
  | true =>
    rw [chk_ok hok] at HC0
    go_wp2_with fail
    refine (HC0.out _).mono ?_
    rintro ev w2 ⟨rfl, nb⟩
    have S2 := Lib.hid (S0.out.keep nb)
    have L2 := Lib.hid (L0.out.keep nb)
    clear nb r0 r1 r2 r3 r4 r5 S0 L0
    obtain ⟨r0, r1, r2, r3, r4, r5⟩ := cells6 S2.out.x
    cases hpr : MD.prB [p0, p1, p2, p3, p4, p5] with
    | false =>
      rw [hpr] at HP0
      have HE := Lib.hid (show MD.utE l [p0, p1, p2, p3, p4, p5] [b0, b1, b2, b3, b4, b5] = 0 from if_neg (fun q => Bool.false_ne_true (hpr.symm.trans q.2)))
      go_wp2_with fail
      refine (HP0.out _).mono ?_
      rintro ev w3 ⟨rfl, nb⟩
      have B2 := Lib.hid (S2.out.below.trans (nb.mono S2.out.below.size))
      clear nb r0 r1 r2 r3 r4 r5 S2 L2
      go_wp2
      go_ret
      exact ⟨by rw [HE.out]; rfl, B2.out⟩
    | true =>
      rw [hpr] at HP0
      have HU0 := MD.utE_yes (L := l) (p := [p0, p1, p2, p3, p4, p5]) (b := [b0, b1, b2, b3, b4, b5]) hok hpr
      have hC := MD.cst_in hpr hok rfl rfl
      have hV := MD.val_in l [b0, b1, b2, b3, b4, b5]
      obtain ⟨V, hVe⟩ : ∃ V, V = MD.val l [b0, b1, b2, b3, b4, b5] := ⟨_, rfl⟩
      obtain ⟨C, hCe⟩ : ∃ C, C = cstB [p0, p1, p2, p3, p4, p5] [b0, b1, b2, b3, b4, b5] 6 := ⟨_, rfl⟩
      have HV0 := Lib.hid (fun A' n' c' w' (h : Lst ofE w' A' n' c' l) => show Calls Try.prog _ _ w' (Gives (.int .i64 (MD.val l [b0, b1, b2, b3, b4, b5])) w') from rval15_any l A' n' c' b0 b1 b2 b3 b4 b5 w' h)
      have HK0 := Lib.hid (fun w' => rcost_any p0 p1 p2 p3 p4 p5 b0 b1 b2 b3 b4 b5 w')
      have HU := Lib.hid (show MD.utE l [p0, p1, p2, p3, p4, p5] [b0, b1, b2, b3, b4, b5] = V - C from by rw [HU0, hVe, hCe]; rfl)
      clear HU0
      rw [← hVe] at hV
      rw [← hCe] at hC
      rw [← hVe] at HV0
      rw [← hCe] at HK0
      have HWR := Lib.hid (show IntKind.i64.wrap (V - C) = V - C from by first | exact Go.i64_in _ (by omega) | exact IntWalk.i64_in _ (by omega) | (simp only [IntKind.wrap, IntKind.bits, IntKind.signed]; simp; omega))
      have HWS := Lib.hid (show wrap64 (V - C) = V - C from by unfold wrap64; omega)
      clear hVe hCe hV hC hok hpr
      go_wp2_with fail
      refine (HP0.out _).mono ?_
      rintro ev w3 ⟨rfl, nb⟩
      have S3 := Lib.hid (S2.out.keep nb)
      have L3 := Lib.hid (L2.out.keep nb)
      clear nb r0 r1 r2 r3 r4 r5 S2 L2
      go_upto_region 3 with (fail)
      have H2 := Lib.hid (S3.out.keep (below_drawn w3))
      have HL := Lib.hid (L3.out.keep (below_drawn w3))
      clear S3 L3
      refine wp_region_held_drew (S := fun w' => BB w' w.heap.size 39 [p0, p1, p2, p3, p4, p5] ∧ BB w' (w.heap.size + 1) 24 [b0, b1, b2, b3, b4, b5]) hmo ⟨H2.out.x, H2.out.y⟩ (fun hHeld => ?_)
      generalize w3.drew = Y at *
      refine wpAnyH_take (i := 0) (oi := { dst := some 15, op := Op.move (Operand.tmp 0), type := 22, pos := "ref.go:26", after := #[], guard := none }) (v := ?_) rfl (by kernel_rfl) (by kernel_rfl) (by kernel_rfl) (fun _ _ _ h => h) (Or.inl ⟨by rfl, ?_⟩) (by assumption) ?_
      rotate_left
      · intro w hSw; (try dsimp only at hSw); obtain ⟨hP, hB⟩ := hSw; obtain ⟨r0, r1, r2, r3, r4, r5⟩ := cells6 hP; obtain ⟨s0, s1, s2, s3, s4, s5⟩ := cells6 hB; go_simp; try with_reducible rfl
      (try simp only [Act.put, List.setIfInBounds_toArray, List.set_cons_zero, List.set_cons_succ])
      refine wpAnyH_take (i := 1) (oi := { dst := some 16, op := Op.load 24 (Operand.tmp 5), type := 24, pos := "ref.go:26", after := #[], guard := none }) (v := ?_) rfl (by kernel_rfl) (by kernel_rfl) (by kernel_rfl) (fun _ _ _ h => h) (Or.inl ⟨by rfl, ?_⟩) (by assumption) ?_
      rotate_left
      · intro w hSw; (try dsimp only at hSw); obtain ⟨hP, hB⟩ := hSw; obtain ⟨r0, r1, r2, r3, r4, r5⟩ := cells6 hP; obtain ⟨s0, s1, s2, s3, s4, s5⟩ := cells6 hB; go_simp; try with_reducible rfl
      (try simp only [Act.put, List.setIfInBounds_toArray, List.set_cons_zero, List.set_cons_succ])
      refine wpAnyH_take (i := 3) (oi := { dst := some 18, op := Op.load 39 (Operand.tmp 4), type := 39, pos := "ref.go:26", after := #[], guard := none }) (v := ?_) rfl (by kernel_rfl) (by kernel_rfl) (by kernel_rfl) (fun _ _ _ h => h) (Or.inl ⟨by rfl, ?_⟩) (by assumption) ?_
      rotate_left
      · intro w hSw; (try dsimp only at hSw); obtain ⟨hP, hB⟩ := hSw; obtain ⟨r0, r1, r2, r3, r4, r5⟩ := cells6 hP; obtain ⟨s0, s1, s2, s3, s4, s5⟩ := cells6 hB; go_simp; try with_reducible rfl
      (try simp only [Act.put, List.setIfInBounds_toArray, List.set_cons_zero, List.set_cons_succ])
      refine wpAnyH_take (i := 4) (oi := { dst := some 19, op := Op.load 24 (Operand.tmp 5), type := 24, pos := "ref.go:26", after := #[], guard := none }) (v := ?_) rfl (by kernel_rfl) (by kernel_rfl) (by kernel_rfl) (fun _ _ _ h => h) (Or.inl ⟨by rfl, ?_⟩) (by assumption) ?_
      rotate_left
      · intro w hSw; (try dsimp only at hSw); obtain ⟨hP, hB⟩ := hSw; obtain ⟨r0, r1, r2, r3, r4, r5⟩ := cells6 hP; obtain ⟨s0, s1, s2, s3, s4, s5⟩ := cells6 hB; go_simp; try with_reducible rfl
      (try simp only [Act.put, List.setIfInBounds_toArray, List.set_cons_zero, List.set_cons_succ])
      refine wpAnyH_ready (rs := [2]) (by kernel_rfl) (by simp) ?_
      refine AllReadyH.cons (o := { dst := some 17, op := Op.call { callee := Callee.value (Operand.func 50), args := #[Operand.tmp 15, Operand.tmp 16], argTypes := #[22, 24] }, type := 2, pos := "ref.go:26", after := #[{ on := 0, ground := Ground.data }, { on := 1, ground := Ground.data }], guard := none }) rfl (fun K hK => ?_) AllReadyH.nil
      go_simp
      refine (HV0.out A n c Y HL.out).mono ?_
      rintro ev v4 ⟨rfl, nb⟩
      replace H2 := Lib.hid (H2.out.keep nb)
      replace HL := Lib.hid (HL.out.keep nb)
      clear nb
      refine hK.out _ _ ?_ (fun hHeld => ?_)
      · exact ⟨H2.out.x, H2.out.y⟩
      clear hK K
      (try simp only [Act.put, List.setIfInBounds_toArray, List.set_cons_zero, List.set_cons_succ])
      refine wpAnyH_ready (rs := [5]) (by kernel_rfl) (by simp) ?_
      refine AllReadyH.cons (o := { dst := some 20, op := Op.call { callee := Callee.value (Operand.func 51), args := #[Operand.tmp 18, Operand.tmp 19], argTypes := #[39, 24] }, type := 2, pos := "ref.go:26", after := #[{ on := 3, ground := Ground.data }, { on := 4, ground := Ground.data }, { on := 2, ground := Ground.chain }], guard := none }) rfl (fun K hK => ?_) AllReadyH.nil
      go_simp
      refine (HK0.out v4).mono ?_
      rintro ev v5 ⟨rfl, nb⟩
      replace H2 := Lib.hid (H2.out.keep nb)
      replace HL := Lib.hid (HL.out.keep nb)
      clear nb
      refine hK.out _ _ ?_ (fun hHeld => ?_)
      · exact ⟨H2.out.x, H2.out.y⟩
      clear hK K
      (try simp only [Act.put, List.setIfInBounds_toArray, List.set_cons_zero, List.set_cons_succ])
      refine wpAnyH_take (i := 6) (oi := { dst := some 21, op := Op.binOp BinOp.sub 2 (Operand.tmp 17) (Operand.tmp 20) 2, type := 2, pos := "ref.go:26", after := #[{ on := 2, ground := Ground.data }, { on := 5, ground := Ground.data }], guard := none }) (v := ?_) rfl (by kernel_rfl) (by kernel_rfl) (by kernel_rfl) (fun _ _ _ h => h) (Or.inl ⟨by rfl, ?_⟩) (by assumption) ?_
      rotate_left
      · intro w hSw; (try dsimp only at hSw); obtain ⟨hP, hB⟩ := hSw; obtain ⟨r0, r1, r2, r3, r4, r5⟩ := cells6 hP; obtain ⟨s0, s1, s2, s3, s4, s5⟩ := cells6 hB; go_simp; try with_reducible rfl
      (try simp only [Act.put, List.setIfInBounds_toArray, List.set_cons_zero, List.set_cons_succ])
      refine wpAnyH_take (i := 7) (oi := { dst := some 6, op := Op.assign (Operand.tmp 21), type := 2, pos := "ref.go:26", after := #[{ on := 6, ground := Ground.data }, { on := 5, ground := Ground.chain }, { on := 0, ground := Ground.phase }, { on := 1, ground := Ground.phase }, { on := 2, ground := Ground.phase }, { on := 3, ground := Ground.phase }, { on := 4, ground := Ground.phase }, { on := 5, ground := Ground.phase }, { on := 6, ground := Ground.phase }], guard := none }) (v := ?_) rfl (by kernel_rfl) (by kernel_rfl) (by kernel_rfl) (fun _ _ _ h => h) (Or.inl ⟨by rfl, ?_⟩) (by assumption) ?_
      rotate_left
      · intro w hSw; (try dsimp only at hSw); obtain ⟨hP, hB⟩ := hSw; obtain ⟨r0, r1, r2, r3, r4, r5⟩ := cells6 hP; obtain ⟨s0, s1, s2, s3, s4, s5⟩ := cells6 hB; go_simp; try with_reducible rfl
      (try simp only [Act.put, List.setIfInBounds_toArray, List.set_cons_zero, List.set_cons_succ])
      refine wpAnyH_done (by kernel_rfl) ?_ _
      clear hHeld
      go_wp2
      go_ret
      exact ⟨by rw [HU.out]; first | exact congrArg (fun z => Ending.returned (Value.int .i64 z)) HWS.out | exact congrArg (fun z => Ending.returned (Value.int .i64 z)) HWR.out, H2.out.below⟩

end Go.Proofs.Ytjjpfpgjpmedmaa
