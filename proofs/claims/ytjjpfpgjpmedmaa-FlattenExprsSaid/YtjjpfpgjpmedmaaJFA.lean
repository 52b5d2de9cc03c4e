/- FOf, FVal, FRef, FIdx, FRow, FSm, joined: no claim of its own. -/
import Derived.Test.YtjjpfpgjpmedmaaJJ
import Derived.Test.YtjjpfpgjpmedmaaJFM
import Derived.Test.YtjjpfpgjpmedmaaVWorth
import Derived.Deep.RegionHeld3
import Derived.Deep.DeepCutAuto
import Derived.Laws.CopyOwn
import Derived.Laws.OwnMore
import Derived.Test.YtjjpfpgjpmedmaaBEq
import Derived.Laws.StructEq
import Derived.BigQuiet
namespace Go.Proofs.Ytjjpfpgjpmedmaa
open Go.RowKit
def cells_of (p : MF.Of) : List Value := [.int .i64 p.bidder, .int .i64 p.b0, .int .i64 p.b1, .int .i64 p.b2, .int .i64 p.b3, .int .i64 p.b4, .int .i64 p.b5, .int .i64 p.value]
def agg_of (p : MF.Of) : Value := .agg #[.int .i64 p.bidder, .int .i64 p.b0, .int .i64 p.b1, .int .i64 p.b2, .int .i64 p.b3, .int .i64 p.b4, .int .i64 p.b5, .int .i64 p.value]
def ofE : El MF.Of where
  cells := cells_of
  sz := 8
  fine p := (-9223372036854775808 ≤ p.bidder ∧ p.bidder ≤ 9223372036854775807) ∧ (-9223372036854775808 ≤ p.b0 ∧ p.b0 ≤ 9223372036854775807) ∧ (-9223372036854775808 ≤ p.b1 ∧ p.b1 ≤ 9223372036854775807) ∧ (-9223372036854775808 ≤ p.b2 ∧ p.b2 ≤ 9223372036854775807) ∧ (-9223372036854775808 ≤ p.b3 ∧ p.b3 ≤ 9223372036854775807) ∧ (-9223372036854775808 ≤ p.b4 ∧ p.b4 ≤ 9223372036854775807) ∧ (-9223372036854775808 ≤ p.b5 ∧ p.b5 ≤ 9223372036854775807) ∧ (-9223372036854775808 ≤ p.value ∧ p.value ≤ 9223372036854775807)
  len _ _ := rfl
  one a u hu := by
    simp only [cells_of, List.mem_cons, List.not_mem_nil, or_false] at hu
    rcases hu with rfl | rfl | rfl | rfl | rfl | rfl | rfl | rfl <;> rfl
  pos := by decide
/-- The k-th element's cells, as the walk spells them. -/
theorem of_at {w : World} {A : Option Addr} {n c : Nat} {l : List MF.Of} (h : Lst ofE w A n c l) {k : Nat} (hk : k < n) : ∃ (ad : Addr) (p : MF.Of), A = some ad ∧ l[k]? = some p ∧ ofE.fine p ∧ ad.block < w.heap.size ∧
    w.cell? (ad.add (k * 8)) = some (.int .i64 p.bidder) ∧
    w.cell? (⟨(ad.add (k * 8)).block, (ad.add (k * 8)).off + 1, none⟩) = some (.int .i64 p.b0) ∧
    w.cell? (⟨(ad.add (k * 8)).block, (ad.add (k * 8)).off + 2, none⟩) = some (.int .i64 p.b1) ∧
    w.cell? (⟨(ad.add (k * 8)).block, (ad.add (k * 8)).off + 3, none⟩) = some (.int .i64 p.b2) ∧
    w.cell? (⟨(ad.add (k * 8)).block, (ad.add (k * 8)).off + 4, none⟩) = some (.int .i64 p.b3) ∧
    w.cell? (⟨(ad.add (k * 8)).block, (ad.add (k * 8)).off + 5, none⟩) = some (.int .i64 p.b4) ∧
    w.cell? (⟨(ad.add (k * 8)).block, (ad.add (k * 8)).off + 6, none⟩) = some (.int .i64 p.b5) ∧
    w.cell? (⟨(ad.add (k * 8)).block, (ad.add (k * 8)).off + 7, none⟩) = some (.int .i64 p.value) := by
  obtain ⟨ad, p, e, hx, hf, hb, hc⟩ := h.at0 hk
  refine ⟨ad, p, e, hx, hf, hb, ?_, ?_, ?_, ?_, ?_, ?_, ?_, ?_⟩
  · have := hc 0 _ rfl; rwa [show ∀ a : Addr, a.add 0 = a from fun a => by unfold Addr.add; simp] at this
  · have := hc 1 _ rfl; exact this
  · have := hc 2 _ rfl; exact this
  · have := hc 3 _ rfl; exact this
  · have := hc 4 _ rfl; exact this
  · have := hc 5 _ rfl; exact this
  · have := hc 6 _ rfl; exact this
  · have := hc 7 _ rfl; exact this
end Go.Proofs.Ytjjpfpgjpmedmaa
namespace Go.Proofs.Ytjjpfpgjpmedmaa
open Go.RowKit
set_option maxRecDepth 100000 in
set_option maxHeartbeats 2000000 in
theorem fval_any (L : List MF.Of) (A : Option Addr) (n cp : Nat) (a b c d e f : Int) (w : World) (hL : Lst ofE w A n cp L) : Calls Try.prog 15 #[.slice A n cp, .agg #[.int .i64 a, .int .i64 b, .int .i64 c, .int .i64 d, .int .i64 e, .int .i64 f]] w (Gives (.int .i64 (VV.worth (MF.stp L) [a, b, c, d, e, f])) w) := by
  have H1 := Lib.hid (BB.new w 24 a b c d e f)
  have HN := Lib.hid (below_new w (.cells #[.int .i64 a, .int .i64 b, .int .i64 c, .int .i64 d, .int .i64 e, .int .i64 f] 24))
  have RW := Lib.hid (hL.keep HN.out)
  have hn := hL.few
  have HWi := Lib.hid (fun x0 x1 x2 x3 x4 x5 w => within_any x0 x1 x2 x3 x4 x5 a b c d e f w)
  obtain ⟨W0, hW0⟩ : ∃ F : VV.St → Int, F = fun T => VV.worth T [a, b, c, d, e, f] := ⟨_, rfl⟩
  have hN : VV.worth (MF.stp L) [a, b, c, d, e, f] = W0 ((MF.stp L).take n) := by rw [hW0, ← hL.len, show L.length = (MF.stp L).length by unfold MF.stp; rw [List.length_map], List.take_length]
  rw [hN]
  have HW0 := Lib.hid hW0
  clear hN hW0 hL
  go_enter Try.func15, Try.ntmps15
  go_wp2
  generalize w.alloc (.cells #[.int .i64 a, .int .i64 b, .int .i64 c, .int .i64 d, .int .i64 e, .int .i64 f] 24) = W at *
  go_loopw [5, 10] (fun t i wr => ∃ k : Nat, k ≤ n ∧ i = .int .i64 k ∧ t = .int .i64 (W0 ((MF.stp L).take k)) ∧ BB wr w.heap.size 24 [a, b, c, d, e, f] ∧ Lst ofE wr A n cp L ∧ Below w.heap.size w wr) (fun _ i _ => n - (intOf i).toNat)
  case atStart => exact ⟨0, Nat.zero_le _, rfl, by rw [HW0.out]; rfl, H1.out, RW.out, HN.out⟩
  case round =>
    obtain ⟨k, hk, rfl, rfl, hbb, hst, hbw⟩ := hrel
    have K := Lib.hid hbb
    have R := Lib.hid hst
    have HB := Lib.hid hbw
    clear hbb hst hbw H1 HN RW
    by_cases hlt : k < n
    · obtain ⟨ad, ⟨bi, x0, x1, x2, x3, x4, x5, v⟩, rfl, hrow, _, hadl, e0, e1, e2, e3, e4, e5, e6, e7⟩ := of_at R.out hlt
      have HR := Lib.hid (MF.stp_at hrow)
      dsimp only at e0 e1 e2 e3 e4 e5 e6 e7
      clear hrow
      have Y1 := Lib.hid (fun (h : MB.withinB [x0, x1, x2, x3, x4, x5] [a, b, c, d, e, f] 6 = true) (hv : W0 ((MF.stp L).take k) < v) => (by
        rw [HW0.out] at hv ⊢
        exact (worth_yes HR.out h hv).symm : v = W0 ((MF.stp L).take (k + 1))))
      have Y2 := Lib.hid (fun (hv : v ≤ W0 ((MF.stp L).take k)) => (by
        rw [HW0.out] at hv ⊢
        exact (worth_no1 HR.out hv).symm : W0 ((MF.stp L).take k) = W0 ((MF.stp L).take (k + 1))))
      have Y3 := Lib.hid (fun (h : MB.withinB [x0, x1, x2, x3, x4, x5] [a, b, c, d, e, f] 6 = false) => (by
        rw [HW0.out]
        exact (worth_no2 HR.out h).symm : W0 ((MF.stp L).take k) = W0 ((MF.stp L).take (k + 1))))
      generalize W0 ((MF.stp L).take k) = m at *
      generalize hm' : W0 ((MF.stp L).take (k + 1)) = m' at *
      have HM := Lib.hid hm'
      clear hm'
      go_upto_region 5 with (fail)
      have hh := heap_new wr (.cells #[.int .i64 bi, .int .i64 x0, .int .i64 x1, .int .i64 x2, .int .i64 x3, .int .i64 x4, .int .i64 x5, .int .i64 v] 60)
      have q0 := (cell_of_row _ _ 0 _ _ _ hh).trans rfl
      have q1 := (cell_of_row _ _ 1 _ _ _ hh).trans rfl
      have q2 := (cell_of_row _ _ 2 _ _ _ hh).trans rfl
      have q3 := (cell_of_row _ _ 3 _ _ _ hh).trans rfl
      have q4 := (cell_of_row _ _ 4 _ _ _ hh).trans rfl
      have q5 := (cell_of_row _ _ 5 _ _ _ hh).trans rfl
      have q6 := (cell_of_row _ _ 6 _ _ _ hh).trans rfl
      have q7 := (cell_of_row _ _ 7 _ _ _ hh).trans rfl
      have hn1 := below_new wr (.cells #[.int .i64 bi, .int .i64 x0, .int .i64 x1, .int .i64 x2, .int .i64 x3, .int .i64 x4, .int .i64 x5, .int .i64 v] 60)
      have K1 := Lib.hid (K.out.keep hn1 K.out.lt)
      have R1 := Lib.hid (R.out.keep hn1)
      have HB1 := Lib.hid (HB.out.trans (hn1.mono HB.out.size))
      have hB1 : wr.heap.size < (wr.alloc (.cells #[.int .i64 bi, .int .i64 x0, .int .i64 x1, .int .i64 x2, .int .i64 x3, .int .i64 x4, .int .i64 x5, .int .i64 v] 60)).heap.size := by simp
      generalize wr.alloc (.cells #[.int .i64 bi, .int .i64 x0, .int .i64 x1, .int .i64 x2, .int .i64 x3, .int .i64 x4, .int .i64 x5, .int .i64 v] 60) = w1 at *
      generalize wr.heap.size = B1 at *
      clear hh hn1 e0 e1 e2 e3 e4 e5 e6 e7 hadl K R HB
      by_cases hv : m < v
      · have hd : decide (m < v) = true := decide_eq_true hv
        obtain ⟨r0, r1, r2, r3, r4, r5⟩ := cells6 K1.out
        have HC := Lib.hid (HWi.out x0 x1 x2 x3 x4 x5)
        by_cases h : MB.withinB [x0, x1, x2, x3, x4, x5] [a, b, c, d, e, f] 6 = true
        · rw [h] at HC
          go_wp2_with fail
          refine (HC.out _).mono ?_
          rintro e2 w2 ⟨rfl, hb⟩
          have q7' := (hb.cell (p := ⟨B1, 7, none⟩) hB1).trans q7
          have K2 := Lib.hid (K1.out.keep hb K1.out.lt)
          have R2 := Lib.hid (R1.out.keep hb)
          have HB2 := Lib.hid (HB1.out.trans (hb.mono HB1.out.size))
          clear q0 q1 q2 q3 q4 q5 q6 q7 r0 r1 r2 r3 r4 r5 K1 R1 HB1 hb
          go_wp2
          go_roundw
          case rel => exact ⟨k + 1, by omega, by go_num, by rw [Y1.out h hv, HM.out], K2.out, R2.out, HB2.out⟩
          case measure => simp [intOf]; omega
        · have h' : MB.withinB [x0, x1, x2, x3, x4, x5] [a, b, c, d, e, f] 6 = false := by simpa using h
          rw [h'] at HC
          go_wp2_with fail
          refine (HC.out _).mono ?_
          rintro e2 w2 ⟨rfl, hb⟩
          have K2 := Lib.hid (K1.out.keep hb K1.out.lt)
          have R2 := Lib.hid (R1.out.keep hb)
          have HB2 := Lib.hid (HB1.out.trans (hb.mono HB1.out.size))
          clear q0 q1 q2 q3 q4 q5 q6 q7 r0 r1 r2 r3 r4 r5 K1 R1 HB1 hb
          go_wp2
          go_roundw
          case rel => exact ⟨k + 1, by omega, by go_num, by rw [Y3.out h', HM.out], K2.out, R2.out, HB2.out⟩
          case measure => simp [intOf]; omega
      · have hd : decide (m < v) = false := decide_eq_false hv
        go_wp2
        go_roundw
        case rel => exact ⟨k + 1, by omega, by go_num, by rw [Y2.out (by omega), HM.out], K1.out, R1.out, HB1.out⟩
        case measure => simp [intOf]; omega
    · obtain rfl : k = n := by omega
      go_wp2
      go_ret
      exact ⟨rfl, HB.out⟩
end Go.Proofs.Ytjjpfpgjpmedmaa
namespace Go.Proofs.Ytjjpfpgjpmedmaa
open Go.RowKit
attribute [local go_sem] Oper.semAt_some
set_option maxRecDepth 100000 in
set_option maxHeartbeats 4000000 in
theorem asgood_any (a b : MF.Of) (w : World) : Calls Try.prog 59 #[agg_of a, agg_of b] w (Gives (.bool (MF.good a b)) w) := by
  obtain ⟨xi, x0, x1, x2, x3, x4, x5, xv⟩ := a
  obtain ⟨yi, y0, y1, y2, y3, y4, y5, yv⟩ := b
  change Calls Try.prog 59 #[.agg #[.int .i64 xi, .int .i64 x0, .int .i64 x1, .int .i64 x2, .int .i64 x3, .int .i64 x4, .int .i64 x5, .int .i64 xv], .agg #[.int .i64 yi, .int .i64 y0, .int .i64 y1, .int .i64 y2, .int .i64 y3, .int .i64 y4, .int .i64 y5, .int .i64 yv]] w _
  have HC := Lib.hid (fun w' => within_any x0 x1 x2 x3 x4 x5 y0 y1 y2 y3 y4 y5 w')
  obtain ⟨R, hR⟩ : ∃ R, R = MF.good ⟨xi, x0, x1, x2, x3, x4, x5, xv⟩ ⟨yi, y0, y1, y2, y3, y4, y5, yv⟩ := ⟨_, rfl⟩
  have HR := Lib.hid (show R = (decide (xi = yi) && decide (yv ≤ xv) && MB.withinB [x0, x1, x2, x3, x4, x5] [y0, y1, y2, y3, y4, y5] 6) from hR)
  rw [← hR]
  clear hR
  have HB := Lib.hid (below_two w (.cells #[.int .i64 xi, .int .i64 x0, .int .i64 x1, .int .i64 x2, .int .i64 x3, .int .i64 x4, .int .i64 x5, .int .i64 xv] 60) (.cells #[.int .i64 yi, .int .i64 y0, .int .i64 y1, .int .i64 y2, .int .i64 y3, .int .i64 y4, .int .i64 y5, .int .i64 yv] 60))
  have X0 := Lib.hid (show ((w.alloc (.cells #[.int .i64 xi, .int .i64 x0, .int .i64 x1, .int .i64 x2, .int .i64 x3, .int .i64 x4, .int .i64 x5, .int .i64 xv] 60)).alloc (.cells #[.int .i64 yi, .int .i64 y0, .int .i64 y1, .int .i64 y2, .int .i64 y3, .int .i64 y4, .int .i64 y5, .int .i64 yv] 60)).heap[w.heap.size]? = some (.cells #[.int .i64 xi, .int .i64 x0, .int .i64 x1, .int .i64 x2, .int .i64 x3, .int .i64 x4, .int .i64 x5, .int .i64 xv] 60 (0, 0)) from ((below_new (w.alloc (.cells #[.int .i64 xi, .int .i64 x0, .int .i64 x1, .int .i64 x2, .int .i64 x3, .int .i64 x4, .int .i64 x5, .int .i64 xv] 60)) (.cells #[.int .i64 yi, .int .i64 y0, .int .i64 y1, .int .i64 y2, .int .i64 y3, .int .i64 y4, .int .i64 y5, .int .i64 yv] 60)).block w.heap.size (by simp)).trans (heap_new w _))
  have Y0 := Lib.hid (show ((w.alloc (.cells #[.int .i64 xi, .int .i64 x0, .int .i64 x1, .int .i64 x2, .int .i64 x3, .int .i64 x4, .int .i64 x5, .int .i64 xv] 60)).alloc (.cells #[.int .i64 yi, .int .i64 y0, .int .i64 y1, .int .i64 y2, .int .i64 y3, .int .i64 y4, .int .i64 y5, .int .i64 yv] 60)).heap[w.heap.size + 1]? = some (.cells #[.int .i64 yi, .int .i64 y0, .int .i64 y1, .int .i64 y2, .int .i64 y3, .int .i64 y4, .int .i64 y5, .int .i64 yv] 60 (0, 0)) from by
    have := heap_new (w.alloc (.cells #[.int .i64 xi, .int .i64 x0, .int .i64 x1, .int .i64 x2, .int .i64 x3, .int .i64 x4, .int .i64 x5, .int .i64 xv] 60)) (.cells #[.int .i64 yi, .int .i64 y0, .int .i64 y1, .int .i64 y2, .int .i64 y3, .int .i64 y4, .int .i64 y5, .int .i64 yv] 60)
    rwa [World.size_alloc] at this)
  go_enter Try.func59, Try.ntmps59
  go_upto_region 1 with (fail)
  generalize (w.alloc (.cells #[.int .i64 xi, .int .i64 x0, .int .i64 x1, .int .i64 x2, .int .i64 x3, .int .i64 x4, .int .i64 x5, .int .i64 xv] 60)).alloc (.cells #[.int .i64 yi, .int .i64 y0, .int .i64 y1, .int .i64 y2, .int .i64 y3, .int .i64 y4, .int .i64 y5, .int .i64 yv] 60) = w1 at *
  have a0 := (cell_of_row _ _ 0 _ _ _ X0.out).trans rfl
  have a1 := (cell_of_row _ _ 1 _ _ _ X0.out).trans rfl
  have a2 := (cell_of_row _ _ 2 _ _ _ X0.out).trans rfl
  have a3 := (cell_of_row _ _ 3 _ _ _ X0.out).trans rfl
  have a4 := (cell_of_row _ _ 4 _ _ _ X0.out).trans rfl
  have a5 := (cell_of_row _ _ 5 _ _ _ X0.out).trans rfl
  have a6 := (cell_of_row _ _ 6 _ _ _ X0.out).trans rfl
  have a7 := (cell_of_row _ _ 7 _ _ _ X0.out).trans rfl
  have b0 := (cell_of_row _ _ 0 _ _ _ Y0.out).trans rfl
  have b1 := (cell_of_row _ _ 1 _ _ _ Y0.out).trans rfl
  have b2 := (cell_of_row _ _ 2 _ _ _ Y0.out).trans rfl
  have b3 := (cell_of_row _ _ 3 _ _ _ Y0.out).trans rfl
  have b4 := (cell_of_row _ _ 4 _ _ _ Y0.out).trans rfl
  have b5 := (cell_of_row _ _ 5 _ _ _ Y0.out).trans rfl
  have b6 := (cell_of_row _ _ 6 _ _ _ Y0.out).trans rfl
  have b7 := (cell_of_row _ _ 7 _ _ _ Y0.out).trans rfl
  by_cases h1 : xi = yi
  · have d1 : (xi == yi) = true := beq_iff_eq.2 h1
    have z1 : decide (xi = yi) = true := decide_eq_true h1
    by_cases h2 : yv ≤ xv
    · have d2 : decide (yv ≤ xv) = true := decide_eq_true h2
      have HE := Lib.hid (show R = MB.withinB [x0, x1, x2, x3, x4, x5] [y0, y1, y2, y3, y4, y5] 6 from by rw [HR.out, z1, d2]; rfl)
      clear HR h1
      generalize MB.withinB [x0, x1, x2, x3, x4, x5] [y0, y1, y2, y3, y4, y5] 6 = u at *
      go_wp2_with fail
      refine (HC.out _).mono ?_
      rintro ev w2 ⟨rfl, nb⟩
      have B2 := Lib.hid (HB.out.trans (nb.mono HB.out.size))
      clear nb a0 a1 a2 a3 a4 a5 a6 a7 b0 b1 b2 b3 b4 b5 b6 b7
      go_wp2
      go_ret
      exact ⟨by rw [HE.out]; try rfl, B2.out⟩
    · have d2 : decide (yv ≤ xv) = false := decide_eq_false h2
      have HE := Lib.hid (show R = false from by rw [HR.out, z1, d2]; rfl)
      clear HR h1
      go_wp2
      go_ret
      exact ⟨by rw [HE.out]; try rfl, HB.out⟩
  · have d1 : (xi == yi) = false := beq_eq_false_iff_ne.2 h1
    have HE := Lib.hid (show R = false from by rw [HR.out, decide_eq_false h1]; rfl)
    clear HR
    go_wp2
    go_ret
    exact ⟨by rw [HE.out]; try rfl, HB.out⟩
end Go.Proofs.Ytjjpfpgjpmedmaa
namespace Go.Proofs.Ytjjpfpgjpmedmaa
open Go.RowKit
attribute [local go_sem] Oper.semAt_some
/-- Block B holds an offer. -/
def OB (w : World) (B : Nat) (o : MF.Of) : Prop := w.heap[B]? = some (.cells (cells_of o).toArray 60 (0, 0))
theorem OB.lt {w : World} {B : Nat} {o : MF.Of} (h : OB w B o) : B < w.heap.size := (Array.getElem?_eq_some_iff.1 h).1
theorem OB.keep {w w' : World} {B : Nat} {o : MF.Of} (h : OB w B o) (hb : Below w.heap.size w w') : OB w' B o := (hb.block B h.lt).trans h
theorem OB.same {w w' : World} {B : Nat} {o : MF.Of} (h : OB w B o) (hb : w'.heap[B]? = w.heap[B]?) : OB w' B o := hb.trans h
set_option maxRecDepth 100000 in
set_option maxHeartbeats 2000000 in
theorem better_any (x o : MF.Of) (B : Nat) (w : World) (hB : OB w B o) : Calls Try.prog 58 #[agg_of x, .pointer (some ⟨B, 0, none⟩)] w (Gives (.bool (MF.good x o)) w) := by
  have HC := Lib.hid (fun w' => asgood_any x o w')
  obtain ⟨xi, x0, x1, x2, x3, x4, x5, xv⟩ := x
  obtain ⟨yi, y0, y1, y2, y3, y4, y5, yv⟩ := o
  generalize MF.good _ _ = R at *
  change Calls Try.prog 58 #[.agg #[.int .i64 xi, .int .i64 x0, .int .i64 x1, .int .i64 x2, .int .i64 x3, .int .i64 x4, .int .i64 x5, .int .i64 xv], .pointer (some ⟨B, 0, none⟩)] w _
  have nb := below_new w (.cells #[.int .i64 xi, .int .i64 x0, .int .i64 x1, .int .i64 x2, .int .i64 x3, .int .i64 x4, .int .i64 x5, .int .i64 xv] 60)
  have hh := heap_new w (.cells #[.int .i64 xi, .int .i64 x0, .int .i64 x1, .int .i64 x2, .int .i64 x3, .int .i64 x4, .int .i64 x5, .int .i64 xv] 60)
  have HB := Lib.hid nb
  have H2 : (w.alloc (.cells #[.int .i64 xi, .int .i64 x0, .int .i64 x1, .int .i64 x2, .int .i64 x3, .int .i64 x4, .int .i64 x5, .int .i64 xv] 60)).heap[B]? = some (.cells #[.int .i64 yi, .int .i64 y0, .int .i64 y1, .int .i64 y2, .int .i64 y3, .int .i64 y4, .int .i64 y5, .int .i64 yv] 60 (0, 0)) := (nb.block _ (OB.lt hB)).trans hB
  have q0 := (cell_of_row _ _ 0 _ _ _ hh).trans rfl
  have q1 := (cell_of_row _ _ 1 _ _ _ hh).trans rfl
  have q2 := (cell_of_row _ _ 2 _ _ _ hh).trans rfl
  have q3 := (cell_of_row _ _ 3 _ _ _ hh).trans rfl
  have q4 := (cell_of_row _ _ 4 _ _ _ hh).trans rfl
  have q5 := (cell_of_row _ _ 5 _ _ _ hh).trans rfl
  have q6 := (cell_of_row _ _ 6 _ _ _ hh).trans rfl
  have q7 := (cell_of_row _ _ 7 _ _ _ hh).trans rfl
  have p0 := (cell_of_row _ _ 0 _ _ _ H2).trans rfl
  have p1 := (cell_of_row _ _ 1 _ _ _ H2).trans rfl
  have p2 := (cell_of_row _ _ 2 _ _ _ H2).trans rfl
  have p3 := (cell_of_row _ _ 3 _ _ _ H2).trans rfl
  have p4 := (cell_of_row _ _ 4 _ _ _ H2).trans rfl
  have p5 := (cell_of_row _ _ 5 _ _ _ H2).trans rfl
  have p6 := (cell_of_row _ _ 6 _ _ _ H2).trans rfl
  have p7 := (cell_of_row _ _ 7 _ _ _ H2).trans rfl
  clear nb hh H2 hB
  go_enter Try.func58, Try.ntmps58
  go_upto_region 1 with (fail)
  generalize w.alloc (.cells #[.int .i64 xi, .int .i64 x0, .int .i64 x1, .int .i64 x2, .int .i64 x3, .int .i64 x4, .int .i64 x5, .int .i64 xv] 60) = w1 at *
  go_wp2_with fail
  refine (HC.out _).mono ?_
  rintro ev w2 ⟨rfl, nb⟩
  have B2 := Lib.hid (HB.out.trans (nb.mono HB.out.size))
  clear nb p0 p1 p2 p3 p4 p5 p6 p7 q0 q1 q2 q3 q4 q5 q6 q7
  go_wp2
  go_ret
  exact ⟨rfl, B2.out⟩
set_option maxRecDepth 100000 in
set_option maxHeartbeats 2000000 in
theorem worse_any (x o : MF.Of) (B : Nat) (w : World) (hB : OB w B o) : Calls Try.prog 60 #[agg_of x, .pointer (some ⟨B, 0, none⟩)] w (Gives (.bool (MF.good o x)) w) := by
  have HC := Lib.hid (fun w' => asgood_any o x w')
  obtain ⟨xi, x0, x1, x2, x3, x4, x5, xv⟩ := x
  obtain ⟨yi, y0, y1, y2, y3, y4, y5, yv⟩ := o
  generalize MF.good _ _ = R at *
  change Calls Try.prog 60 #[.agg #[.int .i64 xi, .int .i64 x0, .int .i64 x1, .int .i64 x2, .int .i64 x3, .int .i64 x4, .int .i64 x5, .int .i64 xv], .pointer (some ⟨B, 0, none⟩)] w _
  have nb := below_new w (.cells #[.int .i64 xi, .int .i64 x0, .int .i64 x1, .int .i64 x2, .int .i64 x3, .int .i64 x4, .int .i64 x5, .int .i64 xv] 60)
  have hh := heap_new w (.cells #[.int .i64 xi, .int .i64 x0, .int .i64 x1, .int .i64 x2, .int .i64 x3, .int .i64 x4, .int .i64 x5, .int .i64 xv] 60)
  have HB := Lib.hid nb
  have H2 : (w.alloc (.cells #[.int .i64 xi, .int .i64 x0, .int .i64 x1, .int .i64 x2, .int .i64 x3, .int .i64 x4, .int .i64 x5, .int .i64 xv] 60)).heap[B]? = some (.cells #[.int .i64 yi, .int .i64 y0, .int .i64 y1, .int .i64 y2, .int .i64 y3, .int .i64 y4, .int .i64 y5, .int .i64 yv] 60 (0, 0)) := (nb.block _ (OB.lt hB)).trans hB
  have q0 := (cell_of_row _ _ 0 _ _ _ hh).trans rfl
  have q1 := (cell_of_row _ _ 1 _ _ _ hh).trans rfl
  have q2 := (cell_of_row _ _ 2 _ _ _ hh).trans rfl
  have q3 := (cell_of_row _ _ 3 _ _ _ hh).trans rfl
  have q4 := (cell_of_row _ _ 4 _ _ _ hh).trans rfl
  have q5 := (cell_of_row _ _ 5 _ _ _ hh).trans rfl
  have q6 := (cell_of_row _ _ 6 _ _ _ hh).trans rfl
  have q7 := (cell_of_row _ _ 7 _ _ _ hh).trans rfl
  have p0 := (cell_of_row _ _ 0 _ _ _ H2).trans rfl
  have p1 := (cell_of_row _ _ 1 _ _ _ H2).trans rfl
  have p2 := (cell_of_row _ _ 2 _ _ _ H2).trans rfl
  have p3 := (cell_of_row _ _ 3 _ _ _ H2).trans rfl
  have p4 := (cell_of_row _ _ 4 _ _ _ H2).trans rfl
  have p5 := (cell_of_row _ _ 5 _ _ _ H2).trans rfl
  have p6 := (cell_of_row _ _ 6 _ _ _ H2).trans rfl
  have p7 := (cell_of_row _ _ 7 _ _ _ H2).trans rfl
  clear nb hh H2 hB
  go_enter Try.func60, Try.ntmps60
  go_upto_region 1 with (fail)
  generalize w.alloc (.cells #[.int .i64 xi, .int .i64 x0, .int .i64 x1, .int .i64 x2, .int .i64 x3, .int .i64 x4, .int .i64 x5, .int .i64 xv] 60) = w1 at *
  go_wp2_with fail
  refine (HC.out _).mono ?_
  rintro ev w2 ⟨rfl, nb⟩
  have B2 := Lib.hid (HB.out.trans (nb.mono HB.out.size))
  clear nb p0 p1 p2 p3 p4 p5 p6 p7 q0 q1 q2 q3 q4 q5 q6 q7
  go_wp2
  go_ret
  exact ⟨rfl, B2.out⟩
/-- A function value that tells p of an offer, while block B holds o. -/
def Tells (F B : Nat) (o : MF.Of) (p : MF.Of → Bool) : Prop := ∀ (x : MF.Of) (w : World), OB w B o → Calls Try.prog F #[agg_of x, .pointer (some ⟨B, 0, none⟩)] w (Gives (.bool (p x)) w)
/-- Where the first one lies. -/
def Idx (p : MF.Of → Bool) (l : List MF.Of) (r : Int) : Prop := (r = -1 ∧ ∀ x ∈ l, p x = false) ∨ ∃ k x, r = (k : Nat) ∧ l[k]? = some x ∧ p x = true ∧ ∀ j y, j < k → l[j]? = some y → p y = false
def GivesI (p : MF.Of → Bool) (l : List MF.Of) (w : World) (e : Ending) (w' : World) : Prop := ∃ r : Int, e = .returned (.int .i64 r) ∧ Idx p l r ∧ Below w.heap.size w w'
set_option maxRecDepth 100000 in
set_option maxHeartbeats 4000000 in
theorem findex_any {F B : Nat} {o : MF.Of} {p : MF.Of → Bool} (hF : Tells F B o p) (eg : ∀ args w, (callFunc F args).run Try.prog w = .ok (.enter F args) w) (A : Option Addr) (n c : Nat) (l : List MF.Of) (w : World) (hl : Lst ofE w A n c l) (hB : OB w B o) : Calls Try.prog 85 #[.slice A n c, .func (.func F) #[] #[.pointer (some ⟨B, 0, none⟩)]] w (GivesI p l w) := by
  have HF := Lib.hid hF
  have HL := Lib.hid hl
  have HB := Lib.hid hB
  have HLN := Lib.hid hl.len
  have hn := hl.few
  clear hl hB hF
  go_enter Try.func85, Try.ntmps85
  go_wp2_with fail
  go_loopw [8] (fun i wr => ∃ k : Nat, k ≤ n ∧ i = .int .i64 k ∧ Below w.heap.size w wr ∧ ∀ j y, j < k → l[j]? = some y → p y = false) (fun i _ => n - (intOf i).toNat)
  case atStart => exact ⟨0, Nat.zero_le _, rfl, Below.refl _ _, fun j y h => absurd h (Nat.not_lt_zero _)⟩
  case round =>
    obtain ⟨k, hk, rfl, hbw, hall⟩ := hrel
    have BW := Lib.hid hbw
    have HA := Lib.hid hall
    clear hbw hall
    by_cases hlt : k < n
    · obtain ⟨ad, x, rfl, hrow, _, hadl, e0, e1, e2, e3, e4, e5, e6, e7⟩ := of_at (HL.out.keep BW.out) hlt
      have HX := Lib.hid hrow
      have HC := Lib.hid (HF.out x wr (HB.out.keep BW.out))
      obtain ⟨xi, x0, x1, x2, x3, x4, x5, xv⟩ := x
      dsimp only at e0 e1 e2 e3 e4 e5 e6 e7
      unfold agg_of at HC
      dsimp only at HC
      clear hrow
      go_wp2_with fail
      refine HC.out.mono ?_
      rintro ev w2 ⟨rfl, nb⟩
      have B2 := Lib.hid (BW.out.trans (nb.mono BW.out.size))
      clear nb e0 e1 e2 e3 e4 e5 e6 e7 hadl HC BW
      cases hp : p ⟨xi, x0, x1, x2, x3, x4, x5, xv⟩ with
      | true =>
        have HE := Lib.hid (show Idx p l (k : Nat) from .inr ⟨k, _, rfl, HX.out, hp, HA.out⟩)
        clear hp
        go_wp2
        go_ret
        exact ⟨_, rfl, HE.out, B2.out⟩
      | false =>
        have HA2 := Lib.hid (show ∀ j y, j < k + 1 → l[j]? = some y → p y = false from fun j y hj hy => by
          by_cases e : j = k
          · rw [e, HX.out] at hy
            injection hy with hy
            rw [← hy]; exact hp
          · exact HA.out j y (by omega) hy)
        clear hp HA HX
        go_wp2
        go_roundw
        case rel => exact ⟨k + 1, hlt, by go_num, B2.out, HA2.out⟩
        case measure => simp [intOf]; omega
    · have HE := Lib.hid (show Idx p l (-1) from .inl ⟨rfl, fun x hx => by
        obtain ⟨j, hj, e⟩ := List.mem_iff_getElem.1 hx
        exact HA.out j x (by rw [HLN.out] at hj; omega) (by rw [List.getElem?_eq_getElem hj, e])⟩)
      go_wp2
      go_ret
      exact ⟨_, rfl, HE.out, BW.out⟩
theorem Idx.any {p : MF.Of → Bool} {l : List MF.Of} {r : Int} (h : Idx p l r) : decide (0 ≤ r) = l.any p := by
  rcases h with ⟨rfl, h⟩ | ⟨k, x, rfl, h1, h2, _⟩
  · have : l.any p = false := by rw [List.any_eq_false]; intro x hx; rw [h x hx]; decide
    rw [this]; rfl
  · have : l.any p = true := List.any_eq_true.2 ⟨x, List.mem_of_getElem? h1, h2⟩
    rw [this]; simp
set_option maxRecDepth 100000 in
set_option maxHeartbeats 4000000 in
theorem fcontains_any {F B : Nat} {o : MF.Of} {p : MF.Of → Bool} (hF : Tells F B o p) (eg : ∀ args w, (callFunc F args).run Try.prog w = .ok (.enter F args) w) (A : Option Addr) (n c : Nat) (l : List MF.Of) (w : World) (hl : Lst ofE w A n c l) (hB : OB w B o) : Calls Try.prog 61 #[.slice A n c, .func (.func F) #[] #[.pointer (some ⟨B, 0, none⟩)]] w (Gives (.bool (l.any p)) w) := by
  have HC := Lib.hid (findex_any hF eg A n c l w hl hB)
  clear hF hl hB eg
  go_enter Try.func61, Try.ntmps61
  go_wp2_with fail
  refine HC.out.mono ?_
  rintro ev w2 ⟨r, rfl, hr, nb⟩
  have HE := Lib.hid hr.any
  have B2 := Lib.hid nb
  clear nb hr HC
  go_wp2
  go_ret
  exact ⟨by rw [← HE.out]; rfl, B2.out⟩
end Go.Proofs.Ytjjpfpgjpmedmaa
namespace Go.Proofs.Ytjjpfpgjpmedmaa
open Go.RowKit
section
variable {P : Program}
theorem run_copy_big (w : World) (dT sT ty elem : TypeId) (size g o dLen dCap : Nat) (a : Addr) (sLen sCap : Nat) (cur : Array Value) (t : TypeId) (cs : List Value)
    (hu : P.underlying dT = some (.slice elem)) (hs : (P.info? elem).map (·.size) = some size)
    (hg : w.heap[g]? = some (.cells cur t (0, 0))) (hn : cs.length = Nat.min sLen dLen * size)
    (hsrc : ∀ j v, cs[j]? = some v → w.cell? (a.add j) = some v) (hfit : o + cs.length ≤ cur.size) (h1 : ∀ v ∈ cs, v.oneCell' = true) :
    (Builtin.copy_ #[dT, sT] ty #[.slice (some ⟨g, o, none⟩) dLen dCap, .slice (some a) sLen sCap]).run P w =
      .ok (goInt (Nat.min sLen dLen)) (w.setRow g (cur.toList.take o ++ cs ++ cur.toList.drop (o + cs.length)).toArray) := by
  have hl := run_loadCells_list (P := P) w a cs hsrc
  have hst := run_storeCells_at P g o t cs 0 cur w hg (by simpa using hfit) h1
  cases hq : P.info? elem with
  | none => simp [hq] at hs
  | some i =>
    have hi : i.size = size := by simpa [hq] using hs
    simp [Builtin.copy_, run_underlying hu, Builtin.lenOf, Builtin.firstCells, sizeOf, typeInfo, hq, hi, ← hn, hl, hst]
theorem setRow_grown (w : World) (g : Nat) (cs : Array Value) : w.grownBy (w.setRow g cs) (some g) := ⟨rfl, rfl, rfl, by simp [World.setRow], fun k _ hk => setRow_other w g k cs (fun e => hk (by rw [e]))⟩
theorem zeroCells_len (z : Array Value) (n : Nat) : (Builtin.zeroCells z n).toList.length = n * z.size := by simp [Builtin.zeroCells]
theorem run_clear_row (w : World) (t e ty : TypeId) (z : Value) (ht : P.underlying t = some (.slice e)) (hv : ∀ w, (zeroValue e).run P w = .ok z w) (h1 : ∀ v ∈ (Builtin.zeroCells z.cells 1).toList, v.oneCell' = true) (size : Nat) (hz : z.cells.size = size) (hsz : 0 < size) (g o n c : Nat) (cur : Array Value) (T : TypeId) (hg : w.heap[g]? = some (.cells cur T (0, 0))) (hfit : o + n * size ≤ cur.size) :
    (Builtin.clear_ #[t] ty #[.slice (some ⟨g, o, none⟩) n c]).run P w = .ok (.tuple #[]) w ∧ n = 0 ∨ (Builtin.clear_ #[t] ty #[.slice (some ⟨g, o, none⟩) n c]).run P w = .ok (.tuple #[]) (w.setRow g (cur.toList.take o ++ (Builtin.zeroCells z.cells n).toList ++ cur.toList.drop (o + n * size)).toArray) := by
  cases n with
  | zero => exact .inl ⟨by simp [Builtin.clear_, run_underlying ht], rfl⟩
  | succ m =>
    have hlen := zeroCells_len z.cells (m + 1)
    rw [hz] at hlen
    have hone : ∀ v ∈ (Builtin.zeroCells z.cells (m + 1)).toList, v.oneCell' = true := fun v hv' => by
      unfold Builtin.zeroCells at hv' h1
      simp only [Array.toList_map, Array.toList_range, List.mem_map, List.mem_range] at hv' h1
      obtain ⟨i, _, rfl⟩ := hv'
      refine h1 _ ⟨i % z.cells.size, by rw [hz]; have := Nat.mod_lt i hsz; omega, ?_⟩
      rw [Nat.mod_mod]
    have hst := run_storeCells_at P g o T (Builtin.zeroCells z.cells (m + 1)).toList 0 cur w hg (by rw [hlen]; simpa using hfit) hone
    rw [hlen] at hst
    simp only [Nat.add_zero] at hst
    exact .inr (by simp only [Builtin.clear_]; simp [run_underlying ht, hv, hst])
end
end Go.Proofs.Ytjjpfpgjpmedmaa
namespace Go.Proofs.Ytjjpfpgjpmedmaa
open Go.RowKit
theorem items_yes (u : Array Value) (xs : List Int) (hx : ∀ k, k < 6 → u[k]? = some (.int .i64 (MB.at_ xs k))) (w : World) :
    ∀ ks : List Nat, (∀ k ∈ ks, k < 6) → (Op.eqItems 9998 3 1 u u ks).run Try.prog w = .ok true w
  | [], _ => by simp [Op.eqItems]
  | k :: ks, h => by
    have ih := items_yes u xs hx w ks fun j hj => h j (List.mem_cons_of_mem _ hj)
    have e := run_equalIn_int (P := Try.prog) w 9997 3 .i64 .i64 (MB.at_ xs k) (MB.at_ xs k) Try.underlying3
    simp only [Op.eqItems, Sem.run_bind, part_int u k _ (hx k (h k List.mem_cons_self)), e, Result.andThen_ok]
    simp [ih]
set_option maxRecDepth 100000 in
theorem run_same_yes (xs : List Int) (hx : xs.length = 6) (w : World) : (Op.equalIn 9999 24 (.agg (cellsB xs)) (.agg (cellsB xs))).run Try.prog w = .ok true w := by
  obtain ⟨i, hi⟩ : ∃ i, Try.prog.info? 3 = some i := ⟨_, by rfl⟩
  have hc : Try.prog.cellsOf 3 = 1 := by kernel_rfl
  rw [run_equalIn_array w 9998 (cellsB xs) (cellsB xs) Try.underlying24 hi, hc,
    items_yes _ xs (fun k hk => cellsB_at (by omega)) w _ (fun k hk => by simpa using hk)]
set_option maxRecDepth 100000 in
theorem same_of (i b0 b1 b2 b3 b4 b5 v : Int) (w : World) : (Op.equalIn 10000 60 (.agg #[.int .i64 i, .int .i64 b0, .int .i64 b1, .int .i64 b2, .int .i64 b3, .int .i64 b4, .int .i64 b5, .int .i64 v]) (.agg #[.int .i64 i, .int .i64 b0, .int .i64 b1, .int .i64 b2, .int .i64 b3, .int .i64 b4, .int .i64 b5, .int .i64 v])).run Try.prog w = .ok true w := by
  have p0 : ∀ w, (part 3 #[.int .i64 i, .int .i64 b0, .int .i64 b1, .int .i64 b2, .int .i64 b3, .int .i64 b4, .int .i64 b5, .int .i64 v] 0).run Try.prog w = .ok (.int .i64 i) w := fun w => run_part_plain w (by kernel_rfl) rfl
  have p1 : ∀ w, (part 24 #[.int .i64 i, .int .i64 b0, .int .i64 b1, .int .i64 b2, .int .i64 b3, .int .i64 b4, .int .i64 b5, .int .i64 v] 1).run Try.prog w = .ok (.agg (cellsB [b0, b1, b2, b3, b4, b5])) w := fun w => by rfl
  have p2 : ∀ w, (part 2 #[.int .i64 i, .int .i64 b0, .int .i64 b1, .int .i64 b2, .int .i64 b3, .int .i64 b4, .int .i64 b5, .int .i64 v] 7).run Try.prog w = .ok (.int .i64 v) w := fun w => run_part_plain w (by kernel_rfl) rfl
  have eI := fun w x => run_equalIn_int (P := Try.prog) w 9998 3 .i64 .i64 x x Try.underlying3
  have eJ := fun w x => run_equalIn_int (P := Try.prog) w 9998 2 .i64 .i64 x x Try.underlying2
  have eB := fun w => run_same_yes [b0, b1, b2, b3, b4, b5] rfl w
  have s0 : Try.prog.cellsOf 3 = 1 := by kernel_rfl
  have s1 : Try.prog.cellsOf 24 = 6 := by kernel_rfl
  rw [run_equalIn_agg w 9999 _ _ _ (by unfold Program.fieldsOf; rw [Try.underlying60]) (by kernel_rfl)]
  simp [Program.fieldsOf, Try.underlying60, Op.eqFields, Sem.run_bind, p0, p1, p2, eI, eJ, eB]
set_option maxRecDepth 100000 in
theorem neq_of (i b0 b1 b2 b3 b4 b5 v : Int) (w : World) : (binOp .neq 60 (.agg #[.int .i64 i, .int .i64 b0, .int .i64 b1, .int .i64 b2, .int .i64 b3, .int .i64 b4, .int .i64 b5, .int .i64 v]) (.agg #[.int .i64 i, .int .i64 b0, .int .i64 b1, .int .i64 b2, .int .i64 b3, .int .i64 b4, .int .i64 b5, .int .i64 v])).run Try.prog w = .ok (.bool false) w := by
  have hr : (Op.equal 60 (.agg #[.int .i64 i, .int .i64 b0, .int .i64 b1, .int .i64 b2, .int .i64 b3, .int .i64 b4, .int .i64 b5, .int .i64 v]) (.agg #[.int .i64 i, .int .i64 b0, .int .i64 b1, .int .i64 b2, .int .i64 b3, .int .i64 b4, .int .i64 b5, .int .i64 v])).run Try.prog w = .ok true w := same_of i b0 b1 b2 b3 b4 b5 v w
  unfold binOp
  simp only [Sem.run_bind, hr, Result.andThen_ok]
  rfl
set_option maxRecDepth 100000 in
set_option maxHeartbeats 4000000 in
theorem rsame14_any (A B : Option Addr) (n c m d : Nat) (L : List MF.Of) (w : World) (h : Lst ofE w A n c L) (h' : Lst ofE w B m d L) :
    Calls Try.prog 32 #[.slice A n c, .slice B m d] w (Gives (.bool true) w) := by
  obtain rfl : n = m := h.len.symm.trans h'.len
  have hn := h.few
  have hc := h.cap
  have hd := h'.cap
  have H := Lib.hid h
  have H' := Lib.hid h'
  clear h h'
  go_enter Try.func32, Try.ntmps32
  go_wp2
  go_loopw [5] (fun i wr => ∃ k q : Nat, k ≤ n ∧ i = .int .i64 k ∧ wr = w.drewN q) (fun i _ => n - (intOf i).toNat)
  case atStart => exact ⟨0, 0, by omega, rfl, rfl⟩
  case round =>
    obtain ⟨k, q, hk, rfl, rfl⟩ := hrel
    by_cases hlt : k < n
    · obtain ⟨ad, ⟨i, b0, b1, b2, b3, b4, b5, v⟩, rfl, g1, _, hb, x0, x1, x2, x3, x4, x5, x6, x7⟩ := of_at H.out hlt
      obtain ⟨ad', p', rfl, g2, _, hb', y0, y1, y2, y3, y4, y5, y6, y7⟩ := of_at H'.out hlt
      obtain rfl : ⟨i, b0, b1, b2, b3, b4, b5, v⟩ = p' := by rw [g1] at g2; injection g2
      dsimp only at x0 x1 x2 x3 x4 x5 x6 x7 y0 y1 y2 y3 y4 y5 y6 y7
      have hq := neq_of i b0 b1 b2 b3 b4 b5 v
      clear hb hb' g1 g2
      go_wp2
      go_quiet (fail)
      go_wp2
      go_roundw
      case rel => exact ⟨k + 1, _, by omega, by go_num, rfl⟩
      case measure => simp [intOf]; omega
    · go_wp2
      go_ret
      exact ⟨rfl, by first | exact (Below.refl _ _) | exact below_drewN (Below.refl _ _) _⟩
end Go.Proofs.Ytjjpfpgjpmedmaa
