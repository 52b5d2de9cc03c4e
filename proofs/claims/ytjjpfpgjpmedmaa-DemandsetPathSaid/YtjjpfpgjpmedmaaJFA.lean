/- FOf, FVal, FRef, FIdx, FRow, joined: no claim of its own. -/
import Derived.Test.YtjjpfpgjpmedmaaJJ
import Derived.Test.YtjjpfpgjpmedmaaJFM
import Derived.Test.YtjjpfpgjpmedmaaVWorth
import Derived.Deep.RegionHeld3
import Derived.Deep.DeepCutAuto
import Derived.Laws.CopyOwn
import Derived.Laws.OwnMore
namespace Go.Proofs.Ytjjpfpgjpmedmaa
open Go.RowKit
def cells_of (p : MF.Of) : List Value := [.int .i64 p.bidder, .int .i64 p.b0, .int .i64 p.b1, .int .i64 p.b2, .int .i64 p.b3, .int .i64 p.b4, .int .i64 p.b5, .int .i64 p.value]
def ofE : El MF.Of where
  cells := cells_of
  sz := 8
  fine p := (-9223372036854775808 ≤ p.bidder ∧ p.bidder ≤ 9223372036854775807) ∧ (-9223372036854775808 ≤ p.b0 ∧ p.b0 ≤ 9223372036854775807) ∧ (-9223372036854775808 ≤ p.b1 ∧ p.b1 ≤ 9223372036854775807) ∧ (-9223372036854775808 ≤ p.b2 ∧ p.b2 ≤ 9223372036854775807) ∧ (-9223372036854775808 ≤ p.b3 ∧ p.b3 ≤ 9223372036854775807) ∧ (-9223372036854775808 ≤ p.b4 ∧ p.b4 ≤ 9223372036854775807) ∧ (-9223372036854775808 ≤ p.b5 ∧ p.b5 ≤ 9223372036854775807) ∧ (-9223372036854775808 ≤ p.value ∧ p.value ≤ 9223372036854775807)
  len _ _ := rfl
  one a u hu := by
    simp only [cells_of, List.mem_cons, List.not_mem_nil, or_false] at hu
    rcases hu with rfl | rfl | rfl | rfl | rfl | rfl | rfl | rfl <;> rfl
  pos := by decide
/-- The k-th element's cells, as the walk spells them. -/
theorem of_at {w : World} {A : Option Addr} {n c : Nat} {l : List MF.Of} (h : Lst ofE w A n c l) {k : Nat} (hk : k < n) : ∃ (ad : Addr) (p : MF.Of), A = some ad ∧ l[k]? = some p ∧ ofE.fine p ∧ ad.block < w.heap.size ∧
    w.cell? (ad.add (k * 8)) = some (.int .i64 p.bidder) ∧
    w.cell? (⟨(ad.add (k * 8)).block, (ad.add (k * 8)).off + 1, none⟩) = some (.int .i64 p.b0) ∧
    w.cell? (⟨(ad.add (k * 8)).block, (ad.add (k * 8)).off + 2, none⟩) = some (.int .i64 p.b1) ∧
    w.cell? (⟨(ad.add (k * 8)).block, (ad.add (k * 8)).off + 3, none⟩) = some (.int .i64 p.b2) ∧
    w.cell? (⟨(ad.add (k * 8)).block, (ad.add (k * 8)).off + 4, none⟩) = some (.int .i64 p.b3) ∧
    w.cell? (⟨(ad.add (k * 8)).block, (ad.add (k * 8)).off + 5, none⟩) = some (.int .i64 p.b4) ∧
    w.cell? (⟨(ad.add (k * 8)).block, (ad.add (k * 8)).off + 6, none⟩) = some (.int .i64 p.b5) ∧
    w.cell? (⟨(ad.add (k * 8)).block, (ad.add (k * 8)).off + 7, none⟩) = some (.int .i64 p.value) := by
  obtain ⟨ad, p, e, hx, hf, hb, hc⟩ := h.at0 hk
  refine ⟨ad, p, e, hx, hf, hb, ?_, ?_, ?_, ?_, ?_, ?_, ?_, ?_⟩
  · have := hc 0 _ rfl; rwa [show ∀ a : Addr, a.add 0 = a from fun a => by unfold Addr.add; simp] at this
  · have := hc 1 _ rfl; exact this
  · have := hc 2 _ rfl; exact this
  · have := hc 3 _ rfl; exact this
  · have := hc 4 _ rfl; exact this
  · have := hc 5 _ rfl; exact this
  · have := hc 6 _ rfl; exact this
  · have := hc 7 _ rfl; exact this
end Go.Proofs.Ytjjpfpgjpmedmaa
namespace Go.Proofs.Ytjjpfpgjpmedmaa
open Go.RowKit
set_option maxRecDepth 100000 in
set_option maxHeartbeats 2000000 in
theorem fval_any (L : List MF.Of) (A : Option Addr) (n cp : Nat) (a b c d e f : Int) (w : World) (hL : Lst ofE w A n cp L) : Calls Try.prog 15 #[.slice A n cp, .agg #[.int .i64 a, .int .i64 b, .int .i64 c, .int .i64 d, .int .i64 e, .int .i64 f]] w (Gives (.int .i64 (VV.worth (MF.stp L) [a, b, c, d, e, f])) w) := by
  have H1 := Lib.hid (BB.new w 24 a b c d e f)
  have HN := Lib.hid (below_new w (.cells #[.int .i64 a, .int .i64 b, .int .i64 c, .int .i64 d, .int .i64 e, .int .i64 f] 24))
  have RW := Lib.hid (hL.keep HN.out)
  have hn := hL.few
  have HWi := Lib.hid (fun x0 x1 x2 x3 x4 x5 w => within_any x0 x1 x2 x3 x4 x5 a b c d e f w)
  obtain ⟨W0, hW0⟩ : ∃ F : VV.St → Int, F = fun T => VV.worth T [a, b, c, d, e, f] := ⟨_, rfl⟩
  have hN : VV.worth (MF.stp L) [a, b, c, d, e, f] = W0 ((MF.stp L).take n) := by rw [hW0, ← hL.len, show L.length = (MF.stp L).length by unfold MF.stp; rw [List.length_map], List.take_length]
  rw [hN]
  have HW0 := Lib.hid hW0
  clear hN hW0 hL
  go_enter Try.func15, Try.ntmps15
  go_wp2
  generalize w.alloc (.cells #[.int .i64 a, .int .i64 b, .int .i64 c, .int .i64 d, .int .i64 e, .int .i64 f] 24) = W at *
  go_loopw [5, 10] (fun t i wr => ∃ k : Nat, k ≤ n ∧ i = .int .i64 k ∧ t = .int .i64 (W0 ((MF.stp L).take k)) ∧ BB wr w.heap.size 24 [a, b, c, d, e, f] ∧ Lst ofE wr A n cp L ∧ Below w.heap.size w wr) (fun _ i _ => n - (intOf i).toNat)
  case atStart => exact ⟨0, Nat.zero_le _, rfl, by rw [HW0.out]; rfl, H1.out, RW.out, HN.out⟩
  case round =>
    obtain ⟨k, hk, rfl, rfl, hbb, hst, hbw⟩ := hrel
    have K := Lib.hid hbb
    have R := Lib.hid hst
    have HB := Lib.hid hbw
    clear hbb hst hbw H1 HN RW
    by_cases hlt : k < n
    · obtain ⟨ad, ⟨bi, x0, x1, x2, x3, x4, x5, v⟩, rfl, hrow, _, hadl, e0, e1, e2, e3, e4, e5, e6, e7⟩ := of_at R.out hlt
      have HR := Lib.hid (MF.stp_at hrow)
      dsimp only at e0 e1 e2 e3 e4 e5 e6 e7
      clear hrow
      have Y1 := Lib.hid (fun (h : MB.withinB [x0, x1, x2, x3, x4, x5] [a, b, c, d, e, f] 6 = true) (hv : W0 ((MF.stp L).take k) < v) => (by
        rw [HW0.out] at hv ⊢
        exact (worth_yes HR.out h hv).symm : v = W0 ((MF.stp L).take (k + 1))))
      have Y2 := Lib.hid (fun (hv : v ≤ W0 ((MF.stp L).take k)) => (by
        rw [HW0.out] at hv ⊢
        exact (worth_no1 HR.out hv).symm : W0 ((MF.stp L).take k) = W0 ((MF.stp L).take (k + 1))))
      have Y3 := Lib.hid (fun (h : MB.withinB [x0, x1, x2, x3, x4, x5] [a, b, c, d, e, f] 6 = false) => (by
        rw [HW0.out]
        exact (worth_no2 HR.out h).symm : W0 ((MF.stp L).take k) = W0 ((MF.stp L).take (k + 1))))
      generalize W0 ((MF.stp L).take k) = m at *
      generalize hm' : W0 ((MF.stp L).take (k + 1)) = m' at *
      have HM := Lib.hid hm'
      clear hm'
      go_upto_region 5 with (fail)
      have hh := heap_new wr (.cells #[.int .i64 bi, .int .i64 x0, .int .i64 x1, .int .i64 x2, .int .i64 x3, .int .i64 x4, .int .i64 x5, .int .i64 v] 60)
      have q0 := (cell_of_row _ _ 0 _ _ _ hh).trans rfl
      have q1 := (cell_of_row _ _ 1 _ _ _ hh).trans rfl
      have q2 := (cell_of_row _ _ 2 _ _ _ hh).trans rfl
      have q3 := (cell_of_row _ _ 3 _ _ _ hh).trans rfl
      have q4 := (cell_of_row _ _ 4 _ _ _ hh).trans rfl
      have q5 := (cell_of_row _ _ 5 _ _ _ hh).trans rfl
      have q6 := (cell_of_row _ _ 6 _ _ _ hh).trans rfl
      have q7 := (cell_of_row _ _ 7 _ _ _ hh).trans rfl
      have hn1 := below_new wr (.cells #[.int .i64 bi, .int .i64 x0, .int .i64 x1, .int .i64 x2, .int .i64 x3, .int .i64 x4, .int .i64 x5, .int .i64 v] 60)
      have K1 := Lib.hid (K.out.keep hn1 K.out.lt)
      have R1 := Lib.hid (R.out.keep hn1)
      have HB1 := Lib.hid (HB.out.trans (hn1.mono HB.out.size))
      have hB1 : wr.heap.size < (wr.alloc (.cells #[.int .i64 bi, .int .i64 x0, .int .i64 x1, .int .i64 x2, .int .i64 x3, .int .i64 x4, .int .i64 x5, .int .i64 v] 60)).heap.size := by simp
      generalize wr.alloc (.cells #[.int .i64 bi, .int .i64 x0, .int .i64 x1, .int .i64 x2, .int .i64 x3, .int .i64 x4, .int .i64 x5, .int .i64 v] 60) = w1 at *
      generalize wr.heap.size = B1 at *
      clear hh hn1 e0 e1 e2 e3 e4 e5 e6 e7 hadl K R HB
      by_cases hv : m < v
      · have hd : decide (m < v) = true := decide_eq_true hv
        obtain ⟨r0, r1, r2, r3, r4, r5⟩ := cells6 K1.out
        have HC := Lib.hid (HWi.out x0 x1 x2 x3 x4 x5)
        by_cases h : MB.withinB [x0, x1, x2, x3, x4, x5] [a, b, c, d, e, f] 6 = true
        · rw [h] at HC
          go_wp2_with fail
          refine (HC.out _).mono ?_
          rintro e2 w2 ⟨rfl, hb⟩
          have q7' := (hb.cell (p := ⟨B1, 7, none⟩) hB1).trans q7
          have K2 := Lib.hid (K1.out.keep hb K1.out.lt)
          have R2 := Lib.hid (R1.out.keep hb)
          have HB2 := Lib.hid (HB1.out.trans (hb.mono HB1.out.size))
          clear q0 q1 q2 q3 q4 q5 q6 q7 r0 r1 r2 r3 r4 r5 K1 R1 HB1 hb
          go_wp2
          go_roundw
          case rel => exact ⟨k + 1, by omega, by go_num, by rw [Y1.out h hv, HM.out], K2.out, R2.out, HB2.out⟩
          case measure => simp [intOf]; omega
        · have h' : MB.withinB [x0, x1, x2, x3, x4, x5] [a, b, c, d, e, f] 6 = false := by simpa using h
          rw [h'] at HC
          go_wp2_with fail
          refine (HC.out _).mono ?_
          rintro e2 w2 ⟨rfl, hb⟩
          have K2 := Lib.hid (K1.out.keep hb K1.out.lt)
          have R2 := Lib.hid (R1.out.keep hb)
          have HB2 := Lib.hid (HB1.out.trans (hb.mono HB1.out.size))
          clear q0 q1 q2 q3 q4 q5 q6 q7 r0 r1 r2 r3 r4 r5 K1 R1 HB1 hb
          go_wp2
          go_roundw
          case rel => exact ⟨k + 1, by omega, by go_num, by rw [Y3.out h', HM.out], K2.out, R2.out, HB2.out⟩
          case measure => simp [intOf]; omega
      · have hd : decide (m < v) = false := decide_eq_false hv
        go_wp2
        go_roundw
        case rel => exact ⟨k + 1, by omega, by go_num, by rw [Y2.out (by omega), HM.out], K1.out, R1.out, HB1.out⟩
        case measure => simp [intOf]; omega
    · obtain rfl : k = n := by omega
      go_wp2
      go_ret
      exact ⟨rfl, HB.out⟩
end Go.Proofs.Ytjjpfpgjpmedmaa
namespace Go.Proofs.Ytjjpfpgjpmedmaa
open Go.RowKit
attribute [local go_sem] Oper.semAt_some
end Go.Proofs.Ytjjpfpgjpmedmaa
namespace Go.Proofs.Ytjjpfpgjpmedmaa
open Go.RowKit
attribute [local go_sem] Oper.semAt_some
/-- Block B holds an offer. -/
def OB (w : World) (B : Nat) (o : MF.Of) : Prop := w.heap[B]? = some (.cells (cells_of o).toArray 60 (0, 0))
theorem OB.lt {w : World} {B : Nat} {o : MF.Of} (h : OB w B o) : B < w.heap.size := (Array.getElem?_eq_some_iff.1 h).1
theorem OB.keep {w w' : World} {B : Nat} {o : MF.Of} (h : OB w B o) (hb : Below w.heap.size w w') : OB w' B o := (hb.block B h.lt).trans h
theorem OB.same {w w' : World} {B : Nat} {o : MF.Of} (h : OB w B o) (hb : w'.heap[B]? = w.heap[B]?) : OB w' B o := hb.trans h
/-- Where the first one lies. -/
def Idx (p : MF.Of → Bool) (l : List MF.Of) (r : Int) : Prop := (r = -1 ∧ ∀ x ∈ l, p x = false) ∨ ∃ k x, r = (k : Nat) ∧ l[k]? = some x ∧ p x = true ∧ ∀ j y, j < k → l[j]? = some y → p y = false
theorem Idx.any {p : MF.Of → Bool} {l : List MF.Of} {r : Int} (h : Idx p l r) : decide (0 ≤ r) = l.any p := by
  rcases h with ⟨rfl, h⟩ | ⟨k, x, rfl, h1, h2, _⟩
  · have : l.any p = false := by rw [List.any_eq_false]; intro x hx; rw [h x hx]; decide
    rw [this]; rfl
  · have : l.any p = true := List.any_eq_true.2 ⟨x, List.mem_of_getElem? h1, h2⟩
    rw [this]; simp
end Go.Proofs.Ytjjpfpgjpmedmaa
namespace Go.Proofs.Ytjjpfpgjpmedmaa
open Go.RowKit
section
variable {P : Program}
end
end Go.Proofs.Ytjjpfpgjpmedmaa
