/- The reference's errors of a node, Check: no claim of its own. -/
import Derived.Test.YtjjpfpgjpmedmaaJO
import Derived.Test.YtjjpfpgjpmedmaaJK
import Derived.Test.YtjjpfpgjpmedmaaJP
namespace Go.Proofs.Ytjjpfpgjpmedmaa
open Go.RowKit
open ME (F Nd)
theorem formB_eq (x : NT) : ME.formB x.n = if x.o = 1 then decide (x.k.len = 0) else if x.o = 2 ∨ x.o = 3 then decide (1 ≤ x.k.len) && decide (x.k.len ≤ 8) && decide (x.b = ME.zero6) && decide (x.v = 0) else if x.o = 4 then decide (x.k.len = 1) else if x.o = 5 then decide (x.k.len = 1) && decide (x.b = ME.zero6) else false := by
  unfold ME.formB
  rw [show x.n.k.len = x.k.len from FT.len_f x.k]
  rfl
set_option maxRecDepth 100000 in
set_option maxHeartbeats 8000000 in
theorem formed_any (x : NT) (w : World) (ok : Nat → Prop) (hok : x.Ok w ok) : Calls Try.prog 66 #[x.val] w (Gives (.bool (ME.formB x.n)) w) := by
  have HF := Lib.hid (formB_eq x)
  obtain ⟨o, b, v, A, c, k⟩ := x
  obtain ⟨x0, x1, x2, x3, x4, x5, rfl⟩ := six hok.six
  have hn := hok.kids.few
  have HB := Lib.hid (below_new w (.cells #[.int .i64 o, .int .i64 x0, .int .i64 x1, .int .i64 x2, .int .i64 x3, .int .i64 x4, .int .i64 x5, .int .i64 v, .slice A k.len c] 28))
  have X0 := Lib.hid (show B9 (w.alloc (.cells #[.int .i64 o, .int .i64 x0, .int .i64 x1, .int .i64 x2, .int .i64 x3, .int .i64 x4, .int .i64 x5, .int .i64 v, .slice A k.len c] 28)) w.heap.size (.int .i64 o) (.int .i64 x0) (.int .i64 x1) (.int .i64 x2) (.int .i64 x3) (.int .i64 x4) (.int .i64 x5) (.int .i64 v) (.slice A k.len c) from heap_new _ _)
  have SM := run_same [x0, x1, x2, x3, x4, x5] ME.zero6 rfl rfl
  rw [cellsB_lit, show cellsB ME.zero6 = #[.int .i64 0, .int .i64 0, .int .i64 0, .int .i64 0, .int .i64 0, .int .i64 0] from rfl] at SM
  dsimp only at HF
  rw [NT.val_lit]
  generalize ME.formB (NT.n ⟨o, [x0, x1, x2, x3, x4, x5], v, A, c, k⟩) = R at *
  obtain ⟨zb, hzb⟩ : ∃ zb, decide ([x0, x1, x2, x3, x4, x5] = ME.zero6) = zb := ⟨_, rfl⟩
  rw [hzb] at SM HF
  clear hok hzb
  have hs1 : (w.alloc (.cells #[.int .i64 o, .int .i64 x0, .int .i64 x1, .int .i64 x2, .int .i64 x3, .int .i64 x4, .int .i64 x5, .int .i64 v, .slice A k.len c] 28)).heap.size = w.heap.size + 1 := by simp
  have HB2 := Lib.hid (HB.out.alloc HB.out.size (.cells #[.int .i64 0, .int .i64 0, .int .i64 0, .int .i64 0, .int .i64 0, .int .i64 0] 24))
  have X1 := Lib.hid (X0.out.keep (below_new _ (.cells #[.int .i64 0, .int .i64 0, .int .i64 0, .int .i64 0, .int .i64 0, .int .i64 0] 24)))
  have Z0 : Hid (BB ((w.alloc (.cells #[.int .i64 o, .int .i64 x0, .int .i64 x1, .int .i64 x2, .int .i64 x3, .int .i64 x4, .int .i64 x5, .int .i64 v, .slice A k.len c] 28)).alloc (.cells #[.int .i64 0, .int .i64 0, .int .i64 0, .int .i64 0, .int .i64 0, .int .i64 0] 24)) (w.heap.size + 1) 24 [0, 0, 0, 0, 0, 0]) := Lib.hid (by have := BB.new (w.alloc (.cells #[.int .i64 o, .int .i64 x0, .int .i64 x1, .int .i64 x2, .int .i64 x3, .int .i64 x4, .int .i64 x5, .int .i64 v, .slice A k.len c] 28)) 24 0 0 0 0 0 0; rwa [hs1] at this)
  obtain ⟨W0, hW0⟩ : ∃ W0, W0 = (w.alloc (.cells #[.int .i64 o, .int .i64 x0, .int .i64 x1, .int .i64 x2, .int .i64 x3, .int .i64 x4, .int .i64 x5, .int .i64 v, .slice A k.len c] 28)).alloc (.cells #[.int .i64 0, .int .i64 0, .int .i64 0, .int .i64 0, .int .i64 0, .int .i64 0] 24) := ⟨_, rfl⟩
  rw [← hW0] at X1 Z0 HB2
  obtain ⟨a0, a1, a2, a3, a4, a5, a6, a7, a8⟩ := X0.out.cells
  go_enter Try.func66, Try.ntmps66
  go_upto_region 3 with (fail)
  rw [← hW0]
  clear hW0 X0 a0 a1 a2 a3 a4 a5 a6 a7 a8 HB hs1
  obtain ⟨a0, a1, a2, a3, a4, a5, a6, a7, a8⟩ := X1.out.cells
  obtain ⟨z0, z1, z2, z3, z4, z5⟩ := cells6 Z0.out
  have HB := HB2
  by_cases h1 : o = 1
  · have e1 : (o == 1) = true := beq_iff_eq.2 h1
    have ER : Hid (R = decide (k.len = 0)) := Lib.hid (by rw [HF.out, if_pos h1])
    clear HF
    rcases Nat.eq_zero_or_pos k.len with hk | hk
    · have q1 : ((k.len : Int) == 0) = true := beq_iff_eq.2 (by omega)
      have ER2 : Hid (R = true) := Lib.hid (by rw [ER.out, decide_eq_true hk])
      clear ER
      go_wp2
      go_ret
      exact ⟨by rw [ER2.out]; rfl, HB.out⟩
    · have q1 : ((k.len : Int) == 0) = false := beq_eq_false_iff_ne.2 (by omega)
      have ER2 : Hid (R = false) := Lib.hid (by rw [ER.out, decide_eq_false (by omega)])
      clear ER
      go_wp2
      go_ret
      exact ⟨by rw [ER2.out]; rfl, HB.out⟩
  have e1 : (o == 1) = false := beq_eq_false_iff_ne.2 h1
  have HF1 := Lib.hid (HF.out.trans (if_neg h1))
  clear HF
  by_cases h23 : o = 2 ∨ o = 3
  · have ER := Lib.hid (HF1.out.trans (if_pos h23))
    clear HF1
    have T : Hid (∀ (P : Prop), (o = 2 → P) → (o ≠ 2 → o = 3 → P) → P) := Lib.hid (fun P p q => by by_cases h : o = 2; exact p h; exact q h (h23.resolve_left h))
    clear h23
    refine T.out _ (fun h2 => ?_) (fun h2 h3 => ?_)
    all_goals clear T
    · have e2 : (o == 2) = true := beq_iff_eq.2 h2
      by_cases hk1 : 1 ≤ k.len
      case neg =>
        have i1 : ¬ (1 : Int) ≤ (k.len : Int) := by omega
        have i1' : ¬ (k.len : Int) ≥ 1 := by omega
        have d1 : decide ((1 : Int) ≤ (k.len : Int)) = false := decide_eq_false i1
        have ER2 : Hid (R = false) := Lib.hid (by rw [ER.out, decide_eq_false hk1]; rfl)
        clear ER
        go_wp2
        go_ret
        exact ⟨by rw [ER2.out]; rfl, HB.out⟩
      have i1 : (1 : Int) ≤ (k.len : Int) := by omega
      have d1 : decide ((1 : Int) ≤ (k.len : Int)) = true := decide_eq_true i1
      by_cases hk8 : k.len ≤ 8
      case neg =>
        have i8 : ¬ (k.len : Int) ≤ 8 := by omega
        have d8 : decide ((k.len : Int) ≤ 8) = false := decide_eq_false i8
        have ER2 : Hid (R = false) := Lib.hid (by rw [ER.out, decide_eq_true hk1, decide_eq_false hk8]; rfl)
        clear ER
        go_wp2
        go_ret
        exact ⟨by rw [ER2.out]; rfl, HB.out⟩
      have i8 : (k.len : Int) ≤ 8 := by omega
      have d8 : decide ((k.len : Int) ≤ 8) = true := decide_eq_true i8
      have ER1 : Hid (R = (zb && decide (v = 0))) := Lib.hid (by rw [ER.out, decide_eq_true hk1, decide_eq_true hk8, Bool.true_and, Bool.true_and])
      clear ER
      cases zb with
      | false =>
        have ER2 : Hid (R = false) := Lib.hid (by rw [ER1.out]; rfl)
        clear ER1
        go_wp2
        go_ret
        exact ⟨by rw [ER2.out]; rfl, HB.out⟩
      | true =>
        by_cases hv : v = 0
        · have qv : (v == 0) = true := beq_iff_eq.2 hv
          have ER2 : Hid (R = true) := Lib.hid (by rw [ER1.out, decide_eq_true hv]; rfl)
          clear ER1
          go_wp2
          go_ret
          exact ⟨by rw [ER2.out]; rfl, HB.out⟩
        · have qv : (v == 0) = false := beq_eq_false_iff_ne.2 hv
          have ER2 : Hid (R = false) := Lib.hid (by rw [ER1.out, decide_eq_false hv]; rfl)
          clear ER1
          go_wp2
          go_ret
          exact ⟨by rw [ER2.out]; rfl, HB.out⟩
    · have e2 : (o == 2) = false := beq_eq_false_iff_ne.2 h2
      have e3 : (o == 3) = true := beq_iff_eq.2 h3
      by_cases hk1 : 1 ≤ k.len
      case neg =>
        have i1 : ¬ (1 : Int) ≤ (k.len : Int) := by omega
        have i1' : ¬ (k.len : Int) ≥ 1 := by omega
        have d1 : decide ((1 : Int) ≤ (k.len : Int)) = false := decide_eq_false i1
        have ER2 : Hid (R = false) := Lib.hid (by rw [ER.out, decide_eq_false hk1]; rfl)
        clear ER
        go_wp2
        go_ret
        exact ⟨by rw [ER2.out]; rfl, HB.out⟩
      have i1 : (1 : Int) ≤ (k.len : Int) := by omega
      have d1 : decide ((1 : Int) ≤ (k.len : Int)) = true := decide_eq_true i1
      by_cases hk8 : k.len ≤ 8
      case neg =>
        have i8 : ¬ (k.len : Int) ≤ 8 := by omega
        have d8 : decide ((k.len : Int) ≤ 8) = false := decide_eq_false i8
        have ER2 : Hid (R = false) := Lib.hid (by rw [ER.out, decide_eq_true hk1, decide_eq_false hk8]; rfl)
        clear ER
        go_wp2
        go_ret
        exact ⟨by rw [ER2.out]; rfl, HB.out⟩
      have i8 : (k.len : Int) ≤ 8 := by omega
      have d8 : decide ((k.len : Int) ≤ 8) = true := decide_eq_true i8
      have ER1 : Hid (R = (zb && decide (v = 0))) := Lib.hid (by rw [ER.out, decide_eq_true hk1, decide_eq_true hk8, Bool.true_and, Bool.true_and])
      clear ER
      cases zb with
      | false =>
        have ER2 : Hid (R = false) := Lib.hid (by rw [ER1.out]; rfl)
        clear ER1
        go_wp2
        go_ret
        exact ⟨by rw [ER2.out]; rfl, HB.out⟩
      | true =>
        by_cases hv : v = 0
        · have qv : (v == 0) = true := beq_iff_eq.2 hv
          have ER2 : Hid (R = true) := Lib.hid (by rw [ER1.out, decide_eq_true hv]; rfl)
          clear ER1
          go_wp2
          go_ret
          exact ⟨by rw [ER2.out]; rfl, HB.out⟩
        · have qv : (v == 0) = false := beq_eq_false_iff_ne.2 hv
          have ER2 : Hid (R = false) := Lib.hid (by rw [ER1.out, decide_eq_false hv]; rfl)
          clear ER1
          go_wp2
          go_ret
          exact ⟨by rw [ER2.out]; rfl, HB.out⟩
  have h2 : ¬ o = 2 := fun q => h23 (.inl q)
  have h3 : ¬ o = 3 := fun q => h23 (.inr q)
  have e2 : (o == 2) = false := beq_eq_false_iff_ne.2 h2
  have e3 : (o == 3) = false := beq_eq_false_iff_ne.2 h3
  have HF2 := Lib.hid (HF1.out.trans (if_neg h23))
  clear HF1 h23 h2 h3 h1
  by_cases h4 : o = 4
  · have e4 : (o == 4) = true := beq_iff_eq.2 h4
    have ER := Lib.hid (HF2.out.trans (if_pos h4))
    clear HF2
    by_cases hk : k.len = 1
    · have q1 : ((k.len : Int) == 1) = true := beq_iff_eq.2 (by omega)
      have ER2 : Hid (R = true) := Lib.hid (by rw [ER.out, decide_eq_true hk])
      clear ER
      go_wp2
      go_ret
      exact ⟨by rw [ER2.out]; rfl, HB.out⟩
    · have q1 : ((k.len : Int) == 1) = false := beq_eq_false_iff_ne.2 (by omega)
      have ER2 : Hid (R = false) := Lib.hid (by rw [ER.out, decide_eq_false hk])
      clear ER
      go_wp2
      go_ret
      exact ⟨by rw [ER2.out]; rfl, HB.out⟩
  have e4 : (o == 4) = false := beq_eq_false_iff_ne.2 h4
  have HF3 := Lib.hid (HF2.out.trans (if_neg h4))
  clear HF2
  by_cases h5 : o = 5
  · have e5 : (o == 5) = true := beq_iff_eq.2 h5
    have ER := Lib.hid (HF3.out.trans (if_pos h5))
    clear HF3
    by_cases hk : k.len = 1
    · have q1 : ((k.len : Int) == 1) = true := beq_iff_eq.2 (by omega)
      have ER2 : Hid (R = zb) := Lib.hid (by rw [ER.out, decide_eq_true hk, Bool.true_and])
      clear ER
      go_wp2
      go_ret
      exact ⟨by rw [ER2.out]; rfl, HB.out⟩
    · have q1 : ((k.len : Int) == 1) = false := beq_eq_false_iff_ne.2 (by omega)
      have ER2 : Hid (R = false) := Lib.hid (by rw [ER.out, decide_eq_false hk, Bool.false_and])
      clear ER
      go_wp2
      go_ret
      exact ⟨by rw [ER2.out]; rfl, HB.out⟩
  have e5 : (o == 5) = false := beq_eq_false_iff_ne.2 h5
  have ER2 := Lib.hid (HF3.out.trans (if_neg h5))
  clear HF3
  go_wp2
  go_ret
  exact ⟨by rw [ER2.out]; rfl, HB.out⟩
end Go.Proofs.Ytjjpfpgjpmedmaa
