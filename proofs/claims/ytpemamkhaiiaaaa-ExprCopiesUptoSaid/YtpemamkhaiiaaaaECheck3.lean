/- checkNode: no claim of its own. -/
import Derived.Test.YtpemamkhaiiaaaaECheck2
import Derived.Shelf.Abstract
namespace Go.Proofs.Ytpemamkhaiiaaaa
open Go.RowKit
open ME (F Nd)
/-- What is found by an operation's row. -/
def rowE (l m : Int) (ef : List Int → Int) (eg : Int → Int) (n : Nat) (b : List Int) (v : Int) : Int := if (n : Int) < l ∨ m < (n : Int) then 2 else if ef b ≠ 0 then ef b else eg v
set_option maxRecDepth 100000 in
set_option maxHeartbeats 4000000 in
theorem checkNode_row {l m : Int} {f g : FuncId} {ef : List Int → Int} {eg : Int → Int} (ff : ∀ args w, (callFunc f args).run Try.prog w = .ok (.enter f args) w) (fg : ∀ args w, (callFunc g args).run Try.prog w = .ok (.enter g args) w)
    (cf : ∀ x0 x1 x2 x3 x4 x5 w, Calls Try.prog f #[.agg #[.int .i64 x0, .int .i64 x1, .int .i64 x2, .int .i64 x3, .int .i64 x4, .int .i64 x5]] w (Gives (.int .i64 (ef [x0, x1, x2, x3, x4, x5])) w))
    (cg : ∀ v w, Calls Try.prog g #[.int .i64 v] w (Gives (.int .i64 (eg v)) w))
    (x : NT) (w : World) (ok : Nat → Prop) (hok : x.Ok w ok) (hop : opR x.o = opV l m f g) : Calls Try.prog 27 #[x.val] w (Gives (.int .i64 (rowE l m ef eg x.k.len x.b x.v)) w) := by
  obtain ⟨o, b, v, A, c, k⟩ := x
  obtain ⟨x0, x1, x2, x3, x4, x5, rfl⟩ := six hok.six
  have hn := hok.kids.few
  have HB := Lib.hid (below_new w (.cells #[.int .i64 o, .int .i64 x0, .int .i64 x1, .int .i64 x2, .int .i64 x3, .int .i64 x4, .int .i64 x5, .int .i64 v, .slice A k.len c] 26))
  have N0 := Lib.hid (heap_new w (.cells #[.int .i64 o, .int .i64 x0, .int .i64 x1, .int .i64 x2, .int .i64 x3, .int .i64 x4, .int .i64 x5, .int .i64 v, .slice A k.len c] 26))
  have CO := Lib.hid (operationOf_any o)
  rw [show opR o = _ from hop] at CO
  unfold opV at CO
  have CF := Lib.hid (cf x0 x1 x2 x3 x4 x5)
  have CG := Lib.hid (cg v)
  have E : Hid (rowE l m ef eg k.len [x0, x1, x2, x3, x4, x5] v = if (k.len : Int) < l ∨ m < (k.len : Int) then 2 else if ef [x0, x1, x2, x3, x4, x5] ≠ 0 then ef [x0, x1, x2, x3, x4, x5] else eg v) := Lib.hid rfl
  rw [NT.val_lit]
  show Calls _ _ _ _ (Gives (.int .i64 (rowE l m ef eg k.len [x0, x1, x2, x3, x4, x5] v)) w)
  generalize rowE l m ef eg k.len [x0, x1, x2, x3, x4, x5] v = R at *
  generalize ef [x0, x1, x2, x3, x4, x5] = e1 at *
  generalize eg v = e2 at *
  clear hok hop cf cg
  obtain ⟨W0, hW0⟩ : ∃ W0, W0 = w.alloc (.cells #[.int .i64 o, .int .i64 x0, .int .i64 x1, .int .i64 x2, .int .i64 x3, .int .i64 x4, .int .i64 x5, .int .i64 v, .slice A k.len c] 26) := ⟨_, rfl⟩
  go_enter Try.func27, Try.ntmps27
  go_upto_region 1 with (fail)
  rw [← hW0] at N0 HB ⊢
  clear hW0
  have a0 : W0.cell? ⟨w.heap.size, 0, none⟩ = some (.int .i64 o) := by rw [cell_of_row _ _ _ _ _ _ N0.out]; rfl
  go_wp2_with fail
  refine (CO.out _).mono ?_
  rintro ev w1 ⟨rfl, hb⟩
  have HB1 := Lib.hid (HB.out.trans (hb.mono HB.out.size))
  have N1 := Lib.hid ((hb.block _ (Array.getElem?_eq_some_iff.1 N0.out).1).trans N0.out)
  clear hb HB N0 CO a0
  have T2 := Lib.hid (TB.new w1 45 (.int .i64 l) (.int .i64 m) (.func (.func f) #[] #[]) (.func (.func g) #[] #[]))
  have HB2 := Lib.hid (HB1.out.alloc HB1.out.size (.cells #[.int .i64 l, .int .i64 m, .func (.func f) #[] #[], .func (.func g) #[] #[]] 45))
  have N2 := Lib.hid ((Below.heap_alloc w1 (.cells #[.int .i64 l, .int .i64 m, .func (.func f) #[] #[], .func (.func g) #[] #[]] 45) _ (Array.getElem?_eq_some_iff.1 N1.out).1).trans N1.out)
  go_upto_region 2 with (fail)
  obtain ⟨W2, hW2⟩ : ∃ W2, W2 = w1.alloc (.cells #[.int .i64 l, .int .i64 m, .func (.func f) #[] #[], .func (.func g) #[] #[]] 45) := ⟨_, rfl⟩
  rw [← hW2] at T2 HB2 N2 ⊢
  clear hW2 N1 HB1
  generalize w1.heap.size = g2 at *
  obtain ⟨t0, t1, t2, t3⟩ := T2.out.cells
  obtain ⟨a1, a2, a3, a4, a5, a6, a7, a8⟩ : W2.cell? ⟨w.heap.size, 1, none⟩ = some (.int .i64 x0) ∧ W2.cell? ⟨w.heap.size, 2, none⟩ = some (.int .i64 x1) ∧ W2.cell? ⟨w.heap.size, 3, none⟩ = some (.int .i64 x2) ∧ W2.cell? ⟨w.heap.size, 4, none⟩ = some (.int .i64 x3) ∧ W2.cell? ⟨w.heap.size, 5, none⟩ = some (.int .i64 x4) ∧ W2.cell? ⟨w.heap.size, 6, none⟩ = some (.int .i64 x5) ∧ W2.cell? ⟨w.heap.size, 7, none⟩ = some (.int .i64 v) ∧ W2.cell? ⟨w.heap.size, 8, none⟩ = some (.slice A k.len c) := by
    refine ⟨?_, ?_, ?_, ?_, ?_, ?_, ?_, ?_⟩ <;> (rw [cell_of_row _ _ _ _ _ _ N2.out]; rfl)
  by_cases h1 : (k.len : Int) < l
  · have d1 : decide ((k.len : Int) < l) = true := decide_eq_true h1
    have ER : Hid (R = 2) := Lib.hid (by rw [E.out, if_pos (Or.inl h1)])
    go_wp2
    go_ret
    exact ⟨by rw [ER.out]; rfl, HB2.out⟩
  have d1 : decide ((k.len : Int) < l) = false := decide_eq_false h1
  by_cases h2 : m < (k.len : Int)
  · have d2 : decide (m < (k.len : Int)) = true := decide_eq_true h2
    have ER : Hid (R = 2) := Lib.hid (by rw [E.out, if_pos (Or.inr h2)])
    go_wp2
    go_ret
    exact ⟨by rw [ER.out]; rfl, HB2.out⟩
  have d2 : decide (m < (k.len : Int)) = false := decide_eq_false h2
  have E2 : Hid (R = if e1 ≠ 0 then e1 else e2) := Lib.hid (by rw [E.out, if_neg (by rintro (q | q) <;> contradiction)])
  clear E
  go_wp2_with fail
  refine (CF.out _).mono ?_
  rintro ev w3 ⟨rfl, hb⟩
  have HB3 := Lib.hid (HB2.out.trans (hb.mono HB2.out.size))
  have N3 := Lib.hid ((hb.block _ (Array.getElem?_eq_some_iff.1 N2.out).1).trans N2.out)
  have T3 := Lib.hid (T2.out.keep hb)
  clear hb HB2 N2 T2 CF t0 t1 t2 t3 a1 a2 a3 a4 a5 a6 a7 a8
  by_cases h3 : e1 = 0
  · subst h3
    have ER : Hid (R = e2) := Lib.hid (by rw [E2.out, if_neg (fun q => q rfl)])
    obtain ⟨t0, t1, t2, t3⟩ := T3.out.cells
    have a7 : w3.cell? ⟨w.heap.size, 7, none⟩ = some (.int .i64 v) := by rw [cell_of_row _ _ _ _ _ _ N3.out]; rfl
    clear E2
    go_wp2_with fail
    refine (CG.out _).mono ?_
    rintro ev w4 ⟨rfl, hb⟩
    have HB4 := Lib.hid (HB3.out.trans (hb.mono HB3.out.size))
    clear hb HB3 N3 T3
    go_wp2
    go_ret
    exact ⟨by rw [ER.out]; rfl, HB4.out⟩
  · have d3 : (e1 != 0) = true := bne_iff_ne.2 h3
    have ER : Hid (R = e1) := Lib.hid (by rw [E2.out, if_pos h3])
    clear E2
    go_wp2
    go_ret
    exact ⟨by rw [ER.out]; rfl, HB3.out⟩
set_option maxRecDepth 100000 in
set_option maxHeartbeats 4000000 in
theorem checkNode_none (x : NT) (w : World) (ok : Nat → Prop) (hok : x.Ok w ok) (hop : opR x.o = opZ) : Calls Try.prog 27 #[x.val] w (Gives (.int .i64 2) w) := by
  obtain ⟨o, b, v, A, c, k⟩ := x
  obtain ⟨x0, x1, x2, x3, x4, x5, rfl⟩ := six hok.six
  have hn := hok.kids.few
  have HB := Lib.hid (below_new w (.cells #[.int .i64 o, .int .i64 x0, .int .i64 x1, .int .i64 x2, .int .i64 x3, .int .i64 x4, .int .i64 x5, .int .i64 v, .slice A k.len c] 26))
  have N0 := Lib.hid (heap_new w (.cells #[.int .i64 o, .int .i64 x0, .int .i64 x1, .int .i64 x2, .int .i64 x3, .int .i64 x4, .int .i64 x5, .int .i64 v, .slice A k.len c] 26))
  have CO := Lib.hid (operationOf_any o)
  rw [show opR o = _ from hop] at CO
  unfold opZ at CO
  rw [NT.val_lit]
  clear hok hop
  obtain ⟨W0, hW0⟩ : ∃ W0, W0 = w.alloc (.cells #[.int .i64 o, .int .i64 x0, .int .i64 x1, .int .i64 x2, .int .i64 x3, .int .i64 x4, .int .i64 x5, .int .i64 v, .slice A k.len c] 26) := ⟨_, rfl⟩
  go_enter Try.func27, Try.ntmps27
  go_upto_region 1 with (fail)
  rw [← hW0] at N0 HB ⊢
  clear hW0
  have a0 : W0.cell? ⟨w.heap.size, 0, none⟩ = some (.int .i64 o) := by rw [cell_of_row _ _ _ _ _ _ N0.out]; rfl
  go_wp2_with fail
  refine (CO.out _).mono ?_
  rintro ev w1 ⟨rfl, hb⟩
  have HB1 := Lib.hid (HB.out.trans (hb.mono HB.out.size))
  have HB2 := Lib.hid (HB1.out.alloc HB1.out.size (.cells #[.int .i64 0, .int .i64 0, .nilFunc, .nilFunc] 45))
  clear hb HB N0 CO a0
  go_wp2
  go_ret
  exact ⟨rfl, HB2.out⟩
theorem tot_pos {b : List Int} (hl : b.length = 6) (h : chk b = 0) : 0 ≤ totB b 6 := by
  have hk : MB.okB b = true := by
    cases e : MB.okB b with
    | true => rfl
    | false => rw [chk_no e] at h; cases h
  have g : ∀ i, i ≤ 6 → 0 ≤ totB b i ∧ totB b i ≤ 4 * i := by
    intro i
    induction i with
    | zero => intro _; exact ⟨Int.le_refl _, by simp [totB]⟩
    | succ i ih =>
      intro hi
      obtain ⟨h1, h2⟩ := ih (by omega)
      have h3 := okB_at hk (k := i) (by omega)
      rw [totB]
      unfold wrap64
      omega
  exact (g 6 (Nat.le_refl _)).1
theorem node_ways (x : Nd) (hl : x.b.length = 6) : ME.nodeE x =
    if x.o = 1 then rowE 0 0 someE amtE x.k.len x.b x.v else if x.o = 2 ∨ x.o = 3 then rowE 1 8 noneE zeroE x.k.len x.b x.v
    else if x.o = 4 then rowE 1 1 someE amtE x.k.len x.b x.v else if x.o = 5 then rowE 1 1 noneE amtE x.k.len x.b x.v else 2 := by
  have tp : chk x.b = 0 → 0 ≤ totB x.b 6 := tot_pos hl
  unfold ME.nodeE ME.formB ME.rangeB rowE someE noneE amtE zeroE
  generalize chk x.b = ce at *
  generalize totB x.b 6 = tt at *
  generalize x.k.len = n at *
  by_cases h1 : x.o = 1
  · simp only [if_pos h1]
    by_cases a : n = 0
    · by_cases b : x.v < 1 ∨ 1000000 < x.v
      · simp [a, b, h1]
      · by_cases c : ce = 0
        · by_cases d : tt = 0
          · simp [a, b, h1, c, d]
          · have := tp c
            have e : 1 ≤ tt := by omega
            simp [a, b, h1, c, d, e]
        · simp [a, b, h1, c]
    · simp [a]
  · by_cases h2 : x.o = 2 ∨ x.o = 3
    · simp only [if_neg h1, if_pos h2]
      by_cases a : 1 ≤ n
      · by_cases b : n ≤ 8
        · have e1 : ¬ ((n : Int) < 1 ∨ 8 < (n : Int)) := by omega
          by_cases c : x.b = ME.zero6
          · by_cases d : x.v = 0 <;> simp [a, b, c, d, e1]
          · simp [a, b, c, e1]
        · have e1 : ((n : Int) < 1 ∨ 8 < (n : Int)) := by omega
          simp [b, e1]
      · have e1 : ((n : Int) < 1 ∨ 8 < (n : Int)) := by omega
        simp [a, e1]
    · have h2a : ¬ x.o = 2 := fun g => h2 (.inl g)
      have h2b : ¬ x.o = 3 := fun g => h2 (.inr g)
      simp only [if_neg h1, if_neg h2]
      by_cases h4 : x.o = 4
      · simp only [if_pos h4]
        by_cases a : n = 1
        · have e1 : ¬ ((n : Int) < 1 ∨ 1 < (n : Int)) := by omega
          by_cases b : x.v < 1 ∨ 1000000 < x.v
          · simp [a, b]
          · by_cases c : ce = 0
            · by_cases d : tt = 0
              · simp [a, b, h4, c, d]
              · have := tp c
                have e : 1 ≤ tt := by omega
                simp [a, b, h4, c, d, e]
            · simp [a, b, h4, c]
        · have e1 : ((n : Int) < 1 ∨ 1 < (n : Int)) := by omega
          simp [a, e1]
      · simp only [if_neg h4]
        by_cases h5 : x.o = 5
        · simp only [if_pos h5]
          by_cases a : n = 1
          · by_cases c : x.b = ME.zero6
            · by_cases b : x.v < 1 ∨ 1000000 < x.v <;> simp [a, b, c, h5]
            · simp [a, c]
          · have e1 : ((n : Int) < 1 ∨ 1 < (n : Int)) := by omega
            simp [a, e1]
        · simp [h5]
theorem checkNode_any (x : NT) (w : World) (ok : Nat → Prop) (hok : x.Ok w ok) : Calls Try.prog 27 #[x.val] w (Gives (.int .i64 (ME.nodeE x.n)) w) := by
  have sf := enters_of Try.func33 (by kernel_rfl) rfl
  have nf := enters_of Try.func35 (by kernel_rfl) rfl
  have af := enters_of Try.func34 (by kernel_rfl) rfl
  have zf := enters_of Try.func36 (by kernel_rfl) rfl
  rw [node_ways x.n hok.six]
  have hl : (x.n.k.len : Int) = x.k.len := by rw [← FT.len_f]; rfl
  have hl' : x.n.k.len = x.k.len := by rw [← FT.len_f]; rfl
  rw [hl']
  show Calls _ _ _ _ (Gives (.int .i64 (if x.o = 1 then _ else if x.o = 2 ∨ x.o = 3 then _ else if x.o = 4 then _ else if x.o = 5 then _ else _)) w)
  by_cases h1 : x.o = 1
  · rw [if_pos h1]
    exact checkNode_row sf af someUnits_any anAmount_any x w ok hok (by unfold opR; rw [if_pos h1])
  · by_cases h2 : x.o = 2 ∨ x.o = 3
    · rw [if_neg h1, if_pos h2]
      exact checkNode_row nf zf noUnits_any noAmount_any x w ok hok (by unfold opR; rw [if_neg h1, if_pos h2])
    · by_cases h4 : x.o = 4
      · rw [if_neg h1, if_neg h2, if_pos h4]
        exact checkNode_row sf af someUnits_any anAmount_any x w ok hok (by unfold opR; rw [if_neg h1, if_neg h2, if_pos h4])
      · by_cases h5 : x.o = 5
        · rw [if_neg h1, if_neg h2, if_neg h4, if_pos h5]
          exact checkNode_row nf af noUnits_any anAmount_any x w ok hok (by unfold opR; rw [if_neg h1, if_neg h2, if_neg h4, if_pos h5])
        · rw [if_neg h1, if_neg h2, if_neg h4, if_neg h5]
          exact checkNode_none x w ok hok (by unfold opR; rw [if_neg h1, if_neg h2, if_neg h4, if_neg h5])
end Go.Proofs.Ytpemamkhaiiaaaa
