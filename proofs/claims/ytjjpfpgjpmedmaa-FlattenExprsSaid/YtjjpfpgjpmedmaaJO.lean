/- ECheck, ECheck2, ECheck3, joined: no claim of its own. -/
import Derived.Test.YtjjpfpgjpmedmaaJK
import Derived.Test.YtjjpfpgjpmedmaaJB
import Derived.Test.YtjjpfpgjpmedmaaBEq
import Derived.Deep.DeepCutAuto
import Derived.Laws.EntriesVeiled
import Derived.Shelf.Abstract
namespace Go.Proofs.Ytjjpfpgjpmedmaa
open Go.RowKit
open ME (F Nd)
def someE (b : List Int) : Int := if chk b ≠ 0 ∨ totB b 6 = 0 then 4 else 0
def noneE (b : List Int) : Int := if b = ME.zero6 then 0 else 2
def amtE (v : Int) : Int := if v < 1 ∨ 1000000 < v then 4 else 0
def zeroE (v : Int) : Int := if v = 0 then 0 else 2
set_option maxRecDepth 100000 in
set_option maxHeartbeats 2000000 in
theorem someUnits_any (x0 x1 x2 x3 x4 x5 : Int) (w : World) : Calls Try.prog 89 #[.agg #[.int .i64 x0, .int .i64 x1, .int .i64 x2, .int .i64 x3, .int .i64 x4, .int .i64 x5]] w (Gives (.int .i64 (someE [x0, x1, x2, x3, x4, x5])) w) := by
  have HB := Lib.hid (below_new w (.cells #[.int .i64 x0, .int .i64 x1, .int .i64 x2, .int .i64 x3, .int .i64 x4, .int .i64 x5] 24))
  have BX := Lib.hid (BB.new w 24 x0 x1 x2 x3 x4 x5)
  have CC := Lib.hid (bcheck_any x0 x1 x2 x3 x4 x5)
  have CT := Lib.hid (total_any x0 x1 x2 x3 x4 x5)
  have E : Hid (someE [x0, x1, x2, x3, x4, x5] = if chk [x0, x1, x2, x3, x4, x5] ≠ 0 ∨ totB [x0, x1, x2, x3, x4, x5] 6 = 0 then 4 else 0) := Lib.hid rfl
  generalize someE [x0, x1, x2, x3, x4, x5] = R at *
  generalize chk [x0, x1, x2, x3, x4, x5] = ce at *
  generalize totB [x0, x1, x2, x3, x4, x5] 6 = tt at *
  obtain ⟨c0, c1, c2, c3, c4, c5⟩ := cells6 BX.out
  go_enter Try.func89, Try.ntmps89
  go_wp2_with fail
  refine (CC.out _).mono ?_
  rintro ev w3 ⟨rfl, hb3⟩
  have BX3 := Lib.hid (BX.out.keep hb3 BX.out.lt)
  have HB3 := Lib.hid (HB.out.trans (hb3.mono HB.out.size))
  clear hb3 HB BX c0 c1 c2 c3 c4 c5
  by_cases h1 : ce = 0
  · subst h1
    obtain ⟨c0, c1, c2, c3, c4, c5⟩ := cells6 BX3.out
    go_wp2_with fail
    refine (CT.out _).mono ?_
    rintro ev w4 ⟨rfl, hb4⟩
    have HB4 := Lib.hid (HB3.out.trans (hb4.mono HB3.out.size))
    clear hb4 HB3 c0 c1 c2 c3 c4 c5
    by_cases h2 : tt = 0
    · subst h2
      have ER : Hid (R = 4) := Lib.hid (by rw [E.out, if_pos (Or.inr rfl)])
      go_wp2
      go_ret
      exact ⟨by rw [ER.out]; rfl, HB4.out⟩
    · have e2 : (tt == 0) = false := beq_eq_false_iff_ne.2 h2
      have ER : Hid (R = 0) := Lib.hid (by rw [E.out, if_neg (by rintro (g | g); exact g rfl; exact h2 g)])
      go_wp2
      go_ret
      exact ⟨by rw [ER.out]; rfl, HB4.out⟩
  · have e1 : (ce != 0) = true := bne_iff_ne.2 h1
    have ER : Hid (R = 4) := Lib.hid (by rw [E.out, if_pos (Or.inl h1)])
    go_wp2
    go_ret
    exact ⟨by rw [ER.out]; rfl, HB3.out⟩
set_option maxRecDepth 100000 in
set_option maxHeartbeats 2000000 in
theorem noUnits_any (x0 x1 x2 x3 x4 x5 : Int) (w : World) : Calls Try.prog 91 #[.agg #[.int .i64 x0, .int .i64 x1, .int .i64 x2, .int .i64 x3, .int .i64 x4, .int .i64 x5]] w (Gives (.int .i64 (noneE [x0, x1, x2, x3, x4, x5])) w) := by
  have HB := Lib.hid (below_new w (.cells #[.int .i64 x0, .int .i64 x1, .int .i64 x2, .int .i64 x3, .int .i64 x4, .int .i64 x5] 24))
  have BX := Lib.hid (BB.new w 24 x0 x1 x2 x3 x4 x5)
  have SM := run_same [x0, x1, x2, x3, x4, x5] ME.zero6 rfl rfl
  rw [cellsB_lit, show cellsB ME.zero6 = #[.int .i64 0, .int .i64 0, .int .i64 0, .int .i64 0, .int .i64 0, .int .i64 0] from rfl] at SM
  have E : Hid (noneE [x0, x1, x2, x3, x4, x5] = if [x0, x1, x2, x3, x4, x5] = ME.zero6 then 0 else 2) := Lib.hid rfl
  generalize noneE [x0, x1, x2, x3, x4, x5] = R at *
  obtain ⟨c0, c1, c2, c3, c4, c5⟩ := cells6 BX.out
  by_cases h : [x0, x1, x2, x3, x4, x5] = ME.zero6
  · rw [decide_eq_true h] at SM
    have ER : Hid (R = 0) := Lib.hid (by rw [E.out, if_pos h])
    clear h E
    go_enter Try.func91, Try.ntmps91
    go_wp2
    go_ret
    exact ⟨by rw [ER.out]; rfl, HB.out⟩
  · rw [decide_eq_false h] at SM
    have ER : Hid (R = 2) := Lib.hid (by rw [E.out, if_neg h])
    clear h E
    go_enter Try.func91, Try.ntmps91
    go_wp2
    go_ret
    exact ⟨by rw [ER.out]; rfl, HB.out⟩
set_option maxRecDepth 100000 in
theorem noAmount_any (v : Int) (w : World) : Calls Try.prog 92 #[.int .i64 v] w (Gives (.int .i64 (zeroE v)) w) := by
  by_cases h : v = 0
  · have ER : Hid (zeroE v = 0) := Lib.hid (if_pos h)
    subst h
    go_enter Try.func92, Try.ntmps92
    go_wp2
    go_ret
    exact ⟨by rw [ER.out]; rfl, Below.refl _ _⟩
  · have e : (v != 0) = true := bne_iff_ne.2 h
    have ER : Hid (zeroE v = 2) := Lib.hid (if_neg h)
    go_enter Try.func92, Try.ntmps92
    go_wp2
    go_ret
    exact ⟨by rw [ER.out]; rfl, Below.refl _ _⟩
set_option maxRecDepth 100000 in
theorem anAmount_any (v : Int) (w : World) : Calls Try.prog 90 #[.int .i64 v] w (Gives (.int .i64 (amtE v)) w) := by
  by_cases h1 : v < 1
  · have ER : Hid (amtE v = 4) := Lib.hid (if_pos (.inl h1))
    go_enter Try.func90, Try.ntmps90
    go_wp2
    go_ret
    exact ⟨by rw [ER.out]; rfl, Below.refl _ _⟩
  · by_cases h2 : 1000000 < v
    · have ER : Hid (amtE v = 4) := Lib.hid (if_pos (.inr h2))
      go_enter Try.func90, Try.ntmps90
      go_wp2
      go_ret
      exact ⟨by rw [ER.out]; rfl, Below.refl _ _⟩
    · have ER : Hid (amtE v = 0) := Lib.hid (if_neg (by rintro (g | g) <;> contradiction))
      go_enter Try.func90, Try.ntmps90
      go_wp2
      go_ret
      exact ⟨by rw [ER.out]; rfl, Below.refl _ _⟩
end Go.Proofs.Ytjjpfpgjpmedmaa
namespace Go.Proofs.Ytjjpfpgjpmedmaa
open Go.RowKit
open ME (F Nd)
theorem TB.put4 {w : World} {B : Nat} {T : TypeId} {a b c d : Value} (h : TB w B T a b c d) (a' b' c' d' : Value) : TB ((((w.setCell ⟨B, 0, none⟩ a').setCell ⟨B, 1, none⟩ b').setCell ⟨B, 2, none⟩ c').setCell ⟨B, 3, none⟩ d') B T a' b' c' d' := by
  have h0 : w.heap[B]? = some (.cells #[a, b, c, d] T (0, 0)) := h
  have h1 := heap_setCell_same w B 0 _ _ a' h0
  have h2 := heap_setCell_same _ B 1 _ _ b' h1
  have h3 := heap_setCell_same _ B 2 _ _ c' h2
  have h4 := heap_setCell_same _ B 3 _ _ d' h3
  exact h4
theorem below_put4 {k : Nat} {w w' : World} (hb : Below k w w') {B : Nat} (hk : k ≤ B) (a' b' c' d' : Value) : Below k w ((((w'.setCell ⟨B, 0, none⟩ a').setCell ⟨B, 1, none⟩ b').setCell ⟨B, 2, none⟩ c').setCell ⟨B, 3, none⟩ d') :=
  Below.setCell (p := ⟨B, 3, none⟩) (Below.setCell (p := ⟨B, 2, none⟩) (Below.setCell (p := ⟨B, 1, none⟩) (Below.setCell (p := ⟨B, 0, none⟩) hb hk _) hk _) hk _) hk _
theorem op_results {w : World} {R1 : Nat} {z0 z1 z2 z3 : Value} {r : Bool} (tmps : Array Value) (h2 : tmps.getD 2 undef = .pointer (some ⟨R1, 0, none⟩)) (h3 : tmps.getD 3 undef = .bool r) (b1 : TB w R1 100 z0 z1 z2 z3) :
    (results Try.f74 tmps).run Try.prog w = .ok (.tuple #[.agg #[z0, z1, z2, z3], .bool r]) w := by
  have h2' : tmps[2]?.getD undef = .pointer (some ⟨R1, 0, none⟩) := by simpa using h2
  have h3' : tmps[3]?.getD undef = .bool r := by simpa using h3
  obtain ⟨r0, r1, r2, r3⟩ := b1.cells
  simp [results, Try.results74, h2', h3', go_sem, r0, r1, r2, r3]
/-- What operationOf hands back. -/
def opZ : Value := .tuple #[.agg #[.int .i64 0, .int .i64 0, .nilFunc, .nilFunc], .bool false]
def opV (l m : Int) (f g : FuncId) : Value := .tuple #[.agg #[.int .i64 l, .int .i64 m, .func (.func f) #[] #[], .func (.func g) #[] #[]], .bool true]
def opR (o : Int) : Value := if o = 1 then opV 0 0 89 90 else if o = 2 ∨ o = 3 then opV 1 8 91 92
  else if o = 4 then opV 1 1 89 90 else if o = 5 then opV 1 1 91 90 else opZ
set_option maxRecDepth 100000 in
set_option maxHeartbeats 4000000 in
theorem operationOf_any (o : Int) (w : World) : Calls Try.prog 74 #[.int .i64 o] w (Gives (opR o) w) := by
  have T0 := Lib.hid (TB.new w 100 (.int .i64 0) (.int .i64 0) .nilFunc .nilFunc)
  have HB := Lib.hid (below_new w (.cells #[.int .i64 0, .int .i64 0, .nilFunc, .nilFunc] 100))
  obtain ⟨W, hW⟩ : ∃ W, W = w.alloc (.cells #[.int .i64 0, .int .i64 0, .nilFunc, .nilFunc] 100) := ⟨_, rfl⟩
  rw [← hW] at T0 HB
  obtain ⟨t0, t1, t2, t3⟩ := T0.out.cells
  obtain ⟨f0, f1, f2, f3⟩ := T0.out.free
  go_enter Try.func74, Try.ntmps74
  go_upto_region 1 with (fail)
  rw [← hW]
  clear hW
  by_cases h1 : o = 1
  · have e1 : (o == 1) = true := beq_iff_eq.2 h1
    have ER : Hid (opR o = opV 0 0 89 90) := Lib.hid (by unfold opR; rw [if_pos h1])
    go_wp2
    exact bodyPost_ret (op_results _ rfl rfl (T0.out.put4 (.int .i64 0) (.int .i64 0) (.func (.func 89) #[] #[]) (.func (.func 90) #[] #[]))) rfl ⟨by rw [ER.out]; rfl, below_put4 HB.out (Nat.le_refl _) _ _ _ _⟩
  have e1 : (o == 1) = false := beq_eq_false_iff_ne.2 h1
  by_cases h2 : o = 2
  · have e2 : (o == 2) = true := beq_iff_eq.2 h2
    have ER : Hid (opR o = opV 1 8 91 92) := Lib.hid (by unfold opR; rw [if_neg h1, if_pos (Or.inl h2)])
    go_wp2
    exact bodyPost_ret (op_results _ rfl rfl (T0.out.put4 (.int .i64 1) (.int .i64 8) (.func (.func 91) #[] #[]) (.func (.func 92) #[] #[]))) rfl ⟨by rw [ER.out]; rfl, below_put4 HB.out (Nat.le_refl _) _ _ _ _⟩
  have e2 : (o == 2) = false := beq_eq_false_iff_ne.2 h2
  by_cases h3 : o = 3
  · have e3 : (o == 3) = true := beq_iff_eq.2 h3
    have ER : Hid (opR o = opV 1 8 91 92) := Lib.hid (by unfold opR; rw [if_neg h1, if_pos (Or.inr h3)])
    go_wp2
    exact bodyPost_ret (op_results _ rfl rfl (T0.out.put4 (.int .i64 1) (.int .i64 8) (.func (.func 91) #[] #[]) (.func (.func 92) #[] #[]))) rfl ⟨by rw [ER.out]; rfl, below_put4 HB.out (Nat.le_refl _) _ _ _ _⟩
  have e3 : (o == 3) = false := beq_eq_false_iff_ne.2 h3
  have h23 : ¬ (o = 2 ∨ o = 3) := by rintro (g | g) <;> contradiction
  by_cases h4 : o = 4
  · have e4 : (o == 4) = true := beq_iff_eq.2 h4
    have ER : Hid (opR o = opV 1 1 89 90) := Lib.hid (by unfold opR; rw [if_neg h1, if_neg h23, if_pos h4])
    go_wp2
    exact bodyPost_ret (op_results _ rfl rfl (T0.out.put4 (.int .i64 1) (.int .i64 1) (.func (.func 89) #[] #[]) (.func (.func 90) #[] #[]))) rfl ⟨by rw [ER.out]; rfl, below_put4 HB.out (Nat.le_refl _) _ _ _ _⟩
  have e4 : (o == 4) = false := beq_eq_false_iff_ne.2 h4
  by_cases h5 : o = 5
  · have e5 : (o == 5) = true := beq_iff_eq.2 h5
    have ER : Hid (opR o = opV 1 1 91 90) := Lib.hid (by unfold opR; rw [if_neg h1, if_neg h23, if_neg h4, if_pos h5])
    go_wp2
    exact bodyPost_ret (op_results _ rfl rfl (T0.out.put4 (.int .i64 1) (.int .i64 1) (.func (.func 91) #[] #[]) (.func (.func 90) #[] #[]))) rfl ⟨by rw [ER.out]; rfl, below_put4 HB.out (Nat.le_refl _) _ _ _ _⟩
  have e5 : (o == 5) = false := beq_eq_false_iff_ne.2 h5
  have ER : Hid (opR o = opZ) := Lib.hid (by unfold opR; rw [if_neg h1, if_neg h23, if_neg h4, if_neg h5])
  go_wp2
  exact bodyPost_ret (op_results _ rfl rfl (T0.out.put4 (.int .i64 0) (.int .i64 0) .nilFunc .nilFunc)) rfl ⟨by rw [ER.out]; rfl, below_put4 HB.out (Nat.le_refl _) _ _ _ _⟩
end Go.Proofs.Ytjjpfpgjpmedmaa
namespace Go.Proofs.Ytjjpfpgjpmedmaa
open Go.RowKit
open ME (F Nd)
/-- What is found by an operation's row. -/
def rowE (l m : Int) (ef : List Int → Int) (eg : Int → Int) (n : Nat) (b : List Int) (v : Int) : Int := if (n : Int) < l ∨ m < (n : Int) then 2 else if ef b ≠ 0 then ef b else eg v
set_option maxRecDepth 100000 in
set_option maxHeartbeats 4000000 in
theorem checkNode_row {l m : Int} {f g : FuncId} {ef : List Int → Int} {eg : Int → Int} (ff : ∀ args w, (callFunc f args).run Try.prog w = .ok (.enter f args) w) (fg : ∀ args w, (callFunc g args).run Try.prog w = .ok (.enter g args) w)
    (cf : ∀ x0 x1 x2 x3 x4 x5 w, Calls Try.prog f #[.agg #[.int .i64 x0, .int .i64 x1, .int .i64 x2, .int .i64 x3, .int .i64 x4, .int .i64 x5]] w (Gives (.int .i64 (ef [x0, x1, x2, x3, x4, x5])) w))
    (cg : ∀ v w, Calls Try.prog g #[.int .i64 v] w (Gives (.int .i64 (eg v)) w))
    (x : NT) (w : World) (ok : Nat → Prop) (hok : x.Ok w ok) (hop : opR x.o = opV l m f g) : Calls Try.prog 45 #[x.val] w (Gives (.int .i64 (rowE l m ef eg x.k.len x.b x.v)) w) := by
  obtain ⟨o, b, v, A, c, k⟩ := x
  obtain ⟨x0, x1, x2, x3, x4, x5, rfl⟩ := six hok.six
  have hn := hok.kids.few
  have HB := Lib.hid (below_new w (.cells #[.int .i64 o, .int .i64 x0, .int .i64 x1, .int .i64 x2, .int .i64 x3, .int .i64 x4, .int .i64 x5, .int .i64 v, .slice A k.len c] 28))
  have N0 := Lib.hid (heap_new w (.cells #[.int .i64 o, .int .i64 x0, .int .i64 x1, .int .i64 x2, .int .i64 x3, .int .i64 x4, .int .i64 x5, .int .i64 v, .slice A k.len c] 28))
  have CO := Lib.hid (operationOf_any o)
  rw [show opR o = _ from hop] at CO
  unfold opV at CO
  have CF := Lib.hid (cf x0 x1 x2 x3 x4 x5)
  have CG := Lib.hid (cg v)
  have E : Hid (rowE l m ef eg k.len [x0, x1, x2, x3, x4, x5] v = if (k.len : Int) < l ∨ m < (k.len : Int) then 2 else if ef [x0, x1, x2, x3, x4, x5] ≠ 0 then ef [x0, x1, x2, x3, x4, x5] else eg v) := Lib.hid rfl
  rw [NT.val_lit]
  show Calls _ _ _ _ (Gives (.int .i64 (rowE l m ef eg k.len [x0, x1, x2, x3, x4, x5] v)) w)
  generalize rowE l m ef eg k.len [x0, x1, x2, x3, x4, x5] v = R at *
  generalize ef [x0, x1, x2, x3, x4, x5] = e1 at *
  generalize eg v = e2 at *
  clear hok hop cf cg
  obtain ⟨W0, hW0⟩ : ∃ W0, W0 = w.alloc (.cells #[.int .i64 o, .int .i64 x0, .int .i64 x1, .int .i64 x2, .int .i64 x3, .int .i64 x4, .int .i64 x5, .int .i64 v, .slice A k.len c] 28) := ⟨_, rfl⟩
  go_enter Try.func45, Try.ntmps45
  go_upto_region 1 with (fail)
  rw [← hW0] at N0 HB ⊢
  clear hW0
  have a0 : W0.cell? ⟨w.heap.size, 0, none⟩ = some (.int .i64 o) := by rw [cell_of_row _ _ _ _ _ _ N0.out]; rfl
  go_wp2_with fail
  refine (CO.out _).mono ?_
  rintro ev w1 ⟨rfl, hb⟩
  have HB1 := Lib.hid (HB.out.trans (hb.mono HB.out.size))
  have N1 := Lib.hid ((hb.block _ (Array.getElem?_eq_some_iff.1 N0.out).1).trans N0.out)
  clear hb HB N0 CO a0
  have T2 := Lib.hid (TB.new w1 100 (.int .i64 l) (.int .i64 m) (.func (.func f) #[] #[]) (.func (.func g) #[] #[]))
  have HB2 := Lib.hid (HB1.out.alloc HB1.out.size (.cells #[.int .i64 l, .int .i64 m, .func (.func f) #[] #[], .func (.func g) #[] #[]] 100))
  have N2 := Lib.hid ((Below.heap_alloc w1 (.cells #[.int .i64 l, .int .i64 m, .func (.func f) #[] #[], .func (.func g) #[] #[]] 100) _ (Array.getElem?_eq_some_iff.1 N1.out).1).trans N1.out)
  go_upto_region 2 with (fail)
  obtain ⟨W2, hW2⟩ : ∃ W2, W2 = w1.alloc (.cells #[.int .i64 l, .int .i64 m, .func (.func f) #[] #[], .func (.func g) #[] #[]] 100) := ⟨_, rfl⟩
  rw [← hW2] at T2 HB2 N2 ⊢
  clear hW2 N1 HB1
  generalize w1.heap.size = g2 at *
  obtain ⟨t0, t1, t2, t3⟩ := T2.out.cells
  obtain ⟨a1, a2, a3, a4, a5, a6, a7, a8⟩ : W2.cell? ⟨w.heap.size, 1, none⟩ = some (.int .i64 x0) ∧ W2.cell? ⟨w.heap.size, 2, none⟩ = some (.int .i64 x1) ∧ W2.cell? ⟨w.heap.size, 3, none⟩ = some (.int .i64 x2) ∧ W2.cell? ⟨w.heap.size, 4, none⟩ = some (.int .i64 x3) ∧ W2.cell? ⟨w.heap.size, 5, none⟩ = some (.int .i64 x4) ∧ W2.cell? ⟨w.heap.size, 6, none⟩ = some (.int .i64 x5) ∧ W2.cell? ⟨w.heap.size, 7, none⟩ = some (.int .i64 v) ∧ W2.cell? ⟨w.heap.size, 8, none⟩ = some (.slice A k.len c) := by
    refine ⟨?_, ?_, ?_, ?_, ?_, ?_, ?_, ?_⟩ <;> (rw [cell_of_row _ _ _ _ _ _ N2.out]; rfl)
  by_cases h1 : (k.len : Int) < l
  · have d1 : decide ((k.len : Int) < l) = true := decide_eq_true h1
    have ER : Hid (R = 2) := Lib.hid (by rw [E.out, if_pos (Or.inl h1)])
    go_wp2
    go_ret
    exact ⟨by rw [ER.out]; rfl, HB2.out⟩
  have d1 : decide ((k.len : Int) < l) = false := decide_eq_false h1
  by_cases h2 : m < (k.len : Int)
  · have d2 : decide (m < (k.len : Int)) = true := decide_eq_true h2
    have ER : Hid (R = 2) := Lib.hid (by rw [E.out, if_pos (Or.inr h2)])
    go_wp2
    go_ret
    exact ⟨by rw [ER.out]; rfl, HB2.out⟩
  have d2 : decide (m < (k.len : Int)) = false := decide_eq_false h2
  have E2 : Hid (R = if e1 ≠ 0 then e1 else e2) := Lib.hid (by rw [E.out, if_neg (by rintro (q | q) <;> contradiction)])
  clear E
  go_wp2_with fail
  refine (CF.out _).mono ?_
  rintro ev w3 ⟨rfl, hb⟩
  have HB3 := Lib.hid (HB2.out.trans (hb.mono HB2.out.size))
  have N3 := Lib.hid ((hb.block _ (Array.getElem?_eq_some_iff.1 N2.out).1).trans N2.out)
  have T3 := Lib.hid (T2.out.keep hb)
  clear hb HB2 N2 T2 CF t0 t1 t2 t3 a1 a2 a3 a4 a5 a6 a7 a8
  by_cases h3 : e1 = 0
  · subst h3
    have ER : Hid (R = e2) := Lib.hid (by rw [E2.out, if_neg (fun q => q rfl)])
    obtain ⟨t0, t1, t2, t3⟩ := T3.out.cells
    have a7 : w3.cell? ⟨w.heap.size, 7, none⟩ = some (.int .i64 v) := by rw [cell_of_row _ _ _ _ _ _ N3.out]; rfl
    clear E2
    go_wp2_with fail
    refine (CG.out _).mono ?_
    rintro ev w4 ⟨rfl, hb⟩
    have HB4 := Lib.hid (HB3.out.trans (hb.mono HB3.out.size))
    clear hb HB3 N3 T3
    go_wp2
    go_ret
    exact ⟨by rw [ER.out]; rfl, HB4.out⟩
  · have d3 : (e1 != 0) = true := bne_iff_ne.2 h3
    have ER : Hid (R = e1) := Lib.hid (by rw [E2.out, if_pos h3])
    clear E2
    go_wp2
    go_ret
    exact ⟨by rw [ER.out]; rfl, HB3.out⟩
set_option maxRecDepth 100000 in
set_option maxHeartbeats 4000000 in
theorem checkNode_none (x : NT) (w : World) (ok : Nat → Prop) (hok : x.Ok w ok) (hop : opR x.o = opZ) : Calls Try.prog 45 #[x.val] w (Gives (.int .i64 2) w) := by
  obtain ⟨o, b, v, A, c, k⟩ := x
  obtain ⟨x0, x1, x2, x3, x4, x5, rfl⟩ := six hok.six
  have hn := hok.kids.few
  have HB := Lib.hid (below_new w (.cells #[.int .i64 o, .int .i64 x0, .int .i64 x1, .int .i64 x2, .int .i64 x3, .int .i64 x4, .int .i64 x5, .int .i64 v, .slice A k.len c] 28))
  have N0 := Lib.hid (heap_new w (.cells #[.int .i64 o, .int .i64 x0, .int .i64 x1, .int .i64 x2, .int .i64 x3, .int .i64 x4, .int .i64 x5, .int .i64 v, .slice A k.len c] 28))
  have CO := Lib.hid (operationOf_any o)
  rw [show opR o = _ from hop] at CO
  unfold opZ at CO
  rw [NT.val_lit]
  clear hok hop
  obtain ⟨W0, hW0⟩ : ∃ W0, W0 = w.alloc (.cells #[.int .i64 o, .int .i64 x0, .int .i64 x1, .int .i64 x2, .int .i64 x3, .int .i64 x4, .int .i64 x5, .int .i64 v, .slice A k.len c] 28) := ⟨_, rfl⟩
  go_enter Try.func45, Try.ntmps45
  go_upto_region 1 with (fail)
  rw [← hW0] at N0 HB ⊢
  clear hW0
  have a0 : W0.cell? ⟨w.heap.size, 0, none⟩ = some (.int .i64 o) := by rw [cell_of_row _ _ _ _ _ _ N0.out]; rfl
  go_wp2_with fail
  refine (CO.out _).mono ?_
  rintro ev w1 ⟨rfl, hb⟩
  have HB1 := Lib.hid (HB.out.trans (hb.mono HB.out.size))
  have HB2 := Lib.hid (HB1.out.alloc HB1.out.size (.cells #[.int .i64 0, .int .i64 0, .nilFunc, .nilFunc] 100))
  clear hb HB N0 CO a0
  go_wp2
  go_ret
  exact ⟨rfl, HB2.out⟩
theorem tot_pos {b : List Int} (hl : b.length = 6) (h : chk b = 0) : 0 ≤ totB b 6 := by
  have hk : MB.okB b = true := by
    cases e : MB.okB b with
    | true => rfl
    | false => rw [chk_no e] at h; cases h
  have g : ∀ i, i ≤ 6 → 0 ≤ totB b i ∧ totB b i ≤ 4 * i := by
    intro i
    induction i with
    | zero => intro _; exact ⟨Int.le_refl _, by simp [totB]⟩
    | succ i ih =>
      intro hi
      obtain ⟨h1, h2⟩ := ih (by omega)
      have h3 := okB_at hk (k := i) (by omega)
      rw [totB]
      unfold wrap64
      omega
  exact (g 6 (Nat.le_refl _)).1
theorem node_ways (x : Nd) (hl : x.b.length = 6) : ME.nodeE x =
    if x.o = 1 then rowE 0 0 someE amtE x.k.len x.b x.v else if x.o = 2 ∨ x.o = 3 then rowE 1 8 noneE zeroE x.k.len x.b x.v
    else if x.o = 4 then rowE 1 1 someE amtE x.k.len x.b x.v else if x.o = 5 then rowE 1 1 noneE amtE x.k.len x.b x.v else 2 := by
  have tp : chk x.b = 0 → 0 ≤ totB x.b 6 := tot_pos hl
  unfold ME.nodeE ME.formB ME.rangeB rowE someE noneE amtE zeroE
  generalize chk x.b = ce at *
  generalize totB x.b 6 = tt at *
  generalize x.k.len = n at *
  by_cases h1 : x.o = 1
  · simp only [if_pos h1]
    by_cases a : n = 0
    · by_cases b : x.v < 1 ∨ 1000000 < x.v
      · simp [a, b, h1]
      · by_cases c : ce = 0
        · by_cases d : tt = 0
          · simp [a, b, h1, c, d]
          · have := tp c
            have e : 1 ≤ tt := by omega
            simp [a, b, h1, c, d, e]
        · simp [a, b, h1, c]
    · simp [a]
  · by_cases h2 : x.o = 2 ∨ x.o = 3
    · simp only [if_neg h1, if_pos h2]
      by_cases a : 1 ≤ n
      · by_cases b : n ≤ 8
        · have e1 : ¬ ((n : Int) < 1 ∨ 8 < (n : Int)) := by omega
          by_cases c : x.b = ME.zero6
          · by_cases d : x.v = 0 <;> simp [a, b, c, d, e1]
          · simp [a, b, c, e1]
        · have e1 : ((n : Int) < 1 ∨ 8 < (n : Int)) := by omega
          simp [b, e1]
      · have e1 : ((n : Int) < 1 ∨ 8 < (n : Int)) := by omega
        simp [a, e1]
    · have h2a : ¬ x.o = 2 := fun g => h2 (.inl g)
      have h2b : ¬ x.o = 3 := fun g => h2 (.inr g)
      simp only [if_neg h1, if_neg h2]
      by_cases h4 : x.o = 4
      · simp only [if_pos h4]
        by_cases a : n = 1
        · have e1 : ¬ ((n : Int) < 1 ∨ 1 < (n : Int)) := by omega
          by_cases b : x.v < 1 ∨ 1000000 < x.v
          · simp [a, b]
          · by_cases c : ce = 0
            · by_cases d : tt = 0
              · simp [a, b, h4, c, d]
              · have := tp c
                have e : 1 ≤ tt := by omega
                simp [a, b, h4, c, d, e]
            · simp [a, b, h4, c]
        · have e1 : ((n : Int) < 1 ∨ 1 < (n : Int)) := by omega
          simp [a, e1]
      · simp only [if_neg h4]
        by_cases h5 : x.o = 5
        · simp only [if_pos h5]
          by_cases a : n = 1
          · by_cases c : x.b = ME.zero6
            · by_cases b : x.v < 1 ∨ 1000000 < x.v <;> simp [a, b, c, h5]
            · simp [a, c]
          · have e1 : ((n : Int) < 1 ∨ 1 < (n : Int)) := by omega
            simp [a, e1]
        · simp [h5]
theorem checkNode_any (x : NT) (w : World) (ok : Nat → Prop) (hok : x.Ok w ok) : Calls Try.prog 45 #[x.val] w (Gives (.int .i64 (ME.nodeE x.n)) w) := by
  have sf := enters_of Try.func89 (by kernel_rfl) rfl
  have nf := enters_of Try.func91 (by kernel_rfl) rfl
  have af := enters_of Try.func90 (by kernel_rfl) rfl
  have zf := enters_of Try.func92 (by kernel_rfl) rfl
  rw [node_ways x.n hok.six]
  have hl : (x.n.k.len : Int) = x.k.len := by rw [← FT.len_f]; rfl
  have hl' : x.n.k.len = x.k.len := by rw [← FT.len_f]; rfl
  rw [hl']
  show Calls _ _ _ _ (Gives (.int .i64 (if x.o = 1 then _ else if x.o = 2 ∨ x.o = 3 then _ else if x.o = 4 then _ else if x.o = 5 then _ else _)) w)
  by_cases h1 : x.o = 1
  · rw [if_pos h1]
    exact checkNode_row sf af someUnits_any anAmount_any x w ok hok (by unfold opR; rw [if_pos h1])
  · by_cases h2 : x.o = 2 ∨ x.o = 3
    · rw [if_neg h1, if_pos h2]
      exact checkNode_row nf zf noUnits_any noAmount_any x w ok hok (by unfold opR; rw [if_neg h1, if_pos h2])
    · by_cases h4 : x.o = 4
      · rw [if_neg h1, if_neg h2, if_pos h4]
        exact checkNode_row sf af someUnits_any anAmount_any x w ok hok (by unfold opR; rw [if_neg h1, if_neg h2, if_pos h4])
      · by_cases h5 : x.o = 5
        · rw [if_neg h1, if_neg h2, if_neg h4, if_pos h5]
          exact checkNode_row nf af noUnits_any anAmount_any x w ok hok (by unfold opR; rw [if_neg h1, if_neg h2, if_neg h4, if_pos h5])
        · rw [if_neg h1, if_neg h2, if_neg h4, if_neg h5]
          exact checkNode_none x w ok hok (by unfold opR; rw [if_neg h1, if_neg h2, if_neg h4, if_neg h5])
end Go.Proofs.Ytjjpfpgjpmedmaa
