/- operationOf: no claim of its own. -/
import Derived.Test.YtpemamkhaiiaaaaECheck
import Derived.Laws.EntriesVeiled
namespace Go.Proofs.Ytpemamkhaiiaaaa
open Go.RowKit
open ME (F Nd)
theorem TB.put4 {w : World} {B : Nat} {T : TypeId} {a b c d : Value} (h : TB w B T a b c d) (a' b' c' d' : Value) : TB ((((w.setCell ⟨B, 0, none⟩ a').setCell ⟨B, 1, none⟩ b').setCell ⟨B, 2, none⟩ c').setCell ⟨B, 3, none⟩ d') B T a' b' c' d' := by
  have h0 : w.heap[B]? = some (.cells #[a, b, c, d] T (0, 0)) := h
  have h1 := heap_setCell_same w B 0 _ _ a' h0
  have h2 := heap_setCell_same _ B 1 _ _ b' h1
  have h3 := heap_setCell_same _ B 2 _ _ c' h2
  have h4 := heap_setCell_same _ B 3 _ _ d' h3
  exact h4
theorem below_put4 {k : Nat} {w w' : World} (hb : Below k w w') {B : Nat} (hk : k ≤ B) (a' b' c' d' : Value) : Below k w ((((w'.setCell ⟨B, 0, none⟩ a').setCell ⟨B, 1, none⟩ b').setCell ⟨B, 2, none⟩ c').setCell ⟨B, 3, none⟩ d') :=
  Below.setCell (p := ⟨B, 3, none⟩) (Below.setCell (p := ⟨B, 2, none⟩) (Below.setCell (p := ⟨B, 1, none⟩) (Below.setCell (p := ⟨B, 0, none⟩) hb hk _) hk _) hk _) hk _
theorem op_results {w : World} {R1 : Nat} {z0 z1 z2 z3 : Value} {r : Bool} (tmps : Array Value) (h2 : tmps.getD 2 undef = .pointer (some ⟨R1, 0, none⟩)) (h3 : tmps.getD 3 undef = .bool r) (b1 : TB w R1 45 z0 z1 z2 z3) :
    (results Try.f32 tmps).run Try.prog w = .ok (.tuple #[.agg #[z0, z1, z2, z3], .bool r]) w := by
  have h2' : tmps[2]?.getD undef = .pointer (some ⟨R1, 0, none⟩) := by simpa using h2
  have h3' : tmps[3]?.getD undef = .bool r := by simpa using h3
  obtain ⟨r0, r1, r2, r3⟩ := b1.cells
  simp [results, Try.results32, h2', h3', go_sem, r0, r1, r2, r3]
/-- What operationOf hands back. -/
def opZ : Value := .tuple #[.agg #[.int .i64 0, .int .i64 0, .nilFunc, .nilFunc], .bool false]
def opV (l m : Int) (f g : FuncId) : Value := .tuple #[.agg #[.int .i64 l, .int .i64 m, .func (.func f) #[] #[], .func (.func g) #[] #[]], .bool true]
def opR (o : Int) : Value := if o = 1 then opV 0 0 33 34 else if o = 2 ∨ o = 3 then opV 1 8 35 36
  else if o = 4 then opV 1 1 33 34 else if o = 5 then opV 1 1 35 34 else opZ
set_option maxRecDepth 100000 in
set_option maxHeartbeats 4000000 in
theorem operationOf_any (o : Int) (w : World) : Calls Try.prog 32 #[.int .i64 o] w (Gives (opR o) w) := by
  have T0 := Lib.hid (TB.new w 45 (.int .i64 0) (.int .i64 0) .nilFunc .nilFunc)
  have HB := Lib.hid (below_new w (.cells #[.int .i64 0, .int .i64 0, .nilFunc, .nilFunc] 45))
  obtain ⟨W, hW⟩ : ∃ W, W = w.alloc (.cells #[.int .i64 0, .int .i64 0, .nilFunc, .nilFunc] 45) := ⟨_, rfl⟩
  rw [← hW] at T0 HB
  obtain ⟨t0, t1, t2, t3⟩ := T0.out.cells
  obtain ⟨f0, f1, f2, f3⟩ := T0.out.free
  go_enter Try.func32, Try.ntmps32
  go_upto_region 1 with (fail)
  rw [← hW]
  clear hW
  by_cases h1 : o = 1
  · have e1 : (o == 1) = true := beq_iff_eq.2 h1
    have ER : Hid (opR o = opV 0 0 33 34) := Lib.hid (by unfold opR; rw [if_pos h1])
    go_wp2
    exact bodyPost_ret (op_results _ rfl rfl (T0.out.put4 (.int .i64 0) (.int .i64 0) (.func (.func 33) #[] #[]) (.func (.func 34) #[] #[]))) rfl ⟨by rw [ER.out]; rfl, below_put4 HB.out (Nat.le_refl _) _ _ _ _⟩
  have e1 : (o == 1) = false := beq_eq_false_iff_ne.2 h1
  by_cases h2 : o = 2
  · have e2 : (o == 2) = true := beq_iff_eq.2 h2
    have ER : Hid (opR o = opV 1 8 35 36) := Lib.hid (by unfold opR; rw [if_neg h1, if_pos (Or.inl h2)])
    go_wp2
    exact bodyPost_ret (op_results _ rfl rfl (T0.out.put4 (.int .i64 1) (.int .i64 8) (.func (.func 35) #[] #[]) (.func (.func 36) #[] #[]))) rfl ⟨by rw [ER.out]; rfl, below_put4 HB.out (Nat.le_refl _) _ _ _ _⟩
  have e2 : (o == 2) = false := beq_eq_false_iff_ne.2 h2
  by_cases h3 : o = 3
  · have e3 : (o == 3) = true := beq_iff_eq.2 h3
    have ER : Hid (opR o = opV 1 8 35 36) := Lib.hid (by unfold opR; rw [if_neg h1, if_pos (Or.inr h3)])
    go_wp2
    exact bodyPost_ret (op_results _ rfl rfl (T0.out.put4 (.int .i64 1) (.int .i64 8) (.func (.func 35) #[] #[]) (.func (.func 36) #[] #[]))) rfl ⟨by rw [ER.out]; rfl, below_put4 HB.out (Nat.le_refl _) _ _ _ _⟩
  have e3 : (o == 3) = false := beq_eq_false_iff_ne.2 h3
  have h23 : ¬ (o = 2 ∨ o = 3) := by rintro (g | g) <;> contradiction
  by_cases h4 : o = 4
  · have e4 : (o == 4) = true := beq_iff_eq.2 h4
    have ER : Hid (opR o = opV 1 1 33 34) := Lib.hid (by unfold opR; rw [if_neg h1, if_neg h23, if_pos h4])
    go_wp2
    exact bodyPost_ret (op_results _ rfl rfl (T0.out.put4 (.int .i64 1) (.int .i64 1) (.func (.func 33) #[] #[]) (.func (.func 34) #[] #[]))) rfl ⟨by rw [ER.out]; rfl, below_put4 HB.out (Nat.le_refl _) _ _ _ _⟩
  have e4 : (o == 4) = false := beq_eq_false_iff_ne.2 h4
  by_cases h5 : o = 5
  · have e5 : (o == 5) = true := beq_iff_eq.2 h5
    have ER : Hid (opR o = opV 1 1 35 34) := Lib.hid (by unfold opR; rw [if_neg h1, if_neg h23, if_neg h4, if_pos h5])
    go_wp2
    exact bodyPost_ret (op_results _ rfl rfl (T0.out.put4 (.int .i64 1) (.int .i64 1) (.func (.func 35) #[] #[]) (.func (.func 34) #[] #[]))) rfl ⟨by rw [ER.out]; rfl, below_put4 HB.out (Nat.le_refl _) _ _ _ _⟩
  have e5 : (o == 5) = false := beq_eq_false_iff_ne.2 h5
  have ER : Hid (opR o = opZ) := Lib.hid (by unfold opR; rw [if_neg h1, if_neg h23, if_neg h4, if_neg h5])
  go_wp2
  exact bodyPost_ret (op_results _ rfl rfl (T0.out.put4 (.int .i64 0) (.int .i64 0) .nilFunc .nilFunc)) rfl ⟨by rw [ER.out]; rfl, below_put4 HB.out (Nat.le_refl _) _ _ _ _⟩
end Go.Proofs.Ytpemamkhaiiaaaa
