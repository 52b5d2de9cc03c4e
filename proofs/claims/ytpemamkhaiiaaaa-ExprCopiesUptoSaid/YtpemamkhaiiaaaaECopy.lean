/- Copy, Map: no claim of its own. -/
import Derived.Test.YtpemamkhaiiaaaaEApply
import Derived.Defers
import Derived.Recover
namespace Go.Proofs.Ytpemamkhaiiaaaa
open Go.RowKit
open ME (F Nd)
/-- A function value that keeps no state. -/
def NoI (_ : Unit) (D : Nat → Prop) (_ : World) : Prop := D = fun _ => False
theorem copy1_results {w : World} {R1 : Nat} {z0 z1 z2 z3 z4 z5 z6 z7 z8 : Value} (tmps : Array Value) (h2 : tmps.getD 2 undef = .pointer (some ⟨R1, 0, none⟩)) (b1 : B9 w R1 z0 z1 z2 z3 z4 z5 z6 z7 z8) :
    (results Try.f19 tmps).run Try.prog w = .ok (.agg #[z0, z1, z2, z3, z4, z5, z6, z7, z8]) w := by
  have h2' : tmps[2]?.getD undef = .pointer (some ⟨R1, 0, none⟩) := by simpa using h2
  obtain ⟨r0, r1, r2, r3, r4, r5, r6, r7, r8⟩ := b1.cells
  simp [results, Try.results19, h2', go_sem, r0, r1, r2, r3, r4, r5, r6, r7, r8]
set_option maxRecDepth 100000 in
set_option maxHeartbeats 4000000 in
theorem copy1_acts : Acts 19 #[] NoI (fun n => n) (fun s => s) where
  enters := enters_of Try.func19 (by kernel_rfl) rfl
  lt s D w h k hk := by rw [show D = _ from h] at hk; exact hk.elim
  keep s D w w' h _ _ := h
  call s D w x ok h _ hok := by
    obtain rfl := h
    obtain ⟨o, b, v, A, c, k⟩ := x
    obtain ⟨x0, x1, x2, x3, x4, x5, rfl⟩ := six hok.six
    have HO := Lib.hid hok
    have HB1 := Lib.hid (below_new w (.cells #[.int .i64 o, .int .i64 x0, .int .i64 x1, .int .i64 x2, .int .i64 x3, .int .i64 x4, .int .i64 x5, .int .i64 v, .slice A k.len c] 26))
    have HB := Lib.hid (HB1.out.alloc HB1.out.size (.cells #[.int .i64 0, .int .i64 0, .int .i64 0, .int .i64 0, .int .i64 0, .int .i64 0, .int .i64 0, .int .i64 0, .slice none 0 0] 26))
    have hs1 : (w.alloc (.cells #[.int .i64 o, .int .i64 x0, .int .i64 x1, .int .i64 x2, .int .i64 x3, .int .i64 x4, .int .i64 x5, .int .i64 v, .slice A k.len c] 26)).heap.size = w.heap.size + 1 := by simp
    have X0 : Hid (B9 ((w.alloc (.cells #[.int .i64 o, .int .i64 x0, .int .i64 x1, .int .i64 x2, .int .i64 x3, .int .i64 x4, .int .i64 x5, .int .i64 v, .slice A k.len c] 26)).alloc (.cells #[.int .i64 0, .int .i64 0, .int .i64 0, .int .i64 0, .int .i64 0, .int .i64 0, .int .i64 0, .int .i64 0, .slice none 0 0] 26)) w.heap.size (.int .i64 o) (.int .i64 x0) (.int .i64 x1) (.int .i64 x2) (.int .i64 x3) (.int .i64 x4) (.int .i64 x5) (.int .i64 v) (.slice A k.len c)) := Lib.hid ((Below.heap_alloc _ _ _ (by rw [hs1]; omega)).trans (heap_new _ _))
    have R0 : Hid (B9 ((w.alloc (.cells #[.int .i64 o, .int .i64 x0, .int .i64 x1, .int .i64 x2, .int .i64 x3, .int .i64 x4, .int .i64 x5, .int .i64 v, .slice A k.len c] 26)).alloc (.cells #[.int .i64 0, .int .i64 0, .int .i64 0, .int .i64 0, .int .i64 0, .int .i64 0, .int .i64 0, .int .i64 0, .slice none 0 0] 26)) (w.heap.size + 1) (.int .i64 0) (.int .i64 0) (.int .i64 0) (.int .i64 0) (.int .i64 0) (.int .i64 0) (.int .i64 0) (.int .i64 0) (.slice none 0 0)) := Lib.hid (by have := heap_new (w.alloc (.cells #[.int .i64 o, .int .i64 x0, .int .i64 x1, .int .i64 x2, .int .i64 x3, .int .i64 x4, .int .i64 x5, .int .i64 v, .slice A k.len c] 26)) (.cells #[.int .i64 0, .int .i64 0, .int .i64 0, .int .i64 0, .int .i64 0, .int .i64 0, .int .i64 0, .int .i64 0, .slice none 0 0] 26); rwa [hs1] at this)
    rw [NT.val_lit]
    clear hok hs1
    show Calls _ _ #[_] _ _
    obtain ⟨W0, hW0⟩ : ∃ W0, W0 = (w.alloc (.cells #[.int .i64 o, .int .i64 x0, .int .i64 x1, .int .i64 x2, .int .i64 x3, .int .i64 x4, .int .i64 x5, .int .i64 v, .slice A k.len c] 26)).alloc (.cells #[.int .i64 0, .int .i64 0, .int .i64 0, .int .i64 0, .int .i64 0, .int .i64 0, .int .i64 0, .int .i64 0, .slice none 0 0] 26) := ⟨_, rfl⟩
    rw [← hW0] at HB X0 R0
    go_enter Try.func19, Try.ntmps19
    go_upto_region 1 with (fail)
    rw [← hW0]
    clear hW0 HB1
    obtain ⟨a0, a1, a2, a3, a4, a5, a6, a7, a8⟩ := X0.out.cells
    obtain ⟨r0, r1, r2, r3, r4, r5, r6, r7, r8⟩ := R0.out.cells
    obtain ⟨f0, f1, f2, f3, f4, f5, f6, f7, f8⟩ := R0.out.free
    go_wp2
    refine bodyPost_ret (copy1_results _ rfl (by rw [nest_0]; exact R0.out.put _ _ _ _ _ _ _ _ _)) rfl ?_
    rw [nest_0]
    obtain ⟨e1, e2, e3, e4⟩ := sets_same (g := w.heap.size + 1) [.int .i64 o, .int .i64 x0, .int .i64 x1, .int .i64 x2, .int .i64 x3, .int .i64 x4, .int .i64 x5, .int .i64 v, .slice A k.len c] W0 0
    have far : ∀ j, j < w.heap.size → (sets W0 (w.heap.size + 1) 0 [.int .i64 o, .int .i64 x0, .int .i64 x1, .int .i64 x2, .int .i64 x3, .int .i64 x4, .int .i64 x5, .int .i64 v, .slice A k.len c]).heap[j]? = w.heap[j]? := fun j hj => (sets_far (by omega) _ _ _).trans (HB.out.block j hj)
    have QO := HO.out.keep (w' := sets W0 (w.heap.size + 1) 0 [.int .i64 o, .int .i64 x0, .int .i64 x1, .int .i64 x2, .int .i64 x3, .int .i64 x4, .int .i64 x5, .int .i64 v, .slice A k.len c]) (ok' := ok) (fun j _ hj => far j hj) (by rw [e4]; exact HB.out.size) (fun _ h _ => h)
    have QV : VI NoI (fun _ => False) w s (fun _ => False) (sets W0 (w.heap.size + 1) 0 [.int .i64 o, .int .i64 x0, .int .i64 x1, .int .i64 x2, .int .i64 x3, .int .i64 x4, .int .i64 x5, .int .i64 v, .slice A k.len c]) := ⟨rfl, ⟨e1.trans HB.out.os, e2.trans HB.out.tape, e3.trans HB.out.output, by rw [e4]; exact HB.out.size, fun j hj _ => far j hj⟩, fun _ h => .inl h⟩
    exact ⟨⟨o, [x0, x1, x2, x3, x4, x5], v, A, c, k⟩, rfl, rfl, QO, fun h => h, _, QV⟩
/-- What a call hands back: an expression in new memory. -/
def GivesX (w : World) (z : Nd) (e : Ending) (w' : World) : Prop := ∃ y : NT, e = .returned y.val ∧ y.n = z ∧ y.Rk w' (fun k => w.heap.size ≤ k) ∧ y.Al ∧ Below w.heap.size w w'
theorem below_of_no {w w' : World} {D : Nat → Prop} (h : Kx D w w') (hD : ∀ k, ¬ D k) : Below w.heap.size w w' := ⟨h.os, h.tape, h.output, h.size, fun k hk => h.block k hk (hD k)⟩
theorem copy_results {w : World} {R1 : Nat} {z0 z1 z2 z3 z4 z5 z6 z7 z8 : Value} (tmps : Array Value) (h2 : tmps.getD 2 undef = .pointer (some ⟨R1, 0, none⟩)) (b1 : B9 w R1 z0 z1 z2 z3 z4 z5 z6 z7 z8) :
    (results Try.f6 tmps).run Try.prog w = .ok (.agg #[z0, z1, z2, z3, z4, z5, z6, z7, z8]) w := by
  have h2' : tmps[2]?.getD undef = .pointer (some ⟨R1, 0, none⟩) := by simpa using h2
  obtain ⟨r0, r1, r2, r3, r4, r5, r6, r7, r8⟩ := b1.cells
  simp [results, Try.results6, h2', go_sem, r0, r1, r2, r3, r4, r5, r6, r7, r8]
set_option maxRecDepth 100000 in
set_option maxHeartbeats 4000000 in
theorem copy_any (x : NT) (hx : x.size ≤ 2000000) (w : World) (ok : Nat → Prop) (hok : x.Ok w ok) : Calls Try.prog 6 #[x.val] w (GivesX w x.n) := by
  have hid : x.n = ME.Nd.map (fun n => n) x.n := (ME.Nd.map_id x.n).symm
  rw [hid]
  obtain ⟨o, b, v, A, c, k⟩ := x
  obtain ⟨x0, x1, x2, x3, x4, x5, rfl⟩ := six hok.six
  have HB1 := Lib.hid (below_new w (.cells #[.int .i64 o, .int .i64 x0, .int .i64 x1, .int .i64 x2, .int .i64 x3, .int .i64 x4, .int .i64 x5, .int .i64 v, .slice A k.len c] 26))
  have HB := Lib.hid (HB1.out.alloc HB1.out.size (.cells #[.int .i64 0, .int .i64 0, .int .i64 0, .int .i64 0, .int .i64 0, .int .i64 0, .int .i64 0, .int .i64 0, .slice none 0 0] 26))
  have hs1 : (w.alloc (.cells #[.int .i64 o, .int .i64 x0, .int .i64 x1, .int .i64 x2, .int .i64 x3, .int .i64 x4, .int .i64 x5, .int .i64 v, .slice A k.len c] 26)).heap.size = w.heap.size + 1 := by simp
  have X0 : Hid (B9 ((w.alloc (.cells #[.int .i64 o, .int .i64 x0, .int .i64 x1, .int .i64 x2, .int .i64 x3, .int .i64 x4, .int .i64 x5, .int .i64 v, .slice A k.len c] 26)).alloc (.cells #[.int .i64 0, .int .i64 0, .int .i64 0, .int .i64 0, .int .i64 0, .int .i64 0, .int .i64 0, .int .i64 0, .slice none 0 0] 26)) w.heap.size (.int .i64 o) (.int .i64 x0) (.int .i64 x1) (.int .i64 x2) (.int .i64 x3) (.int .i64 x4) (.int .i64 x5) (.int .i64 v) (.slice A k.len c)) := Lib.hid ((Below.heap_alloc _ _ _ (by rw [hs1]; omega)).trans (heap_new _ _))
  have R0 : Hid (B9 ((w.alloc (.cells #[.int .i64 o, .int .i64 x0, .int .i64 x1, .int .i64 x2, .int .i64 x3, .int .i64 x4, .int .i64 x5, .int .i64 v, .slice A k.len c] 26)).alloc (.cells #[.int .i64 0, .int .i64 0, .int .i64 0, .int .i64 0, .int .i64 0, .int .i64 0, .int .i64 0, .int .i64 0, .slice none 0 0] 26)) (w.heap.size + 1) (.int .i64 0) (.int .i64 0) (.int .i64 0) (.int .i64 0) (.int .i64 0) (.int .i64 0) (.int .i64 0) (.int .i64 0) (.slice none 0 0)) := Lib.hid (by have := heap_new (w.alloc (.cells #[.int .i64 o, .int .i64 x0, .int .i64 x1, .int .i64 x2, .int .i64 x3, .int .i64 x4, .int .i64 x5, .int .i64 v, .slice A k.len c] 26)) (.cells #[.int .i64 0, .int .i64 0, .int .i64 0, .int .i64 0, .int .i64 0, .int .i64 0, .int .i64 0, .int .i64 0, .slice none 0 0] 26); rwa [hs1] at this)
  have hs2 : ((w.alloc (.cells #[.int .i64 o, .int .i64 x0, .int .i64 x1, .int .i64 x2, .int .i64 x3, .int .i64 x4, .int .i64 x5, .int .i64 v, .slice A k.len c] 26)).alloc (.cells #[.int .i64 0, .int .i64 0, .int .i64 0, .int .i64 0, .int .i64 0, .int .i64 0, .int .i64 0, .int .i64 0, .slice none 0 0] 26)).heap.size = w.heap.size + 2 := by simp
  have CE := Lib.hid (apply_any copy1_acts _ hx _ (Nat.le_refl _) () (fun _ => False) _ rfl (hok.keep (fun j _ hj => HB.out.block j hj) HB.out.size (fun _ _ _ h => h)))
  rw [NT.val_lit] at CE
  rw [NT.val_lit]
  clear hok hs1 hid hx
  obtain ⟨W0, hW0⟩ : ∃ W0, W0 = (w.alloc (.cells #[.int .i64 o, .int .i64 x0, .int .i64 x1, .int .i64 x2, .int .i64 x3, .int .i64 x4, .int .i64 x5, .int .i64 v, .slice A k.len c] 26)).alloc (.cells #[.int .i64 0, .int .i64 0, .int .i64 0, .int .i64 0, .int .i64 0, .int .i64 0, .int .i64 0, .int .i64 0, .slice none 0 0] 26) := ⟨_, rfl⟩
  rw [← hW0] at HB X0 R0 CE hs2
  generalize ME.Nd.map (fun n => n) (NT.n ⟨o, [x0, x1, x2, x3, x4, x5], v, A, c, k⟩) = Z at *
  go_enter Try.func6, Try.ntmps6
  go_upto_region 1 with (fail)
  rw [← hW0]
  clear hW0 HB1
  obtain ⟨a0, a1, a2, a3, a4, a5, a6, a7, a8⟩ := X0.out.cells
  go_wp2_with fail
  refine CE.out.mono ?_
  rintro ev w3 ⟨y, D2, rfl, hyn, hyo, hya, hv⟩
  obtain ⟨oy, byy, vy, Ay, cy, ky⟩ := y
  obtain ⟨q0, q1, q2, q3, q4, q5, rfl⟩ := six hyo.six
  obtain rfl : D2 = _ := hv.inv
  have B3 := Lib.hid (below_of_no hv.kx (fun _ h => h))
  have R3 := Lib.hid (R0.out.keep B3.out)
  obtain ⟨r0, r1, r2, r3, r4, r5, r6, r7, r8⟩ := R3.out.cells
  obtain ⟨f0, f1, f2, f3, f4, f5, f6, f7, f8⟩ := R3.out.free
  have HYN := Lib.hid hyn
  have HYO := Lib.hid hyo
  have HYA := Lib.hid hya
  clear hyn hyo hya hv CE R0 X0 a0 a1 a2 a3 a4 a5 a6 a7 a8
  rw [NT.val_lit]
  go_wp2
  refine bodyPost_ret (copy_results _ rfl (by rw [nest_0]; exact R3.out.put _ _ _ _ _ _ _ _ _)) rfl ?_
  rw [nest_0]
  obtain ⟨e1, e2, e3, e4⟩ := sets_same (g := w.heap.size + 1) [.int .i64 oy, .int .i64 q0, .int .i64 q1, .int .i64 q2, .int .i64 q3, .int .i64 q4, .int .i64 q5, .int .i64 vy, .slice Ay ky.len cy] w3 0
  refine ⟨_, rfl, HYN.out, HYO.out.keep (fun j hj _ => sets_far (by have := hj.1; omega) _ _ _) (by rw [e4]; exact Nat.le_refl _) (fun j hj _ => by have := hj.1; omega), HYA.out, ⟨e1.trans (B3.out.os.trans HB.out.os), e2.trans (B3.out.tape.trans HB.out.tape), e3.trans (B3.out.output.trans HB.out.output), by rw [e4]; exact Nat.le_trans HB.out.size B3.out.size, fun j hj => ?_⟩⟩
  rw [sets_far (by omega), B3.out.block j (by omega), HB.out.block j hj]
theorem map1_idle (w : World) : CallsD Try.prog 23 #[] .returning w fun e u' w' => e = .returned (.tuple #[]) ∧ u' = .returning ∧ w' = w := by
  refine callsD_of_wpS Try.func23 rfl fun c₀ cs hu => ?_
  apply wpS_region
  cases c₀
  simp_all [wpOpsS, go_sem, recoverD, Try.ntmps23, bodyPostS, results, Try.results23]
theorem map_results {w : World} {R1 : Nat} {z0 z1 z2 z3 z4 z5 z6 z7 z8 : Value} (tmps : Array Value) (h2 : tmps.getD 4 undef = .pointer (some ⟨R1, 0, none⟩)) (b1 : B9 w R1 z0 z1 z2 z3 z4 z5 z6 z7 z8) :
    (results Try.f11 tmps).run Try.prog w = .ok (.agg #[z0, z1, z2, z3, z4, z5, z6, z7, z8]) w := by
  have h2' : tmps[4]?.getD undef = .pointer (some ⟨R1, 0, none⟩) := by simpa using h2
  obtain ⟨r0, r1, r2, r3, r4, r5, r6, r7, r8⟩ := b1.cells
  simp [results, Try.results11, h2', go_sem, r0, r1, r2, r3, r4, r5, r6, r7, r8]
set_option maxRecDepth 100000 in
set_option maxHeartbeats 4000000 in
theorem map_nil (x : NT) (hx : x.size ≤ 2000000) (w : World) (ok : Nat → Prop) (hok : x.Ok w ok) : Calls Try.prog 11 #[x.val, .nilFunc] w (GivesX w x.n) := by
  obtain ⟨o, b, v, A, c, k⟩ := x
  obtain ⟨x0, x1, x2, x3, x4, x5, rfl⟩ := six hok.six
  have HB1 := Lib.hid (below_new w (.cells #[.int .i64 o, .int .i64 x0, .int .i64 x1, .int .i64 x2, .int .i64 x3, .int .i64 x4, .int .i64 x5, .int .i64 v, .slice A k.len c] 26))
  have HB := Lib.hid (HB1.out.alloc HB1.out.size (.cells #[.int .i64 0, .int .i64 0, .int .i64 0, .int .i64 0, .int .i64 0, .int .i64 0, .int .i64 0, .int .i64 0, .slice none 0 0] 26))
  have hs1 : (w.alloc (.cells #[.int .i64 o, .int .i64 x0, .int .i64 x1, .int .i64 x2, .int .i64 x3, .int .i64 x4, .int .i64 x5, .int .i64 v, .slice A k.len c] 26)).heap.size = w.heap.size + 1 := by simp
  have X0 : Hid (B9 ((w.alloc (.cells #[.int .i64 o, .int .i64 x0, .int .i64 x1, .int .i64 x2, .int .i64 x3, .int .i64 x4, .int .i64 x5, .int .i64 v, .slice A k.len c] 26)).alloc (.cells #[.int .i64 0, .int .i64 0, .int .i64 0, .int .i64 0, .int .i64 0, .int .i64 0, .int .i64 0, .int .i64 0, .slice none 0 0] 26)) w.heap.size (.int .i64 o) (.int .i64 x0) (.int .i64 x1) (.int .i64 x2) (.int .i64 x3) (.int .i64 x4) (.int .i64 x5) (.int .i64 v) (.slice A k.len c)) := Lib.hid ((Below.heap_alloc _ _ _ (by rw [hs1]; omega)).trans (heap_new _ _))
  have R0 : Hid (B9 ((w.alloc (.cells #[.int .i64 o, .int .i64 x0, .int .i64 x1, .int .i64 x2, .int .i64 x3, .int .i64 x4, .int .i64 x5, .int .i64 v, .slice A k.len c] 26)).alloc (.cells #[.int .i64 0, .int .i64 0, .int .i64 0, .int .i64 0, .int .i64 0, .int .i64 0, .int .i64 0, .int .i64 0, .slice none 0 0] 26)) (w.heap.size + 1) (.int .i64 0) (.int .i64 0) (.int .i64 0) (.int .i64 0) (.int .i64 0) (.int .i64 0) (.int .i64 0) (.int .i64 0) (.slice none 0 0)) := Lib.hid (by have := heap_new (w.alloc (.cells #[.int .i64 o, .int .i64 x0, .int .i64 x1, .int .i64 x2, .int .i64 x3, .int .i64 x4, .int .i64 x5, .int .i64 v, .slice A k.len c] 26)) (.cells #[.int .i64 0, .int .i64 0, .int .i64 0, .int .i64 0, .int .i64 0, .int .i64 0, .int .i64 0, .int .i64 0, .slice none 0 0] 26); rwa [hs1] at this)
  have hs2 : ((w.alloc (.cells #[.int .i64 o, .int .i64 x0, .int .i64 x1, .int .i64 x2, .int .i64 x3, .int .i64 x4, .int .i64 x5, .int .i64 v, .slice A k.len c] 26)).alloc (.cells #[.int .i64 0, .int .i64 0, .int .i64 0, .int .i64 0, .int .i64 0, .int .i64 0, .int .i64 0, .int .i64 0, .slice none 0 0] 26)).heap.size = w.heap.size + 2 := by simp
  have CE := Lib.hid (copy_any _ hx _ _ (hok.below HB.out))
  rw [NT.val_lit] at CE
  rw [NT.val_lit]
  clear hok hs1 hx
  obtain ⟨W0, hW0⟩ : ∃ W0, W0 = (w.alloc (.cells #[.int .i64 o, .int .i64 x0, .int .i64 x1, .int .i64 x2, .int .i64 x3, .int .i64 x4, .int .i64 x5, .int .i64 v, .slice A k.len c] 26)).alloc (.cells #[.int .i64 0, .int .i64 0, .int .i64 0, .int .i64 0, .int .i64 0, .int .i64 0, .int .i64 0, .int .i64 0, .slice none 0 0] 26) := ⟨_, rfl⟩
  rw [← hW0] at HB X0 R0 CE hs2
  generalize NT.n ⟨o, [x0, x1, x2, x3, x4, x5], v, A, c, k⟩ = Z at *
  have he : ∀ w, (binOp BinOp.eql 29 Value.nilFunc Value.nilFunc).run Try.prog w = .ok (.bool true) w := fun _ => rfl
  go_enter_defers Try.func11, Try.ntmps11
  go_upto_region 1 with (fail)
  rw [← hW0]
  clear hW0 HB1
  obtain ⟨a0, a1, a2, a3, a4, a5, a6, a7, a8⟩ := X0.out.cells
  go_wp2_with fail
  refine CE.out.mono ?_
  rintro ev w3 ⟨y, rfl, hyn, hyo, hya, hv⟩
  obtain ⟨oy, byy, vy, Ay, cy, ky⟩ := y
  obtain ⟨q0, q1, q2, q3, q4, q5, rfl⟩ := six hyo.six
  have B3 := Lib.hid hv
  have R3 := Lib.hid (R0.out.keep B3.out)
  obtain ⟨r0, r1, r2, r3, r4, r5, r6, r7, r8⟩ := R3.out.cells
  obtain ⟨f0, f1, f2, f3, f4, f5, f6, f7, f8⟩ := R3.out.free
  have HYN := Lib.hid hyn
  have HYO := Lib.hid hyo
  have HYA := Lib.hid hya
  clear hyn hyo hya hv CE R0 X0 a0 a1 a2 a3 a4 a5 a6 a7 a8
  rw [NT.val_lit]
  go_wp2
  refine ⟨_, map_results _ rfl (by rw [nest_0]; exact R3.out.put _ _ _ _ _ _ _ _ _), ?_⟩
  rw [nest_0]
  obtain ⟨e1, e2, e3, e4⟩ := sets_same (g := w.heap.size + 1) [.int .i64 oy, .int .i64 q0, .int .i64 q1, .int .i64 q2, .int .i64 q3, .int .i64 q4, .int .i64 q5, .int .i64 vy, .slice Ay ky.len cy] w3 0
  refine ⟨_, rfl, HYN.out, HYO.out.keep (fun j hj _ => sets_far (by have := hj; omega) _ _ _) (by rw [e4]; exact Nat.le_refl _) (fun j hj _ => by omega), HYA.out, ⟨e1.trans (B3.out.os.trans HB.out.os), e2.trans (B3.out.tape.trans HB.out.tape), e3.trans (B3.out.output.trans HB.out.output), by rw [e4]; exact Nat.le_trans HB.out.size B3.out.size, fun j hj => ?_⟩⟩
  rw [sets_far (by omega), B3.out.block j (by omega), HB.out.block j hj]
set_option maxRecDepth 100000 in
set_option maxHeartbeats 4000000 in
theorem map_any {σ : Type} {F : FuncId} {lb : Array Value} {I : σ → (Nat → Prop) → World → Prop} {g : Nd → Nd} {nx : σ → σ} (hA : Acts F lb I g nx) (x : NT) (hx : x.size ≤ 2000000) (hm : (x.n.map g).size ≤ 2000000) (s : σ) (D : Nat → Prop) (w : World) (hi : I s D w) (hok : x.Ok w (fun k => ¬ D k)) :
    Calls Try.prog 11 #[x.val, .func (.func F) #[] lb] w (App I D w (x.n.map g) (itr nx x.size s)) := by
  have hlow := Lib.hid (hA.lt _ _ _ hi)
  have HA := Lib.hid hA
  obtain ⟨o, b, v, A, c, k⟩ := x
  obtain ⟨x0, x1, x2, x3, x4, x5, rfl⟩ := six hok.six
  have HB1 := Lib.hid (below_new w (.cells #[.int .i64 o, .int .i64 x0, .int .i64 x1, .int .i64 x2, .int .i64 x3, .int .i64 x4, .int .i64 x5, .int .i64 v, .slice A k.len c] 26))
  have HB := Lib.hid (HB1.out.alloc HB1.out.size (.cells #[.int .i64 0, .int .i64 0, .int .i64 0, .int .i64 0, .int .i64 0, .int .i64 0, .int .i64 0, .int .i64 0, .slice none 0 0] 26))
  have hs1 : (w.alloc (.cells #[.int .i64 o, .int .i64 x0, .int .i64 x1, .int .i64 x2, .int .i64 x3, .int .i64 x4, .int .i64 x5, .int .i64 v, .slice A k.len c] 26)).heap.size = w.heap.size + 1 := by simp
  have X0 : Hid (B9 ((w.alloc (.cells #[.int .i64 o, .int .i64 x0, .int .i64 x1, .int .i64 x2, .int .i64 x3, .int .i64 x4, .int .i64 x5, .int .i64 v, .slice A k.len c] 26)).alloc (.cells #[.int .i64 0, .int .i64 0, .int .i64 0, .int .i64 0, .int .i64 0, .int .i64 0, .int .i64 0, .int .i64 0, .slice none 0 0] 26)) w.heap.size (.int .i64 o) (.int .i64 x0) (.int .i64 x1) (.int .i64 x2) (.int .i64 x3) (.int .i64 x4) (.int .i64 x5) (.int .i64 v) (.slice A k.len c)) := Lib.hid ((Below.heap_alloc _ _ _ (by rw [hs1]; omega)).trans (heap_new _ _))
  have R0 : Hid (B9 ((w.alloc (.cells #[.int .i64 o, .int .i64 x0, .int .i64 x1, .int .i64 x2, .int .i64 x3, .int .i64 x4, .int .i64 x5, .int .i64 v, .slice A k.len c] 26)).alloc (.cells #[.int .i64 0, .int .i64 0, .int .i64 0, .int .i64 0, .int .i64 0, .int .i64 0, .int .i64 0, .int .i64 0, .slice none 0 0] 26)) (w.heap.size + 1) (.int .i64 0) (.int .i64 0) (.int .i64 0) (.int .i64 0) (.int .i64 0) (.int .i64 0) (.int .i64 0) (.int .i64 0) (.slice none 0 0)) := Lib.hid (by have := heap_new (w.alloc (.cells #[.int .i64 o, .int .i64 x0, .int .i64 x1, .int .i64 x2, .int .i64 x3, .int .i64 x4, .int .i64 x5, .int .i64 v, .slice A k.len c] 26)) (.cells #[.int .i64 0, .int .i64 0, .int .i64 0, .int .i64 0, .int .i64 0, .int .i64 0, .int .i64 0, .int .i64 0, .slice none 0 0] 26); rwa [hs1] at this)
  have hs2 : ((w.alloc (.cells #[.int .i64 o, .int .i64 x0, .int .i64 x1, .int .i64 x2, .int .i64 x3, .int .i64 x4, .int .i64 x5, .int .i64 v, .slice A k.len c] 26)).alloc (.cells #[.int .i64 0, .int .i64 0, .int .i64 0, .int .i64 0, .int .i64 0, .int .i64 0, .int .i64 0, .int .i64 0, .slice none 0 0] 26)).heap.size = w.heap.size + 2 := by simp
  have CE := Lib.hid (apply_any hA _ hx _ (Nat.le_refl _) s D _ (hA.keep _ _ _ _ hi (fun j hj => HB.out.block j (hlow.out j hj)) HB.out.size) (hok.below HB.out))
  have CC := Lib.hid copy_any
  rw [NT.val_lit] at CE
  rw [NT.val_lit]
  clear hok hs1 hx hA hi
  obtain ⟨W0, hW0⟩ : ∃ W0, W0 = (w.alloc (.cells #[.int .i64 o, .int .i64 x0, .int .i64 x1, .int .i64 x2, .int .i64 x3, .int .i64 x4, .int .i64 x5, .int .i64 v, .slice A k.len c] 26)).alloc (.cells #[.int .i64 0, .int .i64 0, .int .i64 0, .int .i64 0, .int .i64 0, .int .i64 0, .int .i64 0, .int .i64 0, .slice none 0 0] 26) := ⟨_, rfl⟩
  rw [← hW0] at HB X0 R0 CE hs2
  generalize ME.Nd.map g (NT.n ⟨o, [x0, x1, x2, x3, x4, x5], v, A, c, k⟩) = Z at *
  generalize itr nx (NT.size ⟨o, [x0, x1, x2, x3, x4, x5], v, A, c, k⟩) s = s9 at *
  have he : ∀ w, (binOp BinOp.eql 29 (Value.func (.func F) #[] lb) Value.nilFunc).run Try.prog w = .ok (.bool false) w := fun _ => rfl
  go_enter_defers Try.func11, Try.ntmps11
  go_upto_region 1 with (fail)
  rw [← hW0]
  clear hW0 HB1
  obtain ⟨a0, a1, a2, a3, a4, a5, a6, a7, a8⟩ := X0.out.cells
  go_wp2_with fail
  refine CE.out.mono ?_
  rintro ev w2 ⟨y1, D1, rfl, hyn, hyo, _, hv⟩
  have hsz1 : y1.size ≤ 2000000 := by rw [← NT.size_n, hyn]; exact hm
  have CC2 := Lib.hid (CC.out y1 hsz1 w2 _ hyo)
  rw [hyn] at CC2
  obtain ⟨oy, byy, vy, Ay, cy, ky⟩ := y1
  obtain ⟨q0, q1, q2, q3, q4, q5, rfl⟩ := six hyo.six
  have V2 := Lib.hid hv
  rw [NT.val_lit] at CC2 ⊢
  clear hyn hyo hv hsz1 CE CC X0 a0 a1 a2 a3 a4 a5 a6 a7 a8
  go_wp2_with fail
  refine CC2.out.mono ?_
  rintro ev w3 ⟨y, rfl, hyn, hyo, hya, hb⟩
  obtain ⟨oz, bz, vz, Az, cz, kz⟩ := y
  obtain ⟨p0, p1, p2, p3, p4, p5, rfl⟩ := six hyo.six
  have hd1 : ¬ D1 (w.heap.size + 1) := fun q => (V2.out.sub _ q).elim (fun q => by have := hlow.out _ q; omega) (fun q => by omega)
  have R3 := Lib.hid ((R0.out.same (V2.out.kx.block _ R0.out.lt (fun q => by have := hlow.out _ q; omega))).keep hb)
  obtain ⟨r0, r1, r2, r3, r4, r5, r6, r7, r8⟩ := R3.out.cells
  obtain ⟨f0, f1, f2, f3, f4, f5, f6, f7, f8⟩ := R3.out.free
  have HYN := Lib.hid hyn
  have HYO := Lib.hid hyo
  have HYA := Lib.hid hya
  have B3 := Lib.hid hb
  clear hyn hyo hya hb CC2 R0
  rw [NT.val_lit]
  go_wp2
  refine leaves_cons (f := 23) (args := #[]) (by simp) (by simp [go_sem]) ?_
  refine (map1_idle _).mono ?_
  rintro e u' w'' ⟨rfl, rfl, rfl⟩
  refine ⟨_, map_results _ rfl (by rw [nest_0]; exact R3.out.put _ _ _ _ _ _ _ _ _), ?_⟩
  rw [nest_0]
  obtain ⟨e1, e2, e3, e4⟩ := sets_same (g := w.heap.size + 1) [.int .i64 oz, .int .i64 p0, .int .i64 p1, .int .i64 p2, .int .i64 p3, .int .i64 p4, .int .i64 p5, .int .i64 vz, .slice Az kz.len cz] w3 0
  have fr : ∀ j, j ≠ w.heap.size + 1 → (sets w3 (w.heap.size + 1) 0 [.int .i64 oz, .int .i64 p0, .int .i64 p1, .int .i64 p2, .int .i64 p3, .int .i64 p4, .int .i64 p5, .int .i64 vz, .slice Az kz.len cz]).heap[j]? = w3.heap[j]? := fun j hj => sets_far hj _ _ _
  have h2 : W0.heap.size ≤ w2.heap.size := V2.out.kx.size
  refine ⟨_, D1, rfl, HYN.out, HYO.out.keep (fun j hj _ => fr j (by omega)) (by rw [e4]; exact Nat.le_refl _) (fun j hj _ => ⟨by omega, fun q => by have := HA.out.lt _ _ _ V2.out.inv j q; omega⟩), HYA.out, ?_, ?_, ?_⟩
  · exact HA.out.keep _ _ _ _ V2.out.inv (fun j hj => (fr j (fun q => hd1 (by rw [← q]; exact hj))).trans (B3.out.block j (HA.out.lt _ _ _ V2.out.inv j hj))) (by rw [e4]; exact B3.out.size)
  · exact ⟨e1.trans (B3.out.os.trans (V2.out.kx.os.trans HB.out.os)), e2.trans (B3.out.tape.trans (V2.out.kx.tape.trans HB.out.tape)), e3.trans (B3.out.output.trans (V2.out.kx.output.trans HB.out.output)), by rw [e4]; exact Nat.le_trans HB.out.size (Nat.le_trans V2.out.kx.size B3.out.size), fun j hj hd => by
      rw [fr j (by omega), B3.out.block j (by omega), V2.out.kx.block j (by omega) hd, HB.out.block j hj]⟩
  · exact fun j hj => (V2.out.sub j hj).imp (fun q => q) (fun q => by omega)
end Go.Proofs.Ytpemamkhaiiaaaa
