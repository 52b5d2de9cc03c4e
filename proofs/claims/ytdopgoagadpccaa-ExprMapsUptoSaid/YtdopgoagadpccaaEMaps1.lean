/- The law's function value, which counts and changes: no claim of its own. -/
import Derived.Test.YtdopgoagadpccaaEChange
import Derived.Test.YtdopgoagadpccaaEProd
namespace Go.Proofs.Ytdopgoagadpccaa
open Go.RowKit
open ME (F Nd)
/-- The counter and the captured number. -/
structure InM (g1 gk : Nat) (d : Int) (s : Int) (D : Nat → Prop) (w : World) : Prop where
  eq : D = fun k => k = g1 ∨ k = gk
  ne : gk ≠ g1
  cnt : V1 w g1 3 (.int .i64 s)
  num : V1 w gk 2 (.int .i64 d)
def nxM (s : Int) : Int := wrap64 (s + 1)
theorem nxM_small {a : Int} (h0 : 0 ≤ a) (h : a ≤ 2000000) : nxM a = a + 1 := by unfold nxM wrap64; omega
theorem itr_nxM (n : Nat) : ∀ (a : Int), 0 ≤ a → a + (n : Int) ≤ 2000000 → itr nxM n a = a + (n : Int) := by
  induction n with
  | zero => intro a _ _; unfold itr; omega
  | succ n ih =>
    intro a h0 h
    unfold itr
    rw [nxM_small h0 (by omega), ih (a + 1) (by omega) (by omega)]
    omega
theorem Kx.then {D : Nat → Prop} {w w1 w2 : World} (h : Kx D w w1) (hb : Below w1.heap.size w1 w2) : Kx D w w2 :=
  ⟨hb.os.trans h.os, hb.tape.trans h.tape, hb.output.trans h.output, Nat.le_trans h.size hb.size, fun k hk hd => (hb.block k (Nat.lt_of_lt_of_le hk h.size)).trans (h.block k hk hd)⟩
theorem Kx.sets {D : Nat → Prop} {w w1 : World} (h : Kx D w w1) {g o : Nat} {l : List Value} (hg : w.heap.size ≤ g) : Kx D w (sets w1 g o l) := by
  obtain ⟨e1, e2, e3, e4⟩ := sets_same (g := g) l w1 o
  exact ⟨e1.trans h.os, e2.trans h.tape, e3.trans h.output, by rw [e4]; exact h.size, fun j hj hd => (sets_far (by omega) _ _ _).trans (h.block j hj hd)⟩
theorem maps1_results {w : World} {R1 : Nat} {z0 z1 z2 z3 z4 z5 z6 z7 z8 : Value} (tmps : Array Value) (h2 : tmps.getD 4 undef = .pointer (some ⟨R1, 0, none⟩)) (b1 : B9 w R1 z0 z1 z2 z3 z4 z5 z6 z7 z8) :
    (results Try.f28 tmps).run Try.prog w = .ok (.agg #[z0, z1, z2, z3, z4, z5, z6, z7, z8]) w := by
  have h2' : tmps[4]?.getD undef = .pointer (some ⟨R1, 0, none⟩) := by simpa using h2
  obtain ⟨r0, r1, r2, r3, r4, r5, r6, r7, r8⟩ := b1.cells
  simp [results, Try.results28, h2', go_sem, r0, r1, r2, r3, r4, r5, r6, r7, r8]
set_option maxRecDepth 100000 in
set_option maxHeartbeats 8000000 in
theorem maps1_acts (g1 gk : Nat) (d : Int) : Acts 28 #[.pointer (some ⟨g1, 0, none⟩), .pointer (some ⟨gk, 0, none⟩)] (InM g1 gk d) (ME.changeN d) nxM where
  enters := enters_of Try.func28 (by kernel_rfl) rfl
  lt s D w h k hk := by
    rw [h.eq] at hk
    rcases hk with e | e
    · rw [e]; exact h.cnt.lt
    · rw [e]; exact h.num.lt
  keep s D w w' h hb _ := ⟨h.eq, h.ne, (hb g1 (by rw [h.eq]; exact .inl rfl)).trans h.cnt, (hb gk (by rw [h.eq]; exact .inr rfl)).trans h.num⟩
  call s D w x ok h hd hok := by
    obtain ⟨rfl, hne, h1, h2⟩ := h
    have HOK := Lib.hid (hok.keep (w' := w) (ok' := fun j => (ok j ∧ j < w.heap.size) ∧ j ≠ g1) (fun _ _ _ => rfl) (Nat.le_refl _) (fun j q hk => ⟨⟨q, hk⟩, fun e => hd j q (.inl e)⟩))
    obtain ⟨o, b, v, A, c, k⟩ := x
    obtain ⟨x0, x1, x2, x3, x4, x5, rfl⟩ := six hok.six
    have hl1 := h1.lt
    have hl2 := h2.lt
    have hs1 : (w.alloc (.cells #[.int .i64 o, .int .i64 x0, .int .i64 x1, .int .i64 x2, .int .i64 x3, .int .i64 x4, .int .i64 x5, .int .i64 v, .slice A k.len c] 26)).heap.size = w.heap.size + 1 := by simp
    have HB := Lib.hid ((below_new w (.cells #[.int .i64 o, .int .i64 x0, .int .i64 x1, .int .i64 x2, .int .i64 x3, .int .i64 x4, .int .i64 x5, .int .i64 v, .slice A k.len c] 26)).alloc (by rw [hs1]; omega) (.cells #[.int .i64 0, .int .i64 0, .int .i64 0, .int .i64 0, .int .i64 0, .int .i64 0, .int .i64 0, .int .i64 0, .slice none 0 0] 26))
    have X0 : Hid (B9 ((w.alloc (.cells #[.int .i64 o, .int .i64 x0, .int .i64 x1, .int .i64 x2, .int .i64 x3, .int .i64 x4, .int .i64 x5, .int .i64 v, .slice A k.len c] 26)).alloc (.cells #[.int .i64 0, .int .i64 0, .int .i64 0, .int .i64 0, .int .i64 0, .int .i64 0, .int .i64 0, .int .i64 0, .slice none 0 0] 26)) w.heap.size (.int .i64 o) (.int .i64 x0) (.int .i64 x1) (.int .i64 x2) (.int .i64 x3) (.int .i64 x4) (.int .i64 x5) (.int .i64 v) (.slice A k.len c)) := Lib.hid ((Below.heap_alloc _ _ _ (by rw [hs1]; omega)).trans (heap_new _ _))
    have R0 : Hid (B9 ((w.alloc (.cells #[.int .i64 o, .int .i64 x0, .int .i64 x1, .int .i64 x2, .int .i64 x3, .int .i64 x4, .int .i64 x5, .int .i64 v, .slice A k.len c] 26)).alloc (.cells #[.int .i64 0, .int .i64 0, .int .i64 0, .int .i64 0, .int .i64 0, .int .i64 0, .int .i64 0, .int .i64 0, .slice none 0 0] 26)) (w.heap.size + 1) (.int .i64 0) (.int .i64 0) (.int .i64 0) (.int .i64 0) (.int .i64 0) (.int .i64 0) (.int .i64 0) (.int .i64 0) (.slice none 0 0)) := Lib.hid (by have := heap_new (w.alloc (.cells #[.int .i64 o, .int .i64 x0, .int .i64 x1, .int .i64 x2, .int .i64 x3, .int .i64 x4, .int .i64 x5, .int .i64 v, .slice A k.len c] 26)) (.cells #[.int .i64 0, .int .i64 0, .int .i64 0, .int .i64 0, .int .i64 0, .int .i64 0, .int .i64 0, .int .i64 0, .slice none 0 0] 26); rwa [hs1] at this)
    rw [NT.val_lit]
    clear hok hs1 hd
    obtain ⟨W0, hW0⟩ : ∃ W0, W0 = (w.alloc (.cells #[.int .i64 o, .int .i64 x0, .int .i64 x1, .int .i64 x2, .int .i64 x3, .int .i64 x4, .int .i64 x5, .int .i64 v, .slice A k.len c] 26)).alloc (.cells #[.int .i64 0, .int .i64 0, .int .i64 0, .int .i64 0, .int .i64 0, .int .i64 0, .int .i64 0, .int .i64 0, .slice none 0 0] 26) := ⟨_, rfl⟩
    rw [← hW0] at HB X0 R0
    have V0 := Lib.hid (h1.keep HB.out)
    have U0 := Lib.hid (h2.keep HB.out)
    clear h1 h2
    show Calls _ _ #[_, _, _] _ _
    go_enter Try.func28, Try.ntmps28
    go_upto_region 1 with (fail)
    rw [← hW0]
    clear hW0
    have c1 := V0.out.cell
    have f1 := V0.out.free
    go_upto_region 2 with (fail)
    clear c1 f1
    have X1 : Hid (B9 (W0.setCell ⟨g1, 0, none⟩ (.int .i64 (wrap64 (s + 1)))) w.heap.size (.int .i64 o) (.int .i64 x0) (.int .i64 x1) (.int .i64 x2) (.int .i64 x3) (.int .i64 x4) (.int .i64 x5) (.int .i64 v) (.slice A k.len c)) := Lib.hid (X0.out.same (Below.heap_setCell _ _ _ _ (by show w.heap.size ≠ g1; omega)))
    have R1 : Hid (B9 (W0.setCell ⟨g1, 0, none⟩ (.int .i64 (wrap64 (s + 1)))) (w.heap.size + 1) (.int .i64 0) (.int .i64 0) (.int .i64 0) (.int .i64 0) (.int .i64 0) (.int .i64 0) (.int .i64 0) (.int .i64 0) (.slice none 0 0)) := Lib.hid (R0.out.same (Below.heap_setCell _ _ _ _ (by show w.heap.size + 1 ≠ g1; omega)))
    have V1_ : Hid (V1 (W0.setCell ⟨g1, 0, none⟩ (.int .i64 (wrap64 (s + 1)))) g1 3 (.int .i64 (wrap64 (s + 1)))) := Lib.hid (V0.out.set _)
    have U1 : Hid (V1 (W0.setCell ⟨g1, 0, none⟩ (.int .i64 (wrap64 (s + 1)))) gk 2 (.int .i64 d)) := Lib.hid ((Below.heap_setCell _ _ _ _ (by show gk ≠ g1; exact hne)).trans U0.out)
    have K1 := Lib.hid (Kx.set (D := fun k => k = g1 ∨ k = gk) (Kx.of_below HB.out) (g := g1) (.inl rfl) 0 (.int .i64 (wrap64 (s + 1))))
    have O1 := Lib.hid (HOK.out.keep (w' := W0.setCell ⟨g1, 0, none⟩ (.int .i64 (wrap64 (s + 1)))) (ok' := fun j => ok j ∧ j < w.heap.size) (fun j q hj => (Below.heap_setCell _ _ _ _ q.2).trans (HB.out.block j hj)) (by rw [World.size_setCell]; exact HB.out.size) (fun j q _ => q.1))
    obtain ⟨W1, hW1⟩ : ∃ W1, W1 = W0.setCell ⟨g1, 0, none⟩ (.int .i64 (wrap64 (s + 1))) := ⟨_, rfl⟩
    rw [← hW1] at X1 R1 V1_ U1 K1 O1 ⊢
    clear hW1 X0 R0 V0 U0 HOK HB
    have CE := Lib.hid (change_any ⟨o, [x0, x1, x2, x3, x4, x5], v, A, c, k⟩ d W1 _ O1.out)
    rw [NT.val_lit] at CE
    obtain ⟨a0, a1, a2, a3, a4, a5, a6, a7, a8⟩ := X1.out.cells
    have c2 := U1.out.cell
    go_wp2_with fail
    refine CE.out.mono ?_
    rintro ev w2 ⟨y, rfl, hyn, hyo, hya, hb⟩
    obtain ⟨p, y', u, B, e, m⟩ := y
    obtain ⟨y0, y1, y2, y3, y4, y5, rfl⟩ := six hyo.six
    rw [NT.val_lit]
    have R2 := Lib.hid (R1.out.keep hb)
    have V2 := Lib.hid (V1_.out.keep hb)
    have U2 := Lib.hid (U1.out.keep hb)
    have K2 := Lib.hid (K1.out.then hb)
    have HYN := Lib.hid hyn
    have HYO := Lib.hid hyo
    have HYA := Lib.hid hya
    clear hb hyn hyo hya CE X1 R1 V1_ U1 K1 O1 a0 a1 a2 a3 a4 a5 a6 a7 a8 c2
    obtain ⟨r0, r1, r2, r3, r4, r5, r6, r7, r8⟩ := R2.out.cells
    obtain ⟨f0, f1, f2, f3, f4, f5, f6, f7, f8⟩ := R2.out.free
    go_wp2
    refine bodyPost_ret (maps1_results _ rfl (by rw [nest_0]; exact R2.out.put _ _ _ _ _ _ _ _ _)) rfl ?_
    rw [nest_0]
    have KF := Kx.sets (o := 0) (l := [.int .i64 p, .int .i64 y0, .int .i64 y1, .int .i64 y2, .int .i64 y3, .int .i64 y4, .int .i64 y5, .int .i64 u, .slice B m.len e]) K2.out (show w.heap.size ≤ w.heap.size + 1 by omega)
    have e4 : (sets w2 (w.heap.size + 1) 0 [.int .i64 p, .int .i64 y0, .int .i64 y1, .int .i64 y2, .int .i64 y3, .int .i64 y4, .int .i64 y5, .int .i64 u, .slice B m.len e]).heap.size = w2.heap.size := (sets_same (g := w.heap.size + 1) _ _ _).2.2.2
    have QO := HYO.out.keep (w' := sets w2 (w.heap.size + 1) 0 [.int .i64 p, .int .i64 y0, .int .i64 y1, .int .i64 y2, .int .i64 y3, .int .i64 y4, .int .i64 y5, .int .i64 u, .slice B m.len e]) (ok' := ok) (fun j q _ => sets_far (by have := q.2; omega) _ _ _) (by rw [e4]; exact Nat.le_refl _) (fun j q _ => q.1)
    exact ⟨⟨p, [y0, y1, y2, y3, y4, y5], u, B, e, m⟩, _, rfl, HYN.out, QO, HYA.out, ⟨⟨rfl, hne, (sets_far (by omega) _ _ _).trans V2.out, (sets_far (by omega) _ _ _).trans U2.out⟩, KF, fun _ h => .inl h⟩⟩
end Go.Proofs.Ytdopgoagadpccaa
