/- apply: no claim of its own. -/
import Derived.Test.YtpemamkhaiiaaaaEApply0
import Derived.Deep.DeepCutAuto
import Derived.Shelf.Abstract
namespace Go.Proofs.Ytpemamkhaiiaaaa
open Go.RowKit
open ME (F Nd)
/-- What lies while arguments are worked on. -/
structure AI {σ : Type} (I : σ → (Nat → Prop) → World → Prop) (D : Nat → Prop) (W : World) (g : Nat) (s : σ) (D1 : Nat → Prop) (wr : World) : Prop where
  inv : I s D1 wr
  kx : Kx (fun k => D k ∨ k = g) W wr
  sub : ∀ k, D1 k → D k ∨ W.heap.size ≤ k
  off : ¬ D g
  lt : g < W.heap.size
  low : ∀ k, D k → k < W.heap.size
section
variable {σ : Type} {I : σ → (Nat → Prop) → World → Prop} {D D1 D2 : Nat → Prop} {W wr w2 : World} {g : Nat} {s s2 : σ}
theorem AI.out (h : AI I D W g s D1 wr) : ¬ D1 g := fun q => (h.sub g q).elim h.off (fun q => by have := h.lt; omega)
theorem AI.call (h : AI I D W g s D1 wr) (k : VI I D1 wr s2 D2 w2) : AI I D W g s2 D2 w2 :=
  ⟨k.inv, ⟨k.kx.os.trans h.kx.os, k.kx.tape.trans h.kx.tape, k.kx.output.trans h.kx.output, Nat.le_trans h.kx.size k.kx.size, fun j hj hd => (k.kx.block j (Nat.lt_of_lt_of_le hj h.kx.size) (fun q => (h.sub j q).elim (fun q => hd (.inl q)) (fun q => by omega))).trans (h.kx.block j hj hd)⟩,
   fun j hj => (k.sub j hj).elim (h.sub j) (fun q => .inr (Nat.le_trans h.kx.size q)), h.off, h.lt, h.low⟩
theorem AI.put {nx : σ → σ} {F : FuncId} {lb : Array Value} {gm : Nd → Nd} (hA : Acts F lb I gm nx) (h : AI I D W g s D1 wr) (vs : List Value) (o : Nat) : AI I D W g s D1 (sets wr g o vs) := by
  obtain ⟨e1, e2, e3, e4⟩ := sets_same (g := g) vs wr o
  refine ⟨hA.keep _ _ _ _ h.inv (fun k hk => sets_far (fun e => h.out (by rw [← e]; exact hk)) vs wr o) (by rw [e4]; exact Nat.le_refl _), ⟨e1.trans h.kx.os, e2.trans h.kx.tape, e3.trans h.kx.output, by rw [e4]; exact h.kx.size, fun j hj hd => (sets_far (fun e => hd (.inr e)) vs wr o).trans (h.kx.block j hj hd)⟩, h.sub, h.off, h.lt, h.low⟩
end
theorem list9 (o x0 x1 x2 x3 x4 x5 v : Int) (A : Option Addr) (n c : Nat) : cellsE o [x0, x1, x2, x3, x4, x5] v A n c = [.int .i64 o, .int .i64 x0, .int .i64 x1, .int .i64 x2, .int .i64 x3, .int .i64 x4, .int .i64 x5, .int .i64 v, .slice A n c] := rfl
theorem apply_results {w : World} {R1 : Nat} {z0 z1 z2 z3 z4 z5 z6 z7 z8 : Value} (tmps : Array Value) (h2 : tmps.getD 4 undef = .pointer (some ⟨R1, 0, none⟩)) (b1 : B9 w R1 z0 z1 z2 z3 z4 z5 z6 z7 z8) :
    (results Try.f18 tmps).run Try.prog w = .ok (.agg #[z0, z1, z2, z3, z4, z5, z6, z7, z8]) w := by
  have h2' : tmps[4]?.getD undef = .pointer (some ⟨R1, 0, none⟩) := by simpa using h2
  obtain ⟨r0, r1, r2, r3, r4, r5, r6, r7, r8⟩ := b1.cells
  simp [results, Try.results18, h2', go_sem, r0, r1, r2, r3, r4, r5, r6, r7, r8]
/-- The last step: the function's call and its answer. -/
theorem map_of {g : Nd → Nd} {o : Int} {b : List Int} {v : Int} {A : Option Addr} {c : Nat} {k k2 : FT} (A2 : Option Addr) (c2 : Nat) (h : k2.f = k.f.map g) : g (NT.n ⟨o, b, v, A2, c2, k2⟩) = ME.Nd.map g (NT.n ⟨o, b, v, A, c, k⟩) := by
  unfold ME.Nd.map NT.n
  rw [h]
theorem snoc_f (g : Nd → Nd) : ∀ (ys : List NT) (y : NT) (r : F), (FT.of ys).f.app (.cons y.o y.b y.v y.k.f r) = (FT.of (ys ++ [y])).f.app r
  | [], _, _ => rfl
  | z :: zs, y, r => by
    show ME.F.cons z.o z.b z.v z.k.f ((FT.of zs).f.app (.cons y.o y.b y.v y.k.f r)) = _
    rw [snoc_f g zs y r]; rfl
theorem app_nil : ∀ f : F, f.app .nil = f
  | .nil => rfl
  | .cons o b v k r => by show ME.F.cons o b v k (r.app .nil) = _; rw [app_nil r]
theorem Arg.rowAt {w : World} {g n : Nat} {ys : List NT} (h : Arg w g n ys) : RowAt w g := by
  obtain ⟨cur, h1, _⟩ := h.row
  exact ⟨cur, _, h1⟩
set_option maxRecDepth 100000 in
set_option maxHeartbeats 16000000 in
theorem apply_any {σ : Type} {F : FuncId} {lb : Array Value} {I : σ → (Nat → Prop) → World → Prop} {g : Nd → Nd} {nx : σ → σ} (hA : Acts F lb I g nx) : ∀ (N : Nat), N ≤ 2000000 → ∀ (x : NT), x.size ≤ N → ∀ (s : σ) (D : Nat → Prop) (w : World), I s D w → x.Ok w (fun k => ¬ D k) →
    Calls Try.prog 18 #[x.val, .func (.func F) #[] lb] w (App I D w (x.n.map g) (itr nx x.size s)) := by
  intro N
  induction N with
  | zero => intro _ x hx; unfold NT.size at hx; omega
  | succ N ih =>
    intro hN x hx s D w hi hok
    have IH := Lib.hid (ih (by omega))
    have HA := Lib.hid hA
    have eg := hA.enters
    have hsz : x.k.size ≤ N := by unfold NT.size at hx; omega
    clear ih hx hA
    obtain ⟨o, b, v, A, c, k⟩ := x
    obtain ⟨x0, x1, x2, x3, x4, x5, rfl⟩ := six hok.six
    have hn := hok.kids.few
    have hc := hok.kids.cap
    have hkl : k.len ≤ N := Nat.le_trans (by rw [← FT.len_f, ← FT.size_f]; exact ME.F.len_size _) hsz
    have hlow := Lib.hid (HA.out.lt _ _ _ hi)
    have HB1 := Lib.hid (below_new w (.cells #[.int .i64 o, .int .i64 x0, .int .i64 x1, .int .i64 x2, .int .i64 x3, .int .i64 x4, .int .i64 x5, .int .i64 v, .slice A k.len c] 26))
    have HB := Lib.hid (HB1.out.alloc HB1.out.size (.cells #[.int .i64 0, .int .i64 0, .int .i64 0, .int .i64 0, .int .i64 0, .int .i64 0, .int .i64 0, .int .i64 0, .slice none 0 0] 26))
    have hs1 : (w.alloc (.cells #[.int .i64 o, .int .i64 x0, .int .i64 x1, .int .i64 x2, .int .i64 x3, .int .i64 x4, .int .i64 x5, .int .i64 v, .slice A k.len c] 26)).heap.size = w.heap.size + 1 := by simp
    have X0 : Hid (B9 ((w.alloc (.cells #[.int .i64 o, .int .i64 x0, .int .i64 x1, .int .i64 x2, .int .i64 x3, .int .i64 x4, .int .i64 x5, .int .i64 v, .slice A k.len c] 26)).alloc (.cells #[.int .i64 0, .int .i64 0, .int .i64 0, .int .i64 0, .int .i64 0, .int .i64 0, .int .i64 0, .int .i64 0, .slice none 0 0] 26)) w.heap.size (.int .i64 o) (.int .i64 x0) (.int .i64 x1) (.int .i64 x2) (.int .i64 x3) (.int .i64 x4) (.int .i64 x5) (.int .i64 v) (.slice A k.len c)) := Lib.hid ((Below.heap_alloc _ _ _ (by rw [hs1]; omega)).trans (heap_new _ _))
    have R0 : Hid (B9 ((w.alloc (.cells #[.int .i64 o, .int .i64 x0, .int .i64 x1, .int .i64 x2, .int .i64 x3, .int .i64 x4, .int .i64 x5, .int .i64 v, .slice A k.len c] 26)).alloc (.cells #[.int .i64 0, .int .i64 0, .int .i64 0, .int .i64 0, .int .i64 0, .int .i64 0, .int .i64 0, .int .i64 0, .slice none 0 0] 26)) (w.heap.size + 1) (.int .i64 0) (.int .i64 0) (.int .i64 0) (.int .i64 0) (.int .i64 0) (.int .i64 0) (.int .i64 0) (.int .i64 0) (.slice none 0 0)) := Lib.hid (by have := heap_new (w.alloc (.cells #[.int .i64 o, .int .i64 x0, .int .i64 x1, .int .i64 x2, .int .i64 x3, .int .i64 x4, .int .i64 x5, .int .i64 v, .slice A k.len c] 26)) (.cells #[.int .i64 0, .int .i64 0, .int .i64 0, .int .i64 0, .int .i64 0, .int .i64 0, .int .i64 0, .int .i64 0, .slice none 0 0] 26); rwa [hs1] at this)
    have hs2 : ((w.alloc (.cells #[.int .i64 o, .int .i64 x0, .int .i64 x1, .int .i64 x2, .int .i64 x3, .int .i64 x4, .int .i64 x5, .int .i64 v, .slice A k.len c] 26)).alloc (.cells #[.int .i64 0, .int .i64 0, .int .i64 0, .int .i64 0, .int .i64 0, .int .i64 0, .int .i64 0, .int .i64 0, .slice none 0 0] 26)).heap.size = w.heap.size + 2 := by simp
    have V0 : Hid (I s D ((w.alloc (.cells #[.int .i64 o, .int .i64 x0, .int .i64 x1, .int .i64 x2, .int .i64 x3, .int .i64 x4, .int .i64 x5, .int .i64 v, .slice A k.len c] 26)).alloc (.cells #[.int .i64 0, .int .i64 0, .int .i64 0, .int .i64 0, .int .i64 0, .int .i64 0, .int .i64 0, .int .i64 0, .slice none 0 0] 26))) := Lib.hid (HA.out.keep _ _ _ _ hi (fun j hj => HB.out.block j (hlow.out j hj)) HB.out.size)
    have HK0 := Lib.hid ((hok.below HB.out).kids.rest)
    have HKW : Hid (Rest w (fun j => ¬ D j ∧ j < w.heap.size) A 0 k k.len) := Lib.hid (hok.kids.rest.keep (fun _ _ _ => rfl) (Nat.le_refl _) (fun j hj hl => ⟨hj, hl⟩))
    have HSZ : Hid (NT.size ⟨o, [x0, x1, x2, x3, x4, x5], v, A, c, k⟩ = k.size + 1) := Lib.hid rfl
    have O64 := Lib.hid (And.intro hok.o64 (And.intro hok.v64 hok.b64))
    rw [NT.val_lit]
    clear hi hok
    obtain ⟨Z, hZ⟩ : ∃ Z, Z = ME.Nd.map g (NT.n ⟨o, [x0, x1, x2, x3, x4, x5], v, A, c, k⟩) := ⟨_, rfl⟩
    have HZ : Hid (∀ (A2 : Option Addr) (c2 : Nat) (k2 : FT), k2.f = k.f.map g → g (NT.n ⟨o, [x0, x1, x2, x3, x4, x5], v, A2, c2, k2⟩) = Z) := Lib.hid (fun A2 c2 k2 h => by rw [hZ]; exact map_of A2 c2 h)
    rw [← hZ, HSZ.out]
    clear hZ
    obtain ⟨W0, hW0⟩ : ∃ W0, W0 = (w.alloc (.cells #[.int .i64 o, .int .i64 x0, .int .i64 x1, .int .i64 x2, .int .i64 x3, .int .i64 x4, .int .i64 x5, .int .i64 v, .slice A k.len c] 26)).alloc (.cells #[.int .i64 0, .int .i64 0, .int .i64 0, .int .i64 0, .int .i64 0, .int .i64 0, .int .i64 0, .int .i64 0, .slice none 0 0] 26) := ⟨_, rfl⟩
    rw [← hW0] at HB X0 R0 V0 HK0 hs2
    /- the end: e.Args = args; f(e) -/
    have FIN : Hid (∀ (wr : World) (s1 : σ) (D1 : Nat → Prop) (A2 : Option Addr) (c2 : Nat) (k2 : FT), I s1 D1 wr → (∀ j, D1 j → D j ∨ w.heap.size + 2 ≤ j) → Kx D w wr → s1 = itr nx k.size s → B9 wr w.heap.size (.int .i64 o) (.int .i64 x0) (.int .i64 x1) (.int .i64 x2) (.int .i64 x3) (.int .i64 x4) (.int .i64 x5) (.int .i64 v) (.slice A2 k2.len c2) → B9 wr (w.heap.size + 1) (.int .i64 0) (.int .i64 0) (.int .i64 0) (.int .i64 0) (.int .i64 0) (.int .i64 0) (.int .i64 0) (.int .i64 0) (.slice none 0 0) →
        Kids wr (fun j => (w.heap.size + 2 ≤ j ∧ ¬ D1 j) ∧ RowAt wr j) A2 c2 k2 → (k2 = .nil ∨ ∃ ad, A2 = some ad ∧ k2.al ad) → k2.f = k.f.map g →
        Calls Try.prog F (#[.agg #[.int .i64 o, .int .i64 x0, .int .i64 x1, .int .i64 x2, .int .i64 x3, .int .i64 x4, .int .i64 x5, .int .i64 v, .slice A2 k2.len c2]] ++ lb) wr fun e w' => ∃ (oy q0 q1 q2 q3 q4 q5 vy : Int) (Ay : Option Addr) (ny cy : Nat), e = .returned (.agg #[.int .i64 oy, .int .i64 q0, .int .i64 q1, .int .i64 q2, .int .i64 q3, .int .i64 q4, .int .i64 q5, .int .i64 vy, .slice Ay ny cy]) ∧ B9 w' (w.heap.size + 1) (.int .i64 0) (.int .i64 0) (.int .i64 0) (.int .i64 0) (.int .i64 0) (.int .i64 0) (.int .i64 0) (.int .i64 0) (.slice none 0 0) ∧
          App I D w Z (itr nx (k.size + 1) s) (.returned (.agg #[.int .i64 oy, .int .i64 q0, .int .i64 q1, .int .i64 q2, .int .i64 q3, .int .i64 q4, .int .i64 q5, .int .i64 vy, .slice Ay ny cy])) (sets w' (w.heap.size + 1) 0 [.int .i64 oy, .int .i64 q0, .int .i64 q1, .int .i64 q2, .int .i64 q3, .int .i64 q4, .int .i64 q5, .int .i64 vy, .slice Ay ny cy])) := Lib.hid (by
      intro wr s1 D1 A2 c2 k2 hi1 hsub hkx hs1' hbx hbz hkid hal hkf
      have hl1 := HA.out.lt _ _ _ hi1
      have hd1 : ¬ D1 w.heap.size := fun q => (hsub _ q).elim (fun q => by have := hlow.out _ q; omega) (fun q => by omega)
      have hd2 : ¬ D1 (w.heap.size + 1) := fun q => (hsub _ q).elim (fun q => by have := hlow.out _ q; omega) (fun q => by omega)
      have hsz2 : w.heap.size + 2 ≤ wr.heap.size := by have := hbz.lt; omega
      refine (HA.out.call s1 D1 wr ⟨o, [x0, x1, x2, x3, x4, x5], v, A2, c2, k2⟩ (fun j => (w.heap.size + 2 ≤ j ∧ ¬ D1 j ∧ j < wr.heap.size) ∧ RowAt wr j) hi1 (fun j hj => hj.1.2.1) ⟨rfl, O64.out.1, O64.out.2.1, O64.out.2.2, hkid.keep (fun _ _ _ => rfl) (Nat.le_refl _) (fun j hj hl => ⟨⟨hj.1.1, hj.1.2, hl⟩, hj.2⟩)⟩).mono ?_
      rintro e w5 ⟨y, D2, rfl, hyn, hyo, hya, hv⟩
      obtain ⟨oy, byy, vy, Ay, cy, ky⟩ := y
      obtain ⟨q0, q1, q2, q3, q4, q5, rfl⟩ := six hyo.six
      have hd3 : ¬ D2 (w.heap.size + 1) := fun q => (hv.sub _ q).elim hd2 (fun q => by omega)
      have hb5 : B9 w5 (w.heap.size + 1) (.int .i64 0) (.int .i64 0) (.int .i64 0) (.int .i64 0) (.int .i64 0) (.int .i64 0) (.int .i64 0) (.int .i64 0) (.slice none 0 0) := hbz.same (hv.kx.block _ hbz.lt hd2)
      refine ⟨oy, q0, q1, q2, q3, q4, q5, vy, Ay, ky.len, cy, rfl, hb5, ?_⟩
      obtain ⟨w6, h6⟩ : ∃ w6, w6 = sets w5 (w.heap.size + 1) 0 [.int .i64 oy, .int .i64 q0, .int .i64 q1, .int .i64 q2, .int .i64 q3, .int .i64 q4, .int .i64 q5, .int .i64 vy, .slice Ay ky.len cy] := ⟨_, rfl⟩
      rw [← h6]
      obtain ⟨e1, e2, e3, e4⟩ := sets_same (g := w.heap.size + 1) [.int .i64 oy, .int .i64 q0, .int .i64 q1, .int .i64 q2, .int .i64 q3, .int .i64 q4, .int .i64 q5, .int .i64 vy, .slice Ay ky.len cy] w5 0
      rw [← h6] at e1 e2 e3 e4
      have efar : ∀ j, j ≠ w.heap.size + 1 → w6.heap[j]? = w5.heap[j]? := fun j hj => by rw [h6]; exact sets_far hj _ _ _
      refine ⟨⟨oy, [q0, q1, q2, q3, q4, q5], vy, Ay, cy, ky⟩, D2, rfl, hyn.trans (HZ.out A2 c2 k2 hkf), ?_, hya hal, ?_, ?_, ?_⟩
      · exact hyo.keep (fun j hj _ => efar j (by have := hj.1.1; omega)) (by rw [e4]; exact Nat.le_refl _) (fun j hj _ => ⟨⟨by have := hj.1.1; omega, fun q => (hv.sub j q).elim hj.1.2.1 (fun q => by have := hj.1.2.2; omega)⟩, RowAt.same (RowAt.same hj.2 (hv.kx.block j hj.1.2.2 hj.1.2.1)) (efar j (by have := hj.1.1; omega))⟩)
      · rw [itr_one, ← hs1']
        exact HA.out.keep _ _ _ _ hv.inv (fun j hj => efar j (fun q => hd3 (by rw [← q]; exact hj))) (by rw [e4]; exact Nat.le_refl _)
      · refine ⟨e1.trans (hv.kx.os.trans hkx.os), e2.trans (hv.kx.tape.trans hkx.tape), e3.trans (hv.kx.output.trans hkx.output), by rw [e4]; exact Nat.le_trans hkx.size hv.kx.size, fun j hj hd => ?_⟩
        rw [efar j (by omega), hv.kx.block j (Nat.lt_of_lt_of_le hj hkx.size) (fun q => (hsub j q).elim hd (fun q => by omega)), hkx.block j hj hd]
      · exact fun j hj => (hv.sub j hj).elim (fun q => (hsub j q).imp (fun q => q) (fun q => by omega)) (fun q => .inr (by omega)))
    clear HZ
    go_enter Try.func18, Try.ntmps18
    go_upto_region 1 with (fail)
    rw [← hW0]
    clear hW0 hs1 HB1
    obtain ⟨a0, a1, a2, a3, a4, a5, a6, a7, a8⟩ := X0.out.cells
    rcases Nat.eq_zero_or_pos k.len with hk0 | hk0
    · have hke : k = .nil := by cases k with | nil => rfl | cons _ _ _ _ _ _ _ => simp only [FT.len] at hk0; omega
      subst hke
      have f8 := X0.out.free.2.2.2.2.2.2.2.2
      have X1 := Lib.hid (X0.out.set8 (.slice none 0 0))
      have KX1 : Hid (Kx D w (W0.setCell ⟨w.heap.size, 8, none⟩ (.slice none 0 0))) := Lib.hid ⟨HB.out.os, HB.out.tape, HB.out.output, by rw [World.size_setCell]; exact HB.out.size, fun j hj _ => (Below.heap_setCell W0 ⟨w.heap.size, 8, none⟩ _ j (by show j ≠ w.heap.size; omega)).trans (HB.out.block j hj)⟩
      have V1 : Hid (I s D (W0.setCell ⟨w.heap.size, 8, none⟩ (.slice none 0 0))) := Lib.hid (HA.out.keep _ _ _ _ V0.out (fun j hj => Below.heap_setCell W0 ⟨w.heap.size, 8, none⟩ _ j (by have := hlow.out j hj; show j ≠ w.heap.size; omega)) (by rw [World.size_setCell]; exact Nat.le_refl _))
      have R1 : Hid (B9 (W0.setCell ⟨w.heap.size, 8, none⟩ (.slice none 0 0)) (w.heap.size + 1) (.int .i64 0) (.int .i64 0) (.int .i64 0) (.int .i64 0) (.int .i64 0) (.int .i64 0) (.int .i64 0) (.int .i64 0) (.slice none 0 0)) := Lib.hid (R0.out.same (Below.heap_setCell W0 ⟨w.heap.size, 8, none⟩ _ _ (by show w.heap.size + 1 ≠ w.heap.size; omega)))
      have FX := Lib.hid (FIN.out _ s D none 0 .nil V1.out (fun j hj => .inl hj) KX1.out rfl X1.out R1.out (Kids.nil _ _ _ _) (.inl rfl) rfl)
      clear FIN V1 R1 KX1 X1 HK0 R0 V0 X0 HKW
      have hkz : FT.len .nil = 0 := rfl
      rw [hkz] at *
      go_wp2_with fail
      go_loopw [19] (fun i wr => i = .int .i64 0 ∧ wr = W0) (fun _ _ => 0)
      case atStart => exact ⟨rfl, rfl⟩
      case round =>
        obtain ⟨rfl, rfl⟩ := hrel
        go_wp2_with fail
        refine FX.out.mono ?_
        rintro ev w5 ⟨oy, q0, q1, q2, q3, q4, q5, vy, Ay, ny, cy, rfl, hb5, hfin⟩
        have HF5 := Lib.hid hfin
        have HB5 := Lib.hid hb5
        obtain ⟨r0, r1, r2, r3, r4, r5, r6, r7, r8⟩ := hb5.cells
        obtain ⟨f0, f1, f2, f3, f4, f5, f6, f7, f8⟩ := hb5.free
        clear hfin hb5 FX
        go_wp2
        refine bodyPost_ret (apply_results _ rfl (by rw [nest_0]; exact HB5.out.put _ _ _ _ _ _ _ _ _)) rfl ?_
        rw [nest_0]
        exact HF5.out
    · obtain ⟨i0, hi, hz0, hz1, hz2⟩ := info_parts infoExpr
      have hk0i : (0 : Int) < (k.len : Int) := by omega
      have hk0d : decide ((0 : Int) < (k.len : Int)) = true := decide_eq_true hk0i
      go_wp2_with (at_make; refine wpList_make_full _ rfl _ _ 24 rfl W0.heap.size 26 i0 (.agg #[.int .i64 0, .int .i64 0, .int .i64 0, .int .i64 0, .int .i64 0, .int .i64 0, .int .i64 0, .int .i64 0, .slice none 0 0]) 9 Try.underlying24 hi hz0 hz1 _ _ _ _ k.len rfl rfl (by omega) (by omega) ?b2 ?b3 (Nat.le_refl _) ?_)
      case b2 => omega
      case b3 => unfold maxLen; omega
      intro w1 hown hgrow
      obtain ⟨gb, hgb⟩ : ∃ gb, w.heap.size + 2 = gb := ⟨_, rfl⟩
      rw [hgb] at hown hs2 ⊢
      have A1 : Hid (Arg w1 gb k.len [] ∧ ([] : List NT).length = 0) := Lib.hid (by
        rcases hown.2 with ⟨e, _⟩ | ⟨g', cap, cur, e, _, h1, _, _, h4, _⟩
        · cases e
        · injection e with e1 _ e3
          injection e1 with e1
          injection e1 with e1
          subst e1 e3
          exact ⟨⟨Nat.zero_le _, El.Fine.nil _, cur, h1, h4, fun j u hu => by cases hu⟩, rfl⟩)
      have G1 := Lib.hid (show Below W0.heap.size W0 w1 from (Below.refl _ _).grown hgrow (Nat.le_refl _) (by intro k hk; cases hk))
      have hw1 : gb < w1.heap.size := A1.out.1.lt
      have V1 : Hid (AI I D w1 gb s D w1) := Lib.hid ⟨HA.out.keep _ _ _ _ V0.out (fun j hj => G1.out.block j (by have := hlow.out j hj; omega)) G1.out.size, Kx.refl _ _, fun j hj => .inl hj, fun q => by have := hlow.out _ q; omega, hw1, fun j hj => by have := hlow.out j hj; omega⟩
      have HK1 : Hid (Rest w1 (fun j => ¬ D j ∧ j < w.heap.size) A 0 k k.len) := Lib.hid (HKW.out.keep (fun j hj _ => (G1.out.block j (by have := hj.2; omega)).trans (HB.out.block j hj.2)) (Nat.le_trans HB.out.size G1.out.size) (fun _ h _ => h))
      have X1 := Lib.hid (X0.out.keep G1.out)
      have R1 := Lib.hid (R0.out.keep G1.out)
      have XR : Hid (∀ (s1 : σ) (D1 : Nat → Prop) (wr : World), AI I D w1 gb s1 D1 wr → B9 wr w.heap.size (.int .i64 o) (.int .i64 x0) (.int .i64 x1) (.int .i64 x2) (.int .i64 x3) (.int .i64 x4) (.int .i64 x5) (.int .i64 v) (.slice A k.len c) ∧ B9 wr (w.heap.size + 1) (.int .i64 0) (.int .i64 0) (.int .i64 0) (.int .i64 0) (.int .i64 0) (.int .i64 0) (.int .i64 0) (.int .i64 0) (.slice none 0 0)) := Lib.hid (fun s1 D1 wr h =>
        ⟨X1.out.same (h.kx.block _ X1.out.lt (by rintro (q | q); have := hlow.out _ q; omega; omega)), R1.out.same (h.kx.block _ R1.out.lt (by rintro (q | q); have := hlow.out _ q; omega; omega))⟩)
      have KW : Hid (∀ (s1 : σ) (D1 : Nat → Prop) (wr : World), AI I D w1 gb s1 D1 wr → Kx D w wr) := Lib.hid (fun s1 D1 wr h =>
        ⟨h.kx.os.trans (G1.out.os.trans HB.out.os), h.kx.tape.trans (G1.out.tape.trans HB.out.tape), h.kx.output.trans (G1.out.output.trans HB.out.output), Nat.le_trans HB.out.size (Nat.le_trans G1.out.size h.kx.size), fun j hj hd => by
          rw [h.kx.block j (by omega) (by rintro (q | q); exact hd q; omega), G1.out.block j (by omega), HB.out.block j hj]⟩)
      clear hown hgrow G1 V0 HKW HB X0 R0 a0 a1 a2 a3 a4 a5 a6 a7 hi hz0 hz1 hz2 HK0
      have a8 := X1.out.cells.2.2.2.2.2.2.2.2
      clear X1 R1
      go_wp2_with fail
      go_loopw [19] (fun i wr => ∃ (q : Nat) (rs : FT) (s1 : σ) (D1 : Nat → Prop) (ys : List NT), q ≤ k.len ∧ rs.size ≤ N ∧ i = .int .i64 q ∧ Hid (AI I D w1 gb s1 D1 wr) ∧ Hid (Rest wr (fun j => ¬ D j ∧ j < w.heap.size) A q rs k.len) ∧ Hid (Arg wr gb k.len ys ∧ ys.length = q) ∧
        Hid (∀ y ∈ ys, y.Rk wr (fun j => w1.heap.size ≤ j ∧ ¬ D1 j) ∧ y.Al) ∧ Hid ((FT.of ys).f.app (rs.f.map g) = k.f.map g) ∧ Hid (itr nx rs.size s1 = itr nx k.size s)) (fun i _ => k.len - (intOf i).toNat)
      case atStart => exact ⟨0, k, s, D, [], Nat.zero_le _, hsz, rfl, V1, HK1, A1, Lib.hid (fun y hy => by cases hy), Lib.hid rfl, Lib.hid rfl⟩
      case round =>
        clear V1 HK1 A1 a8
        obtain ⟨q, rs, s1, D1, ys, hq, hrs, rfl, HV, HK, HG, HY, HM, HI⟩ := hrel
        by_cases hlt : q < k.len
        · obtain ⟨ad, o', y0, y1, y2, y3, y4, y5, v', A', c', k', r', rfl, rfl, hok', hnx, hbk, _, z0, z1, z2, z3, z4, z5, z6, z7, z8⟩ := HK.out.open_ hlt
          have HN := Lib.hid hnx
          have hs2' : NT.size ⟨o', [y0, y1, y2, y3, y4, y5], v', A', c', k'⟩ ≤ N := by unfold FT.size at hrs; unfold NT.size; show k'.size + 1 ≤ N; omega
          have hr2 : r'.size ≤ N := by unfold FT.size at hrs; omega
          have HB3 := Lib.hid (below_new wr (.cells #[.int .i64 o', .int .i64 y0, .int .i64 y1, .int .i64 y2, .int .i64 y3, .int .i64 y4, .int .i64 y5, .int .i64 v', .slice A' k'.len c'] 26))
          have HV3 : Hid (AI I D w1 gb s1 D1 (wr.alloc (.cells #[.int .i64 o', .int .i64 y0, .int .i64 y1, .int .i64 y2, .int .i64 y3, .int .i64 y4, .int .i64 y5, .int .i64 v', .slice A' k'.len c'] 26))) := Lib.hid (HV.out.call ⟨HA.out.keep _ _ _ _ HV.out.inv (fun j hj => HB3.out.block j (HA.out.lt _ _ _ HV.out.inv j hj)) HB3.out.size, Kx.of_below HB3.out, fun _ h => .inl h⟩)
          have CE := Lib.hid (IH.out ⟨o', [y0, y1, y2, y3, y4, y5], v', A', c', k'⟩ hs2' s1 D1 _ HV3.out.inv (hok'.keep (fun j _ hj => HB3.out.block j hj) HB3.out.size (fun j hj _ hd => (HV.out.sub j hd).elim hj.1 (fun g => by have := hj.2; omega))))
          have HI2 : Hid (itr nx r'.size (itr nx (NT.size ⟨o', [y0, y1, y2, y3, y4, y5], v', A', c', k'⟩) s1) = itr nx k.size s) := Lib.hid (by rw [← HI.out, ← itr_add]; congr 1; show k'.size + 1 + r'.size = 1 + k'.size + r'.size; omega)
          have HM2 : Hid (∀ y : NT, y.n = ME.Nd.map g (NT.n ⟨o', [y0, y1, y2, y3, y4, y5], v', A', c', k'⟩) → (FT.of (ys ++ [y])).f.app (r'.f.map g) = k.f.map g) := Lib.hid (fun y hy => by
            rw [← HM.out, ← snoc_f g]
            show (FT.of ys).f.app (.cons y.n.o y.n.b y.n.v y.n.k (r'.f.map g)) = _
            rw [hy]; rfl)
          rw [NT.val_lit] at CE
          clear hok' hnx HK HM HI
          generalize NT.size ⟨o', [y0, y1, y2, y3, y4, y5], v', A', c', k'⟩ = sy at *
          have hlt' : (q : Int) < (k.len : Int) := by omega
          go_wp2_with fail
          refine CE.out.mono ?_
          rintro ev w3 ⟨y, D2, rfl, hyn, hyo, hya, hv⟩
          obtain ⟨oy, byy, vy, Ay, cy, ky⟩ := y
          obtain ⟨q0, q1, q2, q3, q4, q5, rfl⟩ := six hyo.six
          have HV4 := Lib.hid (HV3.out.call hv)
          have hgw : gb < wr.heap.size := HG.out.1.lt
          have g3 : w3.heap[gb]? = wr.heap[gb]? := (hv.kx.block gb (by have := HB3.out.size; omega) HV3.out.out).trans (HB3.out.block gb hgw)
          have HG3 := Lib.hid (HG.out.1.same g3)
          have HL := Lib.hid HG.out.2
          have HY3 : Hid (∀ y ∈ ys ++ [⟨oy, [q0, q1, q2, q3, q4, q5], vy, Ay, cy, ky⟩], y.Rk w3 (fun j => w1.heap.size ≤ j ∧ ¬ D2 j ∧ j ≠ gb) ∧ y.Al) := Lib.hid (fun z hz => by
            have hww : w1.heap.size ≤ wr.heap.size := HV.out.kx.size
            rcases List.mem_append.1 hz with h | h
            · refine ⟨(HY.out z h).1.keep (fun j hj hl => (hv.kx.block j (Nat.lt_of_lt_of_le hl HB3.out.size) hj.2).trans (HB3.out.block j hl)) (Nat.le_trans HB3.out.size hv.kx.size) (fun j hj hl => ⟨hj.1, fun q => (hv.sub j q).elim hj.2 (fun q => by have := HB3.out.size; omega), by have := hj.1; omega⟩), (HY.out z h).2⟩
            · rw [List.mem_singleton.1 h]
              exact ⟨hyo.keep (fun _ _ _ => rfl) (Nat.le_refl _) (fun j hj _ => ⟨by have := HB3.out.size; have := hj.1; omega, hj.2, by have := HB3.out.size; have := hj.1; omega⟩), hya⟩)
          have HN3 : Hid (Rest w3 (fun j => ¬ D j ∧ j < w.heap.size) (some ad) (q + 1) r' k.len) := Lib.hid (HN.out.keep (fun j hj hl => (hv.kx.block j (Nat.lt_of_lt_of_le hl HB3.out.size) (fun q => (HV.out.sub j q).elim hj.1 (fun q => by have := hj.2; omega))).trans (HB3.out.block j hl)) (Nat.le_trans HB3.out.size hv.kx.size) (fun _ h _ => h))
          have HM3 := Lib.hid (HM2.out ⟨oy, [q0, q1, q2, q3, q4, q5], vy, Ay, cy, ky⟩ hyn)
          have HP := Lib.hid (HG3.out.put HL.out hlt (y := ⟨oy, [q0, q1, q2, q3, q4, q5], vy, Ay, cy, ky⟩) (list9 oy q0 q1 q2 q3 q4 q5 vy Ay ky.len cy) rfl)
          have HV5 := Lib.hid (HV4.out.put HA.out [.int .i64 oy, .int .i64 q0, .int .i64 q1, .int .i64 q2, .int .i64 q3, .int .i64 q4, .int .i64 q5, .int .i64 vy, .slice Ay ky.len cy] (q * 9))
          have HLL : Hid ((ys ++ [(⟨oy, [q0, q1, q2, q3, q4, q5], vy, Ay, cy, ky⟩ : NT)]).length = q + 1) := Lib.hid (by rw [List.length_append, HL.out]; rfl)
          obtain ⟨e0, t0⟩ := HG3.out.there (j := q * 9) (by omega)
          have f0 := HG3.out.free (q * 9)
          obtain ⟨e1, t1⟩ := HG3.out.there (j := q * 9 + 1) (by omega)
          have f1 := HG3.out.free (q * 9 + 1)
          obtain ⟨e2, t2⟩ := HG3.out.there (j := q * 9 + 2) (by omega)
          have f2 := HG3.out.free (q * 9 + 2)
          obtain ⟨e3, t3⟩ := HG3.out.there (j := q * 9 + 3) (by omega)
          have f3 := HG3.out.free (q * 9 + 3)
          obtain ⟨e4, t4⟩ := HG3.out.there (j := q * 9 + 4) (by omega)
          have f4 := HG3.out.free (q * 9 + 4)
          obtain ⟨e5, t5⟩ := HG3.out.there (j := q * 9 + 5) (by omega)
          have f5 := HG3.out.free (q * 9 + 5)
          obtain ⟨e6, t6⟩ := HG3.out.there (j := q * 9 + 6) (by omega)
          have f6 := HG3.out.free (q * 9 + 6)
          obtain ⟨e7, t7⟩ := HG3.out.there (j := q * 9 + 7) (by omega)
          have f7 := HG3.out.free (q * 9 + 7)
          obtain ⟨e8, t8⟩ := HG3.out.there (j := q * 9 + 8) (by omega)
          have f8 := HG3.out.free (q * 9 + 8)
          clear hyn hyo hya hv g3 HG HY HV HV3 HV4 HB3 CE HN HM2 z0 z1 z2 z3 z4 z5 z6 z7 z8 hgw
          rw [NT.val_lit]
          go_wp2
          go_roundw
          case rel =>
            rw [nest_q]
            obtain ⟨n1, n2, n3, n4⟩ := sets_same (g := gb) [.int .i64 oy, .int .i64 q0, .int .i64 q1, .int .i64 q2, .int .i64 q3, .int .i64 q4, .int .i64 q5, .int .i64 vy, .slice Ay ky.len cy] w3 (q * 9)
            refine ⟨q + 1, r', _, D2, _, by omega, hr2, by go_num, HV5, Lib.hid ?_, Lib.hid ⟨HP.out, HLL.out⟩, Lib.hid ?_, HM3, HI2⟩
            · exact HN3.out.keep (fun j hj _ => sets_far (by have := hj.2; omega) _ _ _) (by rw [n4]; exact Nat.le_refl _) (fun _ h _ => h)
            · exact fun z hz => ⟨(HY3.out z hz).1.keep (fun j hj _ => sets_far hj.2.2 _ _ _) (by rw [n4]; exact Nat.le_refl _) (fun j hj _ => ⟨hj.1, hj.2.1⟩), (HY3.out z hz).2⟩
          case measure => simp [intOf]; omega
        · obtain ⟨rfl, hqe⟩ := HK.out.end_ hlt
          have hlt' : ¬ (q : Int) < (k.len : Int) := by omega
          obtain ⟨hbx, hbz⟩ := XR.out _ _ _ HV.out
          have fa : ∀ j, j ≠ w.heap.size → (wr.setCell ⟨w.heap.size, 8, none⟩ (.slice (some ⟨gb, 0, none⟩) k.len k.len)).heap[j]? = wr.heap[j]? := fun j hj => Below.heap_setCell wr ⟨w.heap.size, 8, none⟩ _ j hj
          have hnl : (FT.of ys).len = k.len := by rw [FT.of_len, HG.out.2]; exact hqe
          have KW1 := KW.out _ _ _ HV.out
          have hsb : ∀ j, D1 j → D j ∨ w.heap.size + 2 ≤ j := fun j hj => (HV.out.sub j hj).imp (fun q => q) (fun q => by omega)
          have FX := Lib.hid (FIN.out (wr.setCell ⟨w.heap.size, 8, none⟩ (.slice (some ⟨gb, 0, none⟩) k.len k.len)) s1 D1 (some ⟨gb, 0, none⟩) k.len (FT.of ys)
            (HA.out.keep _ _ _ _ HV.out.inv (fun j hj => fa j (fun e => (hsb j hj).elim (fun q => by have := hlow.out j q; omega) (fun q => by omega))) (by rw [World.size_setCell]; exact Nat.le_refl _))
            hsb ⟨KW1.os, KW1.tape, KW1.output, by rw [World.size_setCell]; exact KW1.size, fun j hj hd => (fa j (by omega)).trans (KW1.block j hj hd)⟩ HI.out
            (by rw [hnl]; exact hbx.set8 _) (hbz.same (fa _ (by omega)))
            ((HG.out.1.kids (by rw [HG.out.2]; exact hqe) (by omega) (ok := fun j => (w.heap.size + 2 ≤ j ∧ ¬ D1 j) ∧ RowAt wr j) ⟨⟨by omega, HV.out.out⟩, HG.out.1.rowAt⟩ (fun y hy => NT.Ok.keep (HY.out y hy).1 (fun _ _ _ => rfl) (Nat.le_refl _) (fun j hj _ => ⟨⟨by have := hj.1.1; omega, hj.1.2⟩, hj.2⟩))).keep (fun j hj _ => fa j (by have := hj.1.1; omega)) (by rw [World.size_setCell]; exact Nat.le_refl _) (fun j hj _ => ⟨hj.1, hj.2.same (fa j (by have := hj.1.1; omega))⟩))
            (.inr ⟨_, rfl, al_of ys gb 0 rfl (fun y hy => (HY.out y hy).2)⟩) (by have := HM.out; rwa [show ME.F.map g (FT.f .nil) = .nil from rfl, app_nil] at this))
          rw [hnl] at FX
          obtain ⟨a0, a1, a2, a3, a4, a5, a6, a7, a8⟩ := hbx.cells
          have f8 := hbx.free.2.2.2.2.2.2.2.2
          clear hbx hbz fa KW1 hsb HK HV HG HY HM HI FIN XR KW hqe
          go_wp2_with fail
          refine FX.out.mono ?_
          rintro ev w5 ⟨oy, q0, q1, q2, q3, q4, q5, vy, Ay, ny, cy, rfl, hb5, hfin⟩
          have HF5 := Lib.hid hfin
          have HB5 := Lib.hid hb5
          obtain ⟨r0, r1, r2, r3, r4, r5, r6, r7, r8⟩ := hb5.cells
          obtain ⟨f0, f1, f2, f3, f4, f5, f6, f7, f8⟩ := hb5.free
          clear hfin hb5 FX
          go_wp2
          refine bodyPost_ret (apply_results _ rfl (by rw [nest_0]; exact HB5.out.put _ _ _ _ _ _ _ _ _)) rfl ?_
          rw [nest_0]
          exact HF5.out
end Go.Proofs.Ytpemamkhaiiaaaa
