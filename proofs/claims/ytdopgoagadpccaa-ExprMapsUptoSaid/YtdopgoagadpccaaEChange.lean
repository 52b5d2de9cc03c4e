/- The law's change of a node: no claim of its own. -/
import Derived.Test.YtdopgoagadpccaaECopy
namespace Go.Proofs.Ytdopgoagadpccaa
open Go.RowKit
open ME (F Nd)
/-- The first arguments. -/
def FT.take : Nat → FT → FT
  | 0, _ => .nil
  | _ + 1, .nil => .nil
  | n + 1, .cons o b v A c k r => .cons o b v A c k (r.take n)
theorem FT.take_f : ∀ (n : Nat) (t : FT), (t.take n).f = t.f.take n
  | 0, _ => by rfl
  | _ + 1, .nil => by rfl
  | n + 1, .cons o b v A c k r => by
    show ME.F.cons o b v k.f (r.take n).f = ME.F.cons o b v k.f (r.f.take n)
    rw [FT.take_f n r]
theorem FT.take_len : ∀ (n : Nat) (t : FT), n ≤ t.len → (t.take n).len = n
  | 0, _, _ => rfl
  | _ + 1, .nil, h => by simp [FT.len] at h
  | n + 1, .cons o b v A c k r, h => by
    show (r.take n).len + 1 = n + 1
    rw [FT.take_len n r (by simp only [FT.len] at h; omega)]
theorem FT.take_all : ∀ (n : Nat) (t : FT), t.len ≤ n → t.take n = t
  | 0, .nil, _ => rfl
  | 0, .cons _ _ _ _ _ _ _, h => by simp only [FT.len] at h; omega
  | _ + 1, .nil, _ => rfl
  | n + 1, .cons o b v A c k r, h => by
    show FT.cons o b v A c k (r.take n) = _
    rw [FT.take_all n r (by simp only [FT.len] at h; omega)]
theorem Lay.take {w : World} {ok : Nat → Prop} : ∀ (n : Nat) (t : FT) {a : Addr}, Lay w ok a t → Lay w ok a (t.take n)
  | 0, _, _, _ => trivial
  | _ + 1, .nil, _, _ => trivial
  | n + 1, .cons o b v A c k r, _, ⟨h1, h2, h3, h4, h5⟩ => ⟨h1, h2, h3, h4, Lay.take n r h5⟩
theorem Kids.take3 {w : World} {ok : Nat → Prop} {A : Option Addr} {c : Nat} {k : FT} (h : Kids w ok A c k) (h3 : 3 < k.len) : Kids w ok A c (k.take 3) := by
  have hl := FT.take_len 3 k (by omega)
  have := h.cap
  refine ⟨by omega, by omega, ?_⟩
  rcases h.lay with e | ⟨ad, e, hl⟩
  · rw [e] at h3; simp only [FT.len] at h3; omega
  · exact .inr ⟨ad, e, Lay.take 3 k hl⟩
theorem FT.al_take : ∀ (n : Nat) (t : FT) {a : Addr}, FT.al a t → FT.al a (t.take n)
  | 0, _, _, _ => trivial
  | _ + 1, .nil, _, _ => trivial
  | n + 1, .cons o b v A c k r, _, ⟨h1, h2, h3⟩ => ⟨h1, h2, FT.al_take n r h3⟩
def GivesC (d : Int) (x : NT) (ok : Nat → Prop) (w : World) (e : Ending) (w' : World) : Prop := ∃ y : NT, e = .returned y.val ∧ y.n = ME.changeN d x.n ∧ y.Ok w' ok ∧ (x.Al → y.Al) ∧ Below w.heap.size w w'
theorem addV_in : ∀ (f : F) (v : Int), In64 v → In64 (ME.addV v f)
  | .nil, v, h => h
  | .cons _ _ x _ r, v, _ => addV_in r _ (by unfold In64 wrap64; omega)
theorem change_results {w : World} {R1 : Nat} {z0 z1 z2 z3 z4 z5 z6 z7 z8 : Value} (tmps : Array Value) (h2 : tmps.getD 4 undef = .pointer (some ⟨R1, 0, none⟩)) (b1 : B9 w R1 z0 z1 z2 z3 z4 z5 z6 z7 z8) :
    (results Try.f29 tmps).run Try.prog w = .ok (.agg #[z0, z1, z2, z3, z4, z5, z6, z7, z8]) w := by
  have h2' : tmps[4]?.getD undef = .pointer (some ⟨R1, 0, none⟩) := by simpa using h2
  obtain ⟨r0, r1, r2, r3, r4, r5, r6, r7, r8⟩ := b1.cells
  simp [results, Try.results29, h2', go_sem, r0, r1, r2, r3, r4, r5, r6, r7, r8]
theorem below_sets {w wr : World} {n g o : Nat} {l : List Value} (h : Below n w wr) (hg : n ≤ g) : Below n w (sets wr g o l) := by
  obtain ⟨e1, e2, e3, e4⟩ := sets_same (g := g) l wr o
  exact ⟨e1.trans h.os, e2.trans h.tape, e3.trans h.output, by rw [e4]; exact h.size, fun j hj => (sets_far (by omega) _ _ _).trans (h.block j hj)⟩
set_option maxRecDepth 100000 in
set_option maxHeartbeats 8000000 in
theorem change_any (x : NT) (d : Int) (w : World) (ok : Nat → Prop) (hok : x.Ok w ok) : Calls Try.prog 29 #[x.val, .int .i64 d] w (GivesC d x ok w) := by
  have HO := Lib.hid hok
  obtain ⟨o, b, v, A, c, k⟩ := x
  obtain ⟨x0, x1, x2, x3, x4, x5, rfl⟩ := six hok.six
  have hn := hok.kids.few
  have hcp := hok.kids.cap
  have HR0 : Hid (Rest w (fun j => ok j ∧ j < w.heap.size) A 0 k k.len) := Lib.hid (hok.kids.rest.keep (fun _ _ _ => rfl) (Nat.le_refl _) (fun j h hk => ⟨h, hk⟩))
  have hs1 : (w.alloc (.cells #[.int .i64 o, .int .i64 x0, .int .i64 x1, .int .i64 x2, .int .i64 x3, .int .i64 x4, .int .i64 x5, .int .i64 v, .slice A k.len c] 26)).heap.size = w.heap.size + 1 := by simp
  have HB := Lib.hid ((below_new w (.cells #[.int .i64 o, .int .i64 x0, .int .i64 x1, .int .i64 x2, .int .i64 x3, .int .i64 x4, .int .i64 x5, .int .i64 v, .slice A k.len c] 26)).alloc (by rw [hs1]; omega) (.cells #[.int .i64 0, .int .i64 0, .int .i64 0, .int .i64 0, .int .i64 0, .int .i64 0, .int .i64 0, .int .i64 0, .slice none 0 0] 26))
  have X0 : Hid (B9 ((w.alloc (.cells #[.int .i64 o, .int .i64 x0, .int .i64 x1, .int .i64 x2, .int .i64 x3, .int .i64 x4, .int .i64 x5, .int .i64 v, .slice A k.len c] 26)).alloc (.cells #[.int .i64 0, .int .i64 0, .int .i64 0, .int .i64 0, .int .i64 0, .int .i64 0, .int .i64 0, .int .i64 0, .slice none 0 0] 26)) w.heap.size (.int .i64 o) (.int .i64 x0) (.int .i64 x1) (.int .i64 x2) (.int .i64 x3) (.int .i64 x4) (.int .i64 x5) (.int .i64 v) (.slice A k.len c)) := Lib.hid ((Below.heap_alloc _ _ _ (by rw [hs1]; omega)).trans (heap_new _ _))
  have R0 : Hid (B9 ((w.alloc (.cells #[.int .i64 o, .int .i64 x0, .int .i64 x1, .int .i64 x2, .int .i64 x3, .int .i64 x4, .int .i64 x5, .int .i64 v, .slice A k.len c] 26)).alloc (.cells #[.int .i64 0, .int .i64 0, .int .i64 0, .int .i64 0, .int .i64 0, .int .i64 0, .int .i64 0, .int .i64 0, .slice none 0 0] 26)) (w.heap.size + 1) (.int .i64 0) (.int .i64 0) (.int .i64 0) (.int .i64 0) (.int .i64 0) (.int .i64 0) (.int .i64 0) (.int .i64 0) (.slice none 0 0)) := Lib.hid (by have := heap_new (w.alloc (.cells #[.int .i64 o, .int .i64 x0, .int .i64 x1, .int .i64 x2, .int .i64 x3, .int .i64 x4, .int .i64 x5, .int .i64 v, .slice A k.len c] 26)) (.cells #[.int .i64 0, .int .i64 0, .int .i64 0, .int .i64 0, .int .i64 0, .int .i64 0, .int .i64 0, .int .i64 0, .slice none 0 0] 26); rwa [hs1] at this)
  have hv64 := hok.v64
  rw [NT.val_lit]
  clear hok hs1
  obtain ⟨W0, hW0⟩ : ∃ W0, W0 = (w.alloc (.cells #[.int .i64 o, .int .i64 x0, .int .i64 x1, .int .i64 x2, .int .i64 x3, .int .i64 x4, .int .i64 x5, .int .i64 v, .slice A k.len c] 26)).alloc (.cells #[.int .i64 0, .int .i64 0, .int .i64 0, .int .i64 0, .int .i64 0, .int .i64 0, .int .i64 0, .int .i64 0, .slice none 0 0] 26) := ⟨_, rfl⟩
  rw [← hW0] at HB X0 R0
  have hsz := HB.out.size
  go_enter Try.func29, Try.ntmps29
  go_upto_region 1 with (fail)
  rw [← hW0]
  clear hW0
  obtain ⟨a0, a1, a2, a3, a4, a5, a6, a7, a8⟩ := X0.out.cells
  have f7 := X0.out.free.2.2.2.2.2.2.2.1
  go_upto_region 2 with (fail)
  clear a0 a1 a2 a3 a4 a5 a6 a7 a8 f7
  obtain ⟨V0, hV0⟩ : ∃ V0, V0 = wrap64 (v + d) := ⟨_, rfl⟩
  have HV0 := Lib.hid hV0
  rw [← hV0]
  have X1 : Hid (B9 (W0.setCell ⟨w.heap.size, 7, none⟩ (.int .i64 V0)) w.heap.size (.int .i64 o) (.int .i64 x0) (.int .i64 x1) (.int .i64 x2) (.int .i64 x3) (.int .i64 x4) (.int .i64 x5) (.int .i64 V0) (.slice A k.len c)) := Lib.hid (X0.out.set7 _)
  have Z1 : Hid (B9 (W0.setCell ⟨w.heap.size, 7, none⟩ (.int .i64 V0)) (w.heap.size + 1) (.int .i64 0) (.int .i64 0) (.int .i64 0) (.int .i64 0) (.int .i64 0) (.int .i64 0) (.int .i64 0) (.int .i64 0) (.slice none 0 0)) := Lib.hid (R0.out.same (Below.heap_setCell _ _ _ _ (by show w.heap.size + 1 ≠ w.heap.size; omega)))
  have B1 : Hid (Below w.heap.size w (W0.setCell ⟨w.heap.size, 7, none⟩ (.int .i64 V0))) := Lib.hid (HB.out.setCell (p := ⟨w.heap.size, 7, none⟩) (Nat.le_refl _) _)
  obtain ⟨W1, hW1⟩ : ∃ W1, W1 = W0.setCell ⟨w.heap.size, 7, none⟩ (.int .i64 V0) := ⟨_, rfl⟩
  rw [← hW1] at X1 Z1 B1 ⊢
  clear hW1 HB X0 R0 hV0 hsz
  have HR1 := Lib.hid (HR0.out.keep (w' := W1) (ok' := fun j => ok j ∧ j < w.heap.size) (fun j h _ => B1.out.block j h.2) B1.out.size (fun _ h _ => h))
  clear HR0
  obtain ⟨a0, a1, a2, a3, a4, a5, a6, a7, a8⟩ := X1.out.cells
  go_wp2
  clear a0 a1 a2 a3 a4 a5 a6 a7 a8
  go_loopw [15] (fun i wr => ∃ (q : Nat) (rs : FT) (u : Int), q ≤ k.len ∧ i = .int .i64 q ∧ Hid (B9 wr w.heap.size (.int .i64 o) (.int .i64 x0) (.int .i64 x1) (.int .i64 x2) (.int .i64 x3) (.int .i64 x4) (.int .i64 x5) (.int .i64 u) (.slice A k.len c)) ∧ Hid (B9 wr (w.heap.size + 1) (.int .i64 0) (.int .i64 0) (.int .i64 0) (.int .i64 0) (.int .i64 0) (.int .i64 0) (.int .i64 0) (.int .i64 0) (.slice none 0 0)) ∧ Hid (Rest wr (fun j => ok j ∧ j < w.heap.size) A q rs k.len) ∧ Hid (Below w.heap.size w wr) ∧ Hid (ME.addV u rs.f = ME.addV V0 k.f)) (fun i _ => k.len - (intOf i).toNat)
  case atStart => exact ⟨0, k, V0, Nat.zero_le _, rfl, X1, Z1, HR1, B1, Lib.hid rfl⟩
  case round =>
    clear X1 Z1 HR1 B1
    obtain ⟨q, rs, u, hq, rfl, HX, HZ, HK, BQ, HA⟩ := hrel
    by_cases hlt : q < k.len
    · obtain ⟨ad, o', y0, y1, y2, y3, y4, y5, v', A', c', k', r', rfl, rfl, hok', hnx, hbk, _, z0, z1, z2, z3, z4, z5, z6, z7, z8⟩ := HK.out.open_ hlt
      have HN := Lib.hid hnx
      have HA2 : Hid (ME.addV (wrap64 (wrap64 (u * 3) + v')) r'.f = ME.addV V0 k.f) := Lib.hid (by rw [← HA.out]; rfl)
      clear hok' hnx HK HA
      have hlt' : (q : Int) < (k.len : Int) := by omega
      have hwr := BQ.out.size
      obtain ⟨W5, hW5⟩ : ∃ W5, W5 = wr.alloc (.cells #[.int .i64 o', .int .i64 y0, .int .i64 y1, .int .i64 y2, .int .i64 y3, .int .i64 y4, .int .i64 y5, .int .i64 v', .slice A' k'.len c'] 26) := ⟨_, rfl⟩
      have BW5 := Lib.hid (below_new wr (.cells #[.int .i64 o', .int .i64 y0, .int .i64 y1, .int .i64 y2, .int .i64 y3, .int .i64 y4, .int .i64 y5, .int .i64 v', .slice A' k'.len c'] 26))
      have Y5 : Hid (B9 (wr.alloc (.cells #[.int .i64 o', .int .i64 y0, .int .i64 y1, .int .i64 y2, .int .i64 y3, .int .i64 y4, .int .i64 y5, .int .i64 v', .slice A' k'.len c'] 26)) wr.heap.size (.int .i64 o') (.int .i64 y0) (.int .i64 y1) (.int .i64 y2) (.int .i64 y3) (.int .i64 y4) (.int .i64 y5) (.int .i64 v') (.slice A' k'.len c')) := Lib.hid (heap_new _ _)
      rw [← hW5] at BW5 Y5
      go_upto_region 5 with (fail)
      rw [← hW5]
      clear hW5 z0 z1 z2 z3 z4 z5 z6 z7 z8
      have X5 := Lib.hid (HX.out.keep BW5.out)
      have Z5 := Lib.hid (HZ.out.keep BW5.out)
      have HN5 := Lib.hid (HN.out.below BW5.out)
      have B5 := Lib.hid (BQ.out.trans (BW5.out.mono BQ.out.size))
      obtain ⟨a0, a1, a2, a3, a4, a5, a6, a7, a8⟩ := X5.out.cells
      obtain ⟨b0, b1, b2, b3, b4, b5, b6, b7, b8⟩ := Y5.out.cells
      have f7 := X5.out.free.2.2.2.2.2.2.2.1
      clear BW5 HX HZ HN BQ
      go_wp2
      clear a0 a1 a2 a3 a4 a5 a6 a7 a8 b0 b1 b2 b3 b4 b5 b6 b7 b8 f7
      go_roundw
      case rel => exact ⟨q + 1, r', _, by omega, by go_num, Lib.hid (X5.out.set7 _), Lib.hid (Z5.out.same (Below.heap_setCell _ _ _ _ (by show w.heap.size + 1 ≠ w.heap.size; omega))), Lib.hid (HN5.out.keep (fun j h _ => Below.heap_setCell _ _ _ _ (by show j ≠ w.heap.size; have := h.2; omega)) (by rw [World.size_setCell]; exact Nat.le_refl _) (fun _ h _ => h)), Lib.hid (B5.out.setCell (p := ⟨w.heap.size, 7, none⟩) (Nat.le_refl _) _), HA2⟩
      case measure => simp [intOf]; omega
    · obtain ⟨rfl, _⟩ := HK.out.end_ hlt
      have hlt' : ¬ (q : Int) < (k.len : Int) := by omega
      have HU : Hid (u = ME.addV V0 k.f) := Lib.hid (by rw [← HA.out]; rfl)
      have HU64 : Hid (In64 u) := Lib.hid (by rw [HU.out]; exact addV_in _ _ (by rw [HV0.out]; unfold In64 wrap64; omega))
      have HN : Hid ((⟨o, [x0, x1, x2, x3, x4, x5], u, k.f.take 3⟩ : Nd) = ME.changeN d (NT.n ⟨o, [x0, x1, x2, x3, x4, x5], v, A, c, k⟩)) := Lib.hid (by rw [HU.out, HV0.out]; rfl)
      clear HK HA
      obtain ⟨a0, a1, a2, a3, a4, a5, a6, a7, a8⟩ := HX.out.cells
      by_cases h3 : 3 < k.len
      · have i3 : (3 : Int) < (k.len : Int) := by omega
        have d3 : decide ((3 : Int) < (k.len : Int)) = true := decide_eq_true i3
        obtain ⟨ad, rfl⟩ : ∃ ad, A = some ad := by
          rcases HO.out.kids.lay with e | ⟨ad, e, _⟩
          · have e : k = .nil := e
            rw [e] at h3; simp only [FT.len] at h3; omega
          · exact ⟨ad, e⟩
        have f8 := HX.out.free.2.2.2.2.2.2.2.2
        go_upto_region 9 with (fail)
        have X9_ := Lib.hid (HX.out.set8 (.slice (some ad) 3 c))
        have Z9_ : Hid (B9 (wr.setCell ⟨w.heap.size, 8, none⟩ (.slice (some ad) 3 c)) (w.heap.size + 1) (.int .i64 0) (.int .i64 0) (.int .i64 0) (.int .i64 0) (.int .i64 0) (.int .i64 0) (.int .i64 0) (.int .i64 0) (.slice none 0 0)) := Lib.hid (HZ.out.same (Below.heap_setCell _ _ _ _ (by show w.heap.size + 1 ≠ w.heap.size; omega)))
        have B9_ := Lib.hid (BQ.out.setCell (p := ⟨w.heap.size, 8, none⟩) (Nat.le_refl _) (.slice (some ad) 3 c))
        obtain ⟨W9, hW9⟩ : ∃ W9, W9 = wr.setCell ⟨w.heap.size, 8, none⟩ (.slice (some ad) 3 c) := ⟨_, rfl⟩
        rw [← hW9] at X9_ Z9_ B9_ ⊢
        clear hW9 HX HZ BQ a0 a1 a2 a3 a4 a5 a6 a7 a8 f8
        have HZ := Z9_
        have BQ := B9_
        clear Z9_ B9_
        obtain ⟨a0, a1, a2, a3, a4, a5, a6, a7, a8⟩ := X9_.out.cells
        obtain ⟨r0, r1, r2, r3, r4, r5, r6, r7, r8⟩ := HZ.out.cells
        obtain ⟨f0, f1, f2, f3, f4, f5, f6, f7, f8⟩ := HZ.out.free
        go_wp2
        refine bodyPost_ret (change_results _ rfl (by rw [nest_0]; exact HZ.out.put _ _ _ _ _ _ _ _ _)) rfl ?_
        rw [nest_0]
        have BF := below_sets (o := 0) (l := [.int .i64 o, .int .i64 x0, .int .i64 x1, .int .i64 x2, .int .i64 x3, .int .i64 x4, .int .i64 x5, .int .i64 u, .slice (some ad) 3 c]) BQ.out (show w.heap.size ≤ w.heap.size + 1 by omega)
        exact ⟨⟨o, [x0, x1, x2, x3, x4, x5], u, some ad, c, (k.take 3)⟩, by rw [NT.val_lit, FT.take_len 3 k (by omega)], (by rw [← HN.out]; show Nd.mk _ _ _ (k.take 3).f = _; rw [FT.take_f]), ⟨rfl, HO.out.o64, HU64.out, HO.out.b64, (HO.out.kids.below BF).take3 h3⟩, (fun hal => by rcases hal with e | ⟨a2, e, h2⟩; (have e : k = .nil := e; rw [e] at h3; simp only [FT.len] at h3; omega); exact .inr ⟨a2, e, FT.al_take 3 k h2⟩), BF⟩
      · have i3 : ¬ (3 : Int) < (k.len : Int) := by omega
        have d3 : decide ((3 : Int) < (k.len : Int)) = false := decide_eq_false i3
        go_upto_region 9 with (fail)
        clear a0 a1 a2 a3 a4 a5 a6 a7 a8
        obtain ⟨a0, a1, a2, a3, a4, a5, a6, a7, a8⟩ := HX.out.cells
        obtain ⟨r0, r1, r2, r3, r4, r5, r6, r7, r8⟩ := HZ.out.cells
        obtain ⟨f0, f1, f2, f3, f4, f5, f6, f7, f8⟩ := HZ.out.free
        go_wp2
        refine bodyPost_ret (change_results _ rfl (by rw [nest_0]; exact HZ.out.put _ _ _ _ _ _ _ _ _)) rfl ?_
        rw [nest_0]
        have BF := below_sets (o := 0) (l := [.int .i64 o, .int .i64 x0, .int .i64 x1, .int .i64 x2, .int .i64 x3, .int .i64 x4, .int .i64 x5, .int .i64 u, .slice A k.len c]) BQ.out (show w.heap.size ≤ w.heap.size + 1 by omega)
        exact ⟨⟨o, [x0, x1, x2, x3, x4, x5], u, A, c, k⟩, rfl, (by rw [← HN.out]; show Nd.mk _ _ _ k.f = _; rw [← FT.take_f, FT.take_all 3 k (by omega)]), ⟨rfl, HO.out.o64, HU64.out, HO.out.b64, HO.out.kids.below BF⟩, (fun h => h), BF⟩
end Go.Proofs.Ytdopgoagadpccaa
