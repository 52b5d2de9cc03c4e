/- The walk of ExprMaps: no claim of its own. -/
import Derived.Test.YtdopgoagadpccaaEAwk
import Derived.Test.YtdopgoagadpccaaEMaps1
import Derived.Test.YtdopgoagadpccaaEMapped
namespace Go.Proofs.Ytdopgoagadpccaa
open Go.RowKit
open ME (F Nd)
theorem take_size : ∀ (n : Nat) (f : F), (f.take n).size ≤ f.size
  | 0, f => by show ME.F.size .nil ≤ _; exact Nat.zero_le _
  | _ + 1, .nil => Nat.le_refl _
  | n + 1, .cons o b v k r => by
    have := take_size n r
    show (ME.F.cons o b v k (r.take n)).size ≤ _
    simp only [ME.F.size]; omega
theorem map_size (d : Int) : ∀ f : F, (f.map (ME.changeN d)).size ≤ f.size
  | .nil => Nat.le_refl _
  | .cons o b v k r => by
    have h1 := take_size 3 (k.map (ME.changeN d))
    have h2 := map_size d k
    have h3 := map_size d r
    show (ME.F.cons o b _ ((k.map (ME.changeN d)).take 3) (r.map (ME.changeN d))).size ≤ _
    simp only [ME.F.size]; omega
theorem mapN_size (d : Int) (n : Nd) : (n.map (ME.changeN d)).size ≤ n.size := by
  have h1 := take_size 3 (n.k.map (ME.changeN d))
  have h2 := map_size d n.k
  show ((n.k.map (ME.changeN d)).take 3).size + 1 ≤ n.k.size + 1
  omega
theorem NT.Ok.all {x : NT} {w : World} {ok : Nat → Prop} (h : x.Ok w ok) : x.Ok w (fun _ => True) := h.keep (fun _ _ _ => rfl) (Nat.le_refl _) (fun _ _ _ => trivial)
theorem equal_yes (x y : NT) (w : World) (hx : x.Ok w (fun _ => True)) (hy : y.Ok w (fun _ => True)) (h : x.n = y.n) : Calls Try.prog 21 #[x.val, y.val] w (Gives (.bool true) w) := by
  have := requal_any _ x y (Nat.le_refl _) w _ _ hx hy
  rw [h, ME.eqN_self] at this
  exact this
set_option maxRecDepth 100000 in
set_option maxHeartbeats 8000000 in
theorem exprMaps_walk (x : NT) (d : Int) (w : World) (hx : 2 * x.size ≤ 1048576) (hox : x.Ok w (fun _ => True)) : Calls Try.prog 8 #[x.val, .int .i64 d] w (Gives (.bool true) w) := by
  have FX := Lib.hid (fun w' (hb : Below w.heap.size w w') => few_any x (by omega) w' _ (hox.below hb))
  have KC := Lib.hid (fun w' (hb : Below w.heap.size w w') => copy_any x (by omega) w' _ (hox.below hb))
  have HMS : (x.n.map (ME.changeN d)).size ≤ 2000000 := Nat.le_trans (mapN_size d x.n) (by rw [NT.size_n]; omega)
  have KM := Lib.hid (fun (g1 gk : Nat) (w' : World) (hb : Below w.heap.size w w') (hi : InM g1 gk d 0 (fun k => k = g1 ∨ k = gk) w') (h1 : w.heap.size ≤ g1) (h2 : w.heap.size ≤ gk) => map_any (maps1_acts g1 gk d) x (by omega) HMS 0 _ w' hi (hox.keep (fun j _ hj => hb.block j hj) hb.size (fun j _ hj => by rintro (e | e) <;> omega)))
  have KI := Lib.hid (fun w' (hb : Below w.heap.size w w') => map_any maps2_acts x (by omega) (by rw [ME.Nd.map_id, NT.size_n]; omega) () (fun _ => False) w' rfl ((hox.below hb).keep (fun _ _ _ => rfl) (Nat.le_refl _) (fun _ _ _ => not_false)))
  have KP := Lib.hid (fun w' (hb : Below w.heap.size w w') => mapped_any d 1000000 (Nat.le_refl _) x (by omega) w' _ (hox.below hb))
  have KS := Lib.hid (fun w' (hb : Below w.heap.size w w') => rsize_any x (by omega) w' _ (hox.below hb))
  have KN := Lib.hid (fun w' (hb : Below w.heap.size w w') => map_nil x (by omega) w' _ (hox.below hb))
  have KO := Lib.hid (fun w' (hb : Below w.heap.size w w') => hox.below hb)
  have AW := Lib.hid awake_any
  have hmo : Try.prog.follows .mixedOrders = true := by kernel_rfl
  obtain ⟨o, b, v, A, c, k⟩ := x
  obtain ⟨x0, x1, x2, x3, x4, x5, rfl⟩ := six hox.six
  have hs1 : (w.alloc (.cells #[.int .i64 o, .int .i64 x0, .int .i64 x1, .int .i64 x2, .int .i64 x3, .int .i64 x4, .int .i64 x5, .int .i64 v, .slice A k.len c] 26)).heap.size = w.heap.size + 1 := by simp
  have HB := Lib.hid ((below_new w (.cells #[.int .i64 o, .int .i64 x0, .int .i64 x1, .int .i64 x2, .int .i64 x3, .int .i64 x4, .int .i64 x5, .int .i64 v, .slice A k.len c] 26)).alloc (by rw [hs1]; omega) (.cells #[.int .i64 d] 2))
  have X0 : Hid (B9 ((w.alloc (.cells #[.int .i64 o, .int .i64 x0, .int .i64 x1, .int .i64 x2, .int .i64 x3, .int .i64 x4, .int .i64 x5, .int .i64 v, .slice A k.len c] 26)).alloc (.cells #[.int .i64 d] 2)) w.heap.size (.int .i64 o) (.int .i64 x0) (.int .i64 x1) (.int .i64 x2) (.int .i64 x3) (.int .i64 x4) (.int .i64 x5) (.int .i64 v) (.slice A k.len c)) := Lib.hid ((Below.heap_alloc _ _ _ (by rw [hs1]; omega)).trans (heap_new _ _))
  have D0 : Hid (V1 ((w.alloc (.cells #[.int .i64 o, .int .i64 x0, .int .i64 x1, .int .i64 x2, .int .i64 x3, .int .i64 x4, .int .i64 x5, .int .i64 v, .slice A k.len c] 26)).alloc (.cells #[.int .i64 d] 2)) (w.heap.size + 1) 2 (.int .i64 d)) := Lib.hid (by have := V1.new (w.alloc (.cells #[.int .i64 o, .int .i64 x0, .int .i64 x1, .int .i64 x2, .int .i64 x3, .int .i64 x4, .int .i64 x5, .int .i64 v, .slice A k.len c] 26)) 2 (.int .i64 d); rwa [hs1] at this)
  rw [NT.val_lit] at FX KC KM KI KP KS KN
  rw [NT.val_lit]
  clear hox hs1 HMS
  obtain ⟨W0, hW0⟩ : ∃ W0, W0 = (w.alloc (.cells #[.int .i64 o, .int .i64 x0, .int .i64 x1, .int .i64 x2, .int .i64 x3, .int .i64 x4, .int .i64 x5, .int .i64 v, .slice A k.len c] 26)).alloc (.cells #[.int .i64 d] 2) := ⟨_, rfl⟩
  rw [← hW0] at HB X0 D0
  obtain ⟨a0, a1, a2, a3, a4, a5, a6, a7, a8⟩ := X0.out.cells
  go_enter Try.func8, Try.ntmps8
  go_upto_region 1 with (fail)
  rw [← hW0]
  clear hW0
  go_wp2_with fail
  refine (FX.out _ HB.out).mono ?_
  rintro ev w1 ⟨rfl, hb⟩
  have B1 := Lib.hid (HB.out.trans (hb.mono HB.out.size))
  have X1 := Lib.hid (X0.out.keep hb)
  have D1 := Lib.hid (D0.out.keep hb)
  clear hb X0 D0 HB FX a0 a1 a2 a3 a4 a5 a6 a7 a8
  by_cases h1 : NT.size ⟨o, [x0, x1, x2, x3, x4, x5], v, A, c, k⟩ ≤ 400
  case neg =>
    rw [decide_eq_false h1]
    clear KC KM KI KP KS KN KO X1 D1
    go_wp2_with fail
    refine (AW.out _).mono ?_
    rintro ev wz ⟨rfl, hb⟩
    have BZ := Lib.hid (B1.out.trans (hb.mono B1.out.size))
    clear hb
    go_wp2
    go_ret
    exact ⟨rfl, BZ.out⟩
  rw [decide_eq_true h1]
  obtain ⟨a0, a1, a2, a3, a4, a5, a6, a7, a8⟩ := X1.out.cells
  go_wp2_with fail
  refine (KC.out _ B1.out).mono ?_
  rintro ev w2 ⟨y, rfl, hyn, hyo, _, hb⟩
  obtain ⟨oc, bc, vc, Ac, cc, kc⟩ := y
  obtain ⟨c0, c1, c2, c3, c4, c5, rfl⟩ := six hyo.six
  rw [NT.val_lit]
  have B2 := Lib.hid (B1.out.trans (hb.mono B1.out.size))
  have X2 := Lib.hid (X1.out.keep hb)
  have D2 := Lib.hid (D1.out.keep hb)
  have CN := Lib.hid hyn
  have CO := Lib.hid (hyo.keep (w' := w2) (ok' := fun k => w1.heap.size ≤ k ∧ k < w2.heap.size) (fun _ _ _ => rfl) (Nat.le_refl _) (fun _ q hk => ⟨q, hk⟩))
  have hl1 : w.heap.size + 1 < w1.heap.size := D1.out.lt
  have hl2 : w1.heap.size ≤ w2.heap.size := hb.size
  clear hb hyn hyo X1 D1 B1 KC a0 a1 a2 a3 a4 a5 a6 a7 a8
  have hq1 : (w2.alloc (.cells #[.int .i64 oc, .int .i64 c0, .int .i64 c1, .int .i64 c2, .int .i64 c3, .int .i64 c4, .int .i64 c5, .int .i64 vc, .slice Ac kc.len cc] 26)).heap.size = w2.heap.size + 1 := by simp
  have B3 := Lib.hid ((B2.out.alloc B2.out.size (.cells #[.int .i64 oc, .int .i64 c0, .int .i64 c1, .int .i64 c2, .int .i64 c3, .int .i64 c4, .int .i64 c5, .int .i64 vc, .slice Ac kc.len cc] 26)).alloc (by rw [hq1]; omega) (.cells #[.int .i64 0] 3))
  have BW3 : Hid (Below w2.heap.size w2 ((w2.alloc (.cells #[.int .i64 oc, .int .i64 c0, .int .i64 c1, .int .i64 c2, .int .i64 c3, .int .i64 c4, .int .i64 c5, .int .i64 vc, .slice Ac kc.len cc] 26)).alloc (.cells #[.int .i64 0] 3))) := Lib.hid ((below_new w2 (.cells #[.int .i64 oc, .int .i64 c0, .int .i64 c1, .int .i64 c2, .int .i64 c3, .int .i64 c4, .int .i64 c5, .int .i64 vc, .slice Ac kc.len cc] 26)).alloc (by rw [hq1]; omega) (.cells #[.int .i64 0] 3))
  have C3 : Hid (B9 ((w2.alloc (.cells #[.int .i64 oc, .int .i64 c0, .int .i64 c1, .int .i64 c2, .int .i64 c3, .int .i64 c4, .int .i64 c5, .int .i64 vc, .slice Ac kc.len cc] 26)).alloc (.cells #[.int .i64 0] 3)) w2.heap.size (.int .i64 oc) (.int .i64 c0) (.int .i64 c1) (.int .i64 c2) (.int .i64 c3) (.int .i64 c4) (.int .i64 c5) (.int .i64 vc) (.slice Ac kc.len cc)) := Lib.hid ((Below.heap_alloc _ _ _ (by rw [hq1]; omega)).trans (heap_new _ _))
  have N3 : Hid (V1 ((w2.alloc (.cells #[.int .i64 oc, .int .i64 c0, .int .i64 c1, .int .i64 c2, .int .i64 c3, .int .i64 c4, .int .i64 c5, .int .i64 vc, .slice Ac kc.len cc] 26)).alloc (.cells #[.int .i64 0] 3)) (w2.heap.size + 1) 3 (.int .i64 0)) := Lib.hid (by have := V1.new (w2.alloc (.cells #[.int .i64 oc, .int .i64 c0, .int .i64 c1, .int .i64 c2, .int .i64 c3, .int .i64 c4, .int .i64 c5, .int .i64 vc, .slice Ac kc.len cc] 26)) 3 (.int .i64 0); rwa [hq1] at this)
  clear hq1
  go_upto_region 4 with (fail)
  obtain ⟨W3, hW3⟩ : ∃ W3, W3 = (w2.alloc (.cells #[.int .i64 oc, .int .i64 c0, .int .i64 c1, .int .i64 c2, .int .i64 c3, .int .i64 c4, .int .i64 c5, .int .i64 vc, .slice Ac kc.len cc] 26)).alloc (.cells #[.int .i64 0] 3) := ⟨_, rfl⟩
  rw [← hW3] at B3 BW3 C3 N3 ⊢
  clear hW3
  have X3 := Lib.hid (X2.out.keep BW3.out)
  have D3 := Lib.hid (D2.out.keep BW3.out)
  have CO3 := Lib.hid (CO.out.below BW3.out)
  have hw3 := BW3.out.size
  have hg3 := N3.out.lt
  obtain ⟨gc, hgc⟩ : ∃ gc, gc = w2.heap.size := ⟨_, rfl⟩
  obtain ⟨g1, hg1⟩ : ∃ g1, g1 = w2.heap.size + 1 := ⟨_, rfl⟩
  obtain ⟨gk, hgk⟩ : ∃ gk, gk = w.heap.size + 1 := ⟨_, rfl⟩
  rw [← hg1] at N3 ⊢
  rw [← hgk] at D3 ⊢
  rw [← hgc] at C3 ⊢
  have KM3 := Lib.hid (KM.out g1 gk W3 B3.out ⟨rfl, by omega, N3.out, D3.out⟩ (by omega) (by omega))
  have HG : Hid (w.heap.size < gk ∧ gk < w1.heap.size ∧ w1.heap.size ≤ gc ∧ gc < g1 ∧ w2.heap.size = gc ∧ gc < W3.heap.size) := Lib.hid (by refine ⟨?_, ?_, ?_, ?_, ?_, ?_⟩ <;> omega)
  clear hg1 hgk hgc hl1 hl2 hw3 hg3 X2 D2 CO BW3 B2 KM
  obtain ⟨a0, a1, a2, a3, a4, a5, a6, a7, a8⟩ := X3.out.cells
  go_wp2_with fail
  refine KM3.out.mono ?_
  rintro ev w4 ⟨y, D', rfl, hyn, hyo, _, hv⟩
  have hcnt := hv.inv.cnt
  rw [itr_nxM _ 0 (Int.le_refl _) (by omega), Int.zero_add] at hcnt
  have N4 := Lib.hid hcnt
  have D4 := Lib.hid hv.inv.num
  have far : ∀ j, j < W3.heap.size → j ≠ g1 → j ≠ gk → w4.heap[j]? = W3.heap[j]? := fun j hj h1 h2 => hv.kx.block j hj (by rintro (e | e) <;> contradiction)
  have hG := HG.out
  have X4 := Lib.hid (X3.out.same (far _ X3.out.lt (by omega) (by omega)))
  have C4 := Lib.hid (C3.out.same (far _ C3.out.lt (by omega) (by omega)))
  have CO4 := Lib.hid ((CO3.out.keep (w' := w4) (ok' := fun _ => True) (fun j q hj => far j hj (by omega) (by omega)) hv.kx.size (fun _ _ _ => trivial)))
  have B4 := Lib.hid (show Below w.heap.size w w4 from ⟨hv.kx.os.trans B3.out.os, hv.kx.tape.trans B3.out.tape, hv.kx.output.trans B3.out.output, Nat.le_trans B3.out.size hv.kx.size, fun j hj => (far j (Nat.lt_of_lt_of_le hj B3.out.size) (by omega) (by omega)).trans (B3.out.block j hj)⟩)
  obtain ⟨oy, by_, vy, Ay, cy, ky⟩ := y
  obtain ⟨y0, y1, y2, y3, y4, y5, rfl⟩ := six hyo.six
  rw [NT.val_lit]
  have YN := Lib.hid hyn
  have YO := Lib.hid hyo.all
  clear hcnt hv far hG hyn hyo KM3 X3 C3 CO3 N3 D3 B3 a0 a1 a2 a3 a4 a5 a6 a7 a8
  have C5 : Hid (B9 (w4.alloc (.cells #[.int .i64 oy, .int .i64 y0, .int .i64 y1, .int .i64 y2, .int .i64 y3, .int .i64 y4, .int .i64 y5, .int .i64 vy, .slice Ay ky.len cy] 26)) w4.heap.size (.int .i64 oy) (.int .i64 y0) (.int .i64 y1) (.int .i64 y2) (.int .i64 y3) (.int .i64 y4) (.int .i64 y5) (.int .i64 vy) (.slice Ay ky.len cy)) := Lib.hid (heap_new _ _)
  have BW5 := Lib.hid (below_new w4 (.cells #[.int .i64 oy, .int .i64 y0, .int .i64 y1, .int .i64 y2, .int .i64 y3, .int .i64 y4, .int .i64 y5, .int .i64 vy, .slice Ay ky.len cy] 26))
  go_upto_region 5 with (fail)
  obtain ⟨W5, hW5⟩ : ∃ W5, W5 = w4.alloc (.cells #[.int .i64 oy, .int .i64 y0, .int .i64 y1, .int .i64 y2, .int .i64 y3, .int .i64 y4, .int .i64 y5, .int .i64 vy, .slice Ay ky.len cy] 26) := ⟨_, rfl⟩
  rw [← hW5] at C5 BW5 ⊢
  clear hW5
  have X5 := Lib.hid (X4.out.keep BW5.out)
  have D5 := Lib.hid (D4.out.keep BW5.out)
  have K5 := Lib.hid (C4.out.keep BW5.out)
  have N5 := Lib.hid (N4.out.keep BW5.out)
  have YO5 := Lib.hid (YO.out.below BW5.out)
  have CO5 := Lib.hid (CO4.out.below BW5.out)
  have B5 := Lib.hid (B4.out.trans (BW5.out.mono B4.out.size))
  clear X4 D4 C4 N4 YO CO4 B4 BW5
  generalize w4.heap.size = gy at *
  obtain ⟨a0, a1, a2, a3, a4, a5, a6, a7, a8⟩ := X5.out.cells
  go_wp2_with fail
  refine (KI.out _ B5.out).mono ?_
  rintro ev w6 ⟨y, D', rfl, hyn, hyo, _, hv⟩
  have hb := below_of_no hv.kx (fun _ h => h)
  obtain ⟨oz, bz, vz, Az, cz, kz⟩ := y
  obtain ⟨z0, z1, z2, z3, z4, z5, rfl⟩ := six hyo.six
  rw [NT.val_lit]
  rw [ME.Nd.map_id] at hyn
  have ZN := Lib.hid hyn
  have ZO := Lib.hid hyo.all
  have X6 := Lib.hid (X5.out.keep hb)
  have D6 := Lib.hid (D5.out.keep hb)
  have K6 := Lib.hid (K5.out.keep hb)
  have N6 := Lib.hid (N5.out.keep hb)
  have C6 := Lib.hid (C5.out.keep hb)
  have YO6 := Lib.hid (YO5.out.below hb)
  have CO6 := Lib.hid (CO5.out.below hb)
  have B6 := Lib.hid (B5.out.trans (hb.mono B5.out.size))
  clear hb hv hyn hyo X5 D5 K5 N5 C5 YO5 CO5 B5 KI a0 a1 a2 a3 a4 a5 a6 a7 a8
  have Z7 : Hid (B9 (w6.alloc (.cells #[.int .i64 oz, .int .i64 z0, .int .i64 z1, .int .i64 z2, .int .i64 z3, .int .i64 z4, .int .i64 z5, .int .i64 vz, .slice Az kz.len cz] 26)) w6.heap.size (.int .i64 oz) (.int .i64 z0) (.int .i64 z1) (.int .i64 z2) (.int .i64 z3) (.int .i64 z4) (.int .i64 z5) (.int .i64 vz) (.slice Az kz.len cz)) := Lib.hid (heap_new _ _)
  have BW7 := Lib.hid (below_new w6 (.cells #[.int .i64 oz, .int .i64 z0, .int .i64 z1, .int .i64 z2, .int .i64 z3, .int .i64 z4, .int .i64 z5, .int .i64 vz, .slice Az kz.len cz] 26))
  go_upto_region 6 with (fail)
  obtain ⟨W7, hW7⟩ : ∃ W7, W7 = w6.alloc (.cells #[.int .i64 oz, .int .i64 z0, .int .i64 z1, .int .i64 z2, .int .i64 z3, .int .i64 z4, .int .i64 z5, .int .i64 vz, .slice Az kz.len cz] 26) := ⟨_, rfl⟩
  rw [← hW7] at Z7 BW7 ⊢
  clear hW7
  obtain ⟨gz, hgz⟩ : ∃ gz, gz = w6.heap.size := ⟨_, rfl⟩
  rw [← hgz] at Z7 ⊢
  clear hgz
  have HS0 : Hid (B9 W7.drew w.heap.size (.int .i64 o) (.int .i64 x0) (.int .i64 x1) (.int .i64 x2) (.int .i64 x3) (.int .i64 x4) (.int .i64 x5) (.int .i64 v) (.slice A k.len c) ∧ V1 W7.drew gk 2 (.int .i64 d) ∧ B9 W7.drew gc (.int .i64 oc) (.int .i64 c0) (.int .i64 c1) (.int .i64 c2) (.int .i64 c3) (.int .i64 c4) (.int .i64 c5) (.int .i64 vc) (.slice Ac kc.len cc) ∧ V1 W7.drew g1 3 (.int .i64 (NT.size ⟨o, [x0, x1, x2, x3, x4, x5], v, A, c, k⟩ : Int)) ∧ B9 W7.drew gy (.int .i64 oy) (.int .i64 y0) (.int .i64 y1) (.int .i64 y2) (.int .i64 y3) (.int .i64 y4) (.int .i64 y5) (.int .i64 vy) (.slice Ay ky.len cy) ∧ B9 W7.drew gz (.int .i64 oz) (.int .i64 z0) (.int .i64 z1) (.int .i64 z2) (.int .i64 z3) (.int .i64 z4) (.int .i64 z5) (.int .i64 vz) (.slice Az kz.len cz) ∧ Below W7.heap.size W7 W7.drew) := Lib.hid ⟨(X6.out.keep BW7.out).keep (below_drawn W7), (D6.out.keep BW7.out).keep (below_drawn W7), (K6.out.keep BW7.out).keep (below_drawn W7), (N6.out.keep BW7.out).keep (below_drawn W7), (C6.out.keep BW7.out).keep (below_drawn W7), Z7.out.keep (below_drawn W7), below_drawn W7⟩
  have B0 := Lib.hid ((B6.out.trans (BW7.out.mono B6.out.size)).trans ((below_drawn W7).mono (B6.out.trans (BW7.out.mono B6.out.size)).size))
  have YO7 := Lib.hid (fun w' (hb : Below W7.heap.size W7 w') => (YO6.out.below BW7.out).below hb)
  have EQZ := Lib.hid (fun w' (hb : Below W7.heap.size W7 w') (h2 : Below w.heap.size w w') => equal_yes ⟨oz, [z0, z1, z2, z3, z4, z5], vz, Az, cz, kz⟩ ⟨o, [x0, x1, x2, x3, x4, x5], v, A, c, k⟩ w' ((ZO.out.below BW7.out).below hb) (KO.out w' h2) ZN.out)
  have EQC := Lib.hid (fun w' (hb : Below W7.heap.size W7 w') (h2 : Below w.heap.size w w') => equal_yes ⟨o, [x0, x1, x2, x3, x4, x5], v, A, c, k⟩ ⟨oc, [c0, c1, c2, c3, c4, c5], vc, Ac, cc, kc⟩ w' (KO.out w' h2) ((CO6.out.below BW7.out).below hb) CN.out.symm)
  rw [NT.val_lit, NT.val_lit] at EQZ EQC
  clear X6 D6 K6 N6 C6 Z7 B6 YO6 ZO ZN CO6 CN BW7 HG
  generalize NT.size ⟨o, [x0, x1, x2, x3, x4, x5], v, A, c, k⟩ = sx at *
  have de1 : ((sx : Int) == (sx : Int)) = true := beq_self_eq_true _
  refine wp_region_held_drew (S := fun w' => B9 w' w.heap.size (.int .i64 o) (.int .i64 x0) (.int .i64 x1) (.int .i64 x2) (.int .i64 x3) (.int .i64 x4) (.int .i64 x5) (.int .i64 v) (.slice A k.len c) ∧ V1 w' gk 2 (.int .i64 d) ∧ B9 w' gc (.int .i64 oc) (.int .i64 c0) (.int .i64 c1) (.int .i64 c2) (.int .i64 c3) (.int .i64 c4) (.int .i64 c5) (.int .i64 vc) (.slice Ac kc.len cc) ∧ V1 w' g1 3 (.int .i64 (sx : Int)) ∧ B9 w' gy (.int .i64 oy) (.int .i64 y0) (.int .i64 y1) (.int .i64 y2) (.int .i64 y3) (.int .i64 y4) (.int .i64 y5) (.int .i64 vy) (.slice Ay ky.len cy) ∧ B9 w' gz (.int .i64 oz) (.int .i64 z0) (.int .i64 z1) (.int .i64 z2) (.int .i64 z3) (.int .i64 z4) (.int .i64 z5) (.int .i64 vz) (.slice Az kz.len cz) ∧ Below W7.heap.size W7 w') (by kernel_rfl) HS0.out (fun hHeld => ?_)
  refine wpAnyH_take (i := 0) (oi := { dst := some 20, op := Op.load 26 (Operand.tmp 7), type := 26, pos := "law.go:116", after := #[], guard := none }) (v := ?_) rfl (by kernel_rfl) (by kernel_rfl) (by kernel_rfl) (fun _ _ _ h => h) (Or.inl ⟨by rfl, ?_⟩) (by assumption) ?_
  rotate_left
  · intro w hSw; (try dsimp only at hSw); obtain ⟨a0, a1, a2, a3, a4, a5, a6, a7, a8⟩ := hSw.1.cells; have e1_ := hSw.2.1.cell; obtain ⟨b0, b1, b2, b3, b4, b5, b6, b7, b8⟩ := hSw.2.2.1.cells; have e2_ := hSw.2.2.2.1.cell; obtain ⟨g0, g1, g2, g3, g4, g5, g6, g7, g8⟩ := hSw.2.2.2.2.1.cells; obtain ⟨h0, h1, h2, h3, h4, h5, h6, h7, h8⟩ := hSw.2.2.2.2.2.1.cells; go_simp; try with_reducible rfl
  (try simp only [Act.put, List.setIfInBounds_toArray, List.set_cons_zero, List.set_cons_succ])
  refine wpAnyH_take (i := 1) (oi := { dst := some 21, op := Op.load 26 (Operand.tmp 2), type := 26, pos := "law.go:116", after := #[], guard := none }) (v := ?_) rfl (by kernel_rfl) (by kernel_rfl) (by kernel_rfl) (fun _ _ _ h => h) (Or.inl ⟨by rfl, ?_⟩) (by assumption) ?_
  rotate_left
  · intro w hSw; (try dsimp only at hSw); obtain ⟨a0, a1, a2, a3, a4, a5, a6, a7, a8⟩ := hSw.1.cells; have e1_ := hSw.2.1.cell; obtain ⟨b0, b1, b2, b3, b4, b5, b6, b7, b8⟩ := hSw.2.2.1.cells; have e2_ := hSw.2.2.2.1.cell; obtain ⟨g0, g1, g2, g3, g4, g5, g6, g7, g8⟩ := hSw.2.2.2.2.1.cells; obtain ⟨h0, h1, h2, h3, h4, h5, h6, h7, h8⟩ := hSw.2.2.2.2.2.1.cells; go_simp; try with_reducible rfl
  (try simp only [Act.put, List.setIfInBounds_toArray, List.set_cons_zero, List.set_cons_succ])
  refine wpAnyH_take (i := 2) (oi := { dst := some 22, op := Op.load 2 (Operand.tmp 3), type := 2, pos := "law.go:116", after := #[], guard := none }) (v := ?_) rfl (by kernel_rfl) (by kernel_rfl) (by kernel_rfl) (fun _ _ _ h => h) (Or.inl ⟨by rfl, ?_⟩) (by assumption) ?_
  rotate_left
  · intro w hSw; (try dsimp only at hSw); obtain ⟨a0, a1, a2, a3, a4, a5, a6, a7, a8⟩ := hSw.1.cells; have e1_ := hSw.2.1.cell; obtain ⟨b0, b1, b2, b3, b4, b5, b6, b7, b8⟩ := hSw.2.2.1.cells; have e2_ := hSw.2.2.2.1.cell; obtain ⟨g0, g1, g2, g3, g4, g5, g6, g7, g8⟩ := hSw.2.2.2.2.1.cells; obtain ⟨h0, h1, h2, h3, h4, h5, h6, h7, h8⟩ := hSw.2.2.2.2.2.1.cells; go_simp; try with_reducible rfl
  (try simp only [Act.put, List.setIfInBounds_toArray, List.set_cons_zero, List.set_cons_succ])
  refine wpAnyH_ready (rs := [3]) (by kernel_rfl) (by simp) ?_
  refine AllReadyH.cons (o := { dst := some 23, op := Op.call { callee := Callee.value (Operand.func 31), args := #[Operand.tmp 21, Operand.tmp 22], argTypes := #[26, 2] }, type := 26, pos := "law.go:116", after := #[{ on := 1, ground := Ground.data }, { on := 2, ground := Ground.data }], guard := none }) rfl (fun K hK => ?_) AllReadyH.nil
  go_simp
  refine Calls.mono (KP.out _ B0.out) ?_
  rintro ev zw1 ⟨ym, rfl, hyn, hyo, hb⟩
  have HS1 : Hid (B9 zw1 w.heap.size (.int .i64 o) (.int .i64 x0) (.int .i64 x1) (.int .i64 x2) (.int .i64 x3) (.int .i64 x4) (.int .i64 x5) (.int .i64 v) (.slice A k.len c) ∧ V1 zw1 gk 2 (.int .i64 d) ∧ B9 zw1 gc (.int .i64 oc) (.int .i64 c0) (.int .i64 c1) (.int .i64 c2) (.int .i64 c3) (.int .i64 c4) (.int .i64 c5) (.int .i64 vc) (.slice Ac kc.len cc) ∧ V1 zw1 g1 3 (.int .i64 (sx : Int)) ∧ B9 zw1 gy (.int .i64 oy) (.int .i64 y0) (.int .i64 y1) (.int .i64 y2) (.int .i64 y3) (.int .i64 y4) (.int .i64 y5) (.int .i64 vy) (.slice Ay ky.len cy) ∧ B9 zw1 gz (.int .i64 oz) (.int .i64 z0) (.int .i64 z1) (.int .i64 z2) (.int .i64 z3) (.int .i64 z4) (.int .i64 z5) (.int .i64 vz) (.slice Az kz.len cz) ∧ Below W7.heap.size W7 zw1) := Lib.hid ⟨HS0.out.1.keep hb, HS0.out.2.1.keep hb, HS0.out.2.2.1.keep hb, HS0.out.2.2.2.1.keep hb, HS0.out.2.2.2.2.1.keep hb, HS0.out.2.2.2.2.2.1.keep hb, HS0.out.2.2.2.2.2.2.trans (hb.mono HS0.out.2.2.2.2.2.2.size)⟩
  have B1 := Lib.hid (B0.out.trans (hb.mono B0.out.size))
  obtain ⟨om, bm, vm, Am, cm, km⟩ := ym
  obtain ⟨m0, m1, m2, m3, m4, m5, rfl⟩ := six hyo.six
  rw [NT.val_lit]
  have EQM := Lib.hid (fun w' (hb' : Below zw1.heap.size zw1 w') => equal_yes ⟨oy, [y0, y1, y2, y3, y4, y5], vy, Ay, cy, ky⟩ ⟨om, [m0, m1, m2, m3, m4, m5], vm, Am, cm, km⟩ w' (YO7.out w' (HS1.out.2.2.2.2.2.2.trans (hb'.mono HS1.out.2.2.2.2.2.2.size))) (hyo.all.below hb') (YN.out.trans hyn.symm))
  rw [NT.val_lit, NT.val_lit] at EQM
  clear hyn hyo
  clear hb
  refine hK.out _ _ ?_ (fun hHeld => ?_)
  · exact HS1.out
  clear hK K
  (try simp only [Act.put, List.setIfInBounds_toArray, List.set_cons_zero, List.set_cons_succ])
  refine wpAnyH_ready (rs := [4]) (by kernel_rfl) (by simp) ?_
  refine AllReadyH.cons (o := { dst := some 24, op := Op.call { callee := Callee.value (Operand.func 21), args := #[Operand.tmp 20, Operand.tmp 23], argTypes := #[26, 26] }, type := 4, pos := "law.go:116", after := #[{ on := 0, ground := Ground.data }, { on := 3, ground := Ground.data }, { on := 3, ground := Ground.chain }], guard := none }) rfl (fun K hK => ?_) AllReadyH.nil
  go_simp
  refine Calls.mono (EQM.out _ (Below.refl _ _)) ?_
  rintro ev zw2 ⟨rfl, hb⟩
  have HS2 : Hid (B9 zw2 w.heap.size (.int .i64 o) (.int .i64 x0) (.int .i64 x1) (.int .i64 x2) (.int .i64 x3) (.int .i64 x4) (.int .i64 x5) (.int .i64 v) (.slice A k.len c) ∧ V1 zw2 gk 2 (.int .i64 d) ∧ B9 zw2 gc (.int .i64 oc) (.int .i64 c0) (.int .i64 c1) (.int .i64 c2) (.int .i64 c3) (.int .i64 c4) (.int .i64 c5) (.int .i64 vc) (.slice Ac kc.len cc) ∧ V1 zw2 g1 3 (.int .i64 (sx : Int)) ∧ B9 zw2 gy (.int .i64 oy) (.int .i64 y0) (.int .i64 y1) (.int .i64 y2) (.int .i64 y3) (.int .i64 y4) (.int .i64 y5) (.int .i64 vy) (.slice Ay ky.len cy) ∧ B9 zw2 gz (.int .i64 oz) (.int .i64 z0) (.int .i64 z1) (.int .i64 z2) (.int .i64 z3) (.int .i64 z4) (.int .i64 z5) (.int .i64 vz) (.slice Az kz.len cz) ∧ Below W7.heap.size W7 zw2) := Lib.hid ⟨HS1.out.1.keep hb, HS1.out.2.1.keep hb, HS1.out.2.2.1.keep hb, HS1.out.2.2.2.1.keep hb, HS1.out.2.2.2.2.1.keep hb, HS1.out.2.2.2.2.2.1.keep hb, HS1.out.2.2.2.2.2.2.trans (hb.mono HS1.out.2.2.2.2.2.2.size)⟩
  have B2 := Lib.hid (B1.out.trans (hb.mono B1.out.size))
  clear hb
  refine hK.out _ _ ?_ (fun hHeld => ?_)
  · exact HS2.out
  clear hK K
  (try simp only [Act.put, List.setIfInBounds_toArray, List.set_cons_zero, List.set_cons_succ])
  refine wpAnyH_take (i := 5) (oi := { dst := some 25, op := Op.move (Operand.tmp 24), type := 4, pos := "law.go:116", after := #[{ on := 4, ground := Ground.data }, { on := 4, ground := Ground.chain }], guard := none }) (v := ?_) rfl (by kernel_rfl) (by kernel_rfl) (by kernel_rfl) (fun _ _ _ h => h) (Or.inl ⟨by rfl, ?_⟩) (by assumption) ?_
  rotate_left
  · intro w hSw; (try dsimp only at hSw); obtain ⟨a0, a1, a2, a3, a4, a5, a6, a7, a8⟩ := hSw.1.cells; have e1_ := hSw.2.1.cell; obtain ⟨b0, b1, b2, b3, b4, b5, b6, b7, b8⟩ := hSw.2.2.1.cells; have e2_ := hSw.2.2.2.1.cell; obtain ⟨g0, g1, g2, g3, g4, g5, g6, g7, g8⟩ := hSw.2.2.2.2.1.cells; obtain ⟨h0, h1, h2, h3, h4, h5, h6, h7, h8⟩ := hSw.2.2.2.2.2.1.cells; go_simp; try with_reducible rfl
  (try simp only [Act.put, List.setIfInBounds_toArray, List.set_cons_zero, List.set_cons_succ])
  refine wpAnyH_take (i := 6) (oi := { dst := some 26, op := Op.load 3 (Operand.tmp 6), type := 3, pos := "law.go:116", after := #[{ on := 5, ground := Ground.guard }], guard := some (5, true) }) (v := ?_) rfl (by kernel_rfl) (by kernel_rfl) (by kernel_rfl) (fun _ _ _ h => h) (Or.inl ⟨by rfl, ?_⟩) (by assumption) ?_
  rotate_left
  · intro w hSw; (try dsimp only at hSw); obtain ⟨a0, a1, a2, a3, a4, a5, a6, a7, a8⟩ := hSw.1.cells; have e1_ := hSw.2.1.cell; obtain ⟨b0, b1, b2, b3, b4, b5, b6, b7, b8⟩ := hSw.2.2.1.cells; have e2_ := hSw.2.2.2.1.cell; obtain ⟨g0, g1, g2, g3, g4, g5, g6, g7, g8⟩ := hSw.2.2.2.2.1.cells; obtain ⟨h0, h1, h2, h3, h4, h5, h6, h7, h8⟩ := hSw.2.2.2.2.2.1.cells; go_simp; try with_reducible rfl
  (try simp only [Act.put, List.setIfInBounds_toArray, List.set_cons_zero, List.set_cons_succ])
  refine wpAnyH_take (i := 7) (oi := { dst := some 27, op := Op.load 26 (Operand.tmp 2), type := 26, pos := "law.go:116", after := #[{ on := 5, ground := Ground.guard }], guard := some (5, true) }) (v := ?_) rfl (by kernel_rfl) (by kernel_rfl) (by kernel_rfl) (fun _ _ _ h => h) (Or.inl ⟨by rfl, ?_⟩) (by assumption) ?_
  rotate_left
  · intro w hSw; (try dsimp only at hSw); obtain ⟨a0, a1, a2, a3, a4, a5, a6, a7, a8⟩ := hSw.1.cells; have e1_ := hSw.2.1.cell; obtain ⟨b0, b1, b2, b3, b4, b5, b6, b7, b8⟩ := hSw.2.2.1.cells; have e2_ := hSw.2.2.2.1.cell; obtain ⟨g0, g1, g2, g3, g4, g5, g6, g7, g8⟩ := hSw.2.2.2.2.1.cells; obtain ⟨h0, h1, h2, h3, h4, h5, h6, h7, h8⟩ := hSw.2.2.2.2.2.1.cells; go_simp; try with_reducible rfl
  (try simp only [Act.put, List.setIfInBounds_toArray, List.set_cons_zero, List.set_cons_succ])
  refine wpAnyH_ready (rs := [8]) (by kernel_rfl) (by simp) ?_
  refine AllReadyH.cons (o := { dst := some 28, op := Op.call { callee := Callee.value (Operand.func 15), args := #[Operand.tmp 27], argTypes := #[26] }, type := 3, pos := "law.go:116", after := #[{ on := 7, ground := Ground.data }, { on := 5, ground := Ground.chain }, { on := 5, ground := Ground.guard }], guard := some (5, true) }) rfl (fun K hK => ?_) AllReadyH.nil
  go_simp
  refine Calls.mono (KS.out _ B2.out) ?_
  rintro ev zw3 ⟨rfl, hb⟩
  have HS3 : Hid (B9 zw3 w.heap.size (.int .i64 o) (.int .i64 x0) (.int .i64 x1) (.int .i64 x2) (.int .i64 x3) (.int .i64 x4) (.int .i64 x5) (.int .i64 v) (.slice A k.len c) ∧ V1 zw3 gk 2 (.int .i64 d) ∧ B9 zw3 gc (.int .i64 oc) (.int .i64 c0) (.int .i64 c1) (.int .i64 c2) (.int .i64 c3) (.int .i64 c4) (.int .i64 c5) (.int .i64 vc) (.slice Ac kc.len cc) ∧ V1 zw3 g1 3 (.int .i64 (sx : Int)) ∧ B9 zw3 gy (.int .i64 oy) (.int .i64 y0) (.int .i64 y1) (.int .i64 y2) (.int .i64 y3) (.int .i64 y4) (.int .i64 y5) (.int .i64 vy) (.slice Ay ky.len cy) ∧ B9 zw3 gz (.int .i64 oz) (.int .i64 z0) (.int .i64 z1) (.int .i64 z2) (.int .i64 z3) (.int .i64 z4) (.int .i64 z5) (.int .i64 vz) (.slice Az kz.len cz) ∧ Below W7.heap.size W7 zw3) := Lib.hid ⟨HS2.out.1.keep hb, HS2.out.2.1.keep hb, HS2.out.2.2.1.keep hb, HS2.out.2.2.2.1.keep hb, HS2.out.2.2.2.2.1.keep hb, HS2.out.2.2.2.2.2.1.keep hb, HS2.out.2.2.2.2.2.2.trans (hb.mono HS2.out.2.2.2.2.2.2.size)⟩
  have B3 := Lib.hid (B2.out.trans (hb.mono B2.out.size))
  clear hb
  refine hK.out _ _ ?_ (fun hHeld => ?_)
  · exact HS3.out
  clear hK K
  (try simp only [Act.put, List.setIfInBounds_toArray, List.set_cons_zero, List.set_cons_succ])
  refine wpAnyH_take (i := 9) (oi := { dst := some 29, op := Op.binOp BinOp.eql 3 (Operand.tmp 26) (Operand.tmp 28) 3, type := 4, pos := "law.go:116", after := #[{ on := 6, ground := Ground.data }, { on := 8, ground := Ground.data }, { on := 5, ground := Ground.guard }], guard := some (5, true) }) (v := ?_) rfl (by kernel_rfl) (by kernel_rfl) (by kernel_rfl) (fun _ _ _ h => h) (Or.inl ⟨by rfl, ?_⟩) (by assumption) ?_
  rotate_left
  · intro w hSw; (try dsimp only at hSw); obtain ⟨a0, a1, a2, a3, a4, a5, a6, a7, a8⟩ := hSw.1.cells; have e1_ := hSw.2.1.cell; obtain ⟨b0, b1, b2, b3, b4, b5, b6, b7, b8⟩ := hSw.2.2.1.cells; have e2_ := hSw.2.2.2.1.cell; obtain ⟨g0, g1, g2, g3, g4, g5, g6, g7, g8⟩ := hSw.2.2.2.2.1.cells; obtain ⟨h0, h1, h2, h3, h4, h5, h6, h7, h8⟩ := hSw.2.2.2.2.2.1.cells; go_simp; try with_reducible rfl
  (try simp only [Act.put, List.setIfInBounds_toArray, List.set_cons_zero, List.set_cons_succ])
  refine wpAnyH_take (i := 10) (oi := { dst := some 30, op := Op.pick (Operand.tmp 25) (Operand.tmp 29) (Operand.const (Value.bool false)), type := 4, pos := "law.go:116", after := #[{ on := 5, ground := Ground.data }, { on := 9, ground := Ground.data }], guard := none }) (v := ?_) rfl (by kernel_rfl) (by kernel_rfl) (by kernel_rfl) (fun _ _ _ h => h) (Or.inl ⟨by rfl, ?_⟩) (by assumption) ?_
  rotate_left
  · intro w hSw; (try dsimp only at hSw); obtain ⟨a0, a1, a2, a3, a4, a5, a6, a7, a8⟩ := hSw.1.cells; have e1_ := hSw.2.1.cell; obtain ⟨b0, b1, b2, b3, b4, b5, b6, b7, b8⟩ := hSw.2.2.1.cells; have e2_ := hSw.2.2.2.1.cell; obtain ⟨g0, g1, g2, g3, g4, g5, g6, g7, g8⟩ := hSw.2.2.2.2.1.cells; obtain ⟨h0, h1, h2, h3, h4, h5, h6, h7, h8⟩ := hSw.2.2.2.2.2.1.cells; go_simp; try with_reducible rfl
  (try simp only [Act.put, List.setIfInBounds_toArray, List.set_cons_zero, List.set_cons_succ])
  refine wpAnyH_take (i := 11) (oi := { dst := some 31, op := Op.move (Operand.tmp 30), type := 4, pos := "law.go:116", after := #[{ on := 10, ground := Ground.data }, { on := 8, ground := Ground.chain }], guard := none }) (v := ?_) rfl (by kernel_rfl) (by kernel_rfl) (by kernel_rfl) (fun _ _ _ h => h) (Or.inl ⟨by rfl, ?_⟩) (by assumption) ?_
  rotate_left
  · intro w hSw; (try dsimp only at hSw); obtain ⟨a0, a1, a2, a3, a4, a5, a6, a7, a8⟩ := hSw.1.cells; have e1_ := hSw.2.1.cell; obtain ⟨b0, b1, b2, b3, b4, b5, b6, b7, b8⟩ := hSw.2.2.1.cells; have e2_ := hSw.2.2.2.1.cell; obtain ⟨g0, g1, g2, g3, g4, g5, g6, g7, g8⟩ := hSw.2.2.2.2.1.cells; obtain ⟨h0, h1, h2, h3, h4, h5, h6, h7, h8⟩ := hSw.2.2.2.2.2.1.cells; go_simp; try with_reducible rfl
  (try simp only [Act.put, List.setIfInBounds_toArray, List.set_cons_zero, List.set_cons_succ])
  refine wpAnyH_take (i := 12) (oi := { dst := some 32, op := Op.load 26 (Operand.tmp 8), type := 26, pos := "law.go:116", after := #[{ on := 11, ground := Ground.guard }], guard := some (11, true) }) (v := ?_) rfl (by kernel_rfl) (by kernel_rfl) (by kernel_rfl) (fun _ _ _ h => h) (Or.inl ⟨by rfl, ?_⟩) (by assumption) ?_
  rotate_left
  · intro w hSw; (try dsimp only at hSw); obtain ⟨a0, a1, a2, a3, a4, a5, a6, a7, a8⟩ := hSw.1.cells; have e1_ := hSw.2.1.cell; obtain ⟨b0, b1, b2, b3, b4, b5, b6, b7, b8⟩ := hSw.2.2.1.cells; have e2_ := hSw.2.2.2.1.cell; obtain ⟨g0, g1, g2, g3, g4, g5, g6, g7, g8⟩ := hSw.2.2.2.2.1.cells; obtain ⟨h0, h1, h2, h3, h4, h5, h6, h7, h8⟩ := hSw.2.2.2.2.2.1.cells; go_simp; try with_reducible rfl
  (try simp only [Act.put, List.setIfInBounds_toArray, List.set_cons_zero, List.set_cons_succ])
  refine wpAnyH_take (i := 13) (oi := { dst := some 33, op := Op.load 26 (Operand.tmp 2), type := 26, pos := "law.go:116", after := #[{ on := 11, ground := Ground.guard }], guard := some (11, true) }) (v := ?_) rfl (by kernel_rfl) (by kernel_rfl) (by kernel_rfl) (fun _ _ _ h => h) (Or.inl ⟨by rfl, ?_⟩) (by assumption) ?_
  rotate_left
  · intro w hSw; (try dsimp only at hSw); obtain ⟨a0, a1, a2, a3, a4, a5, a6, a7, a8⟩ := hSw.1.cells; have e1_ := hSw.2.1.cell; obtain ⟨b0, b1, b2, b3, b4, b5, b6, b7, b8⟩ := hSw.2.2.1.cells; have e2_ := hSw.2.2.2.1.cell; obtain ⟨g0, g1, g2, g3, g4, g5, g6, g7, g8⟩ := hSw.2.2.2.2.1.cells; obtain ⟨h0, h1, h2, h3, h4, h5, h6, h7, h8⟩ := hSw.2.2.2.2.2.1.cells; go_simp; try with_reducible rfl
  (try simp only [Act.put, List.setIfInBounds_toArray, List.set_cons_zero, List.set_cons_succ])
  refine wpAnyH_ready (rs := [14]) (by kernel_rfl) (by simp) ?_
  refine AllReadyH.cons (o := { dst := some 34, op := Op.call { callee := Callee.value (Operand.func 21), args := #[Operand.tmp 32, Operand.tmp 33], argTypes := #[26, 26] }, type := 4, pos := "law.go:116", after := #[{ on := 12, ground := Ground.data }, { on := 13, ground := Ground.data }, { on := 11, ground := Ground.chain }, { on := 11, ground := Ground.guard }], guard := some (11, true) }) rfl (fun K hK => ?_) AllReadyH.nil
  go_simp
  refine Calls.mono (EQZ.out _ HS3.out.2.2.2.2.2.2 B3.out) ?_
  rintro ev zw4 ⟨rfl, hb⟩
  have HS4 : Hid (B9 zw4 w.heap.size (.int .i64 o) (.int .i64 x0) (.int .i64 x1) (.int .i64 x2) (.int .i64 x3) (.int .i64 x4) (.int .i64 x5) (.int .i64 v) (.slice A k.len c) ∧ V1 zw4 gk 2 (.int .i64 d) ∧ B9 zw4 gc (.int .i64 oc) (.int .i64 c0) (.int .i64 c1) (.int .i64 c2) (.int .i64 c3) (.int .i64 c4) (.int .i64 c5) (.int .i64 vc) (.slice Ac kc.len cc) ∧ V1 zw4 g1 3 (.int .i64 (sx : Int)) ∧ B9 zw4 gy (.int .i64 oy) (.int .i64 y0) (.int .i64 y1) (.int .i64 y2) (.int .i64 y3) (.int .i64 y4) (.int .i64 y5) (.int .i64 vy) (.slice Ay ky.len cy) ∧ B9 zw4 gz (.int .i64 oz) (.int .i64 z0) (.int .i64 z1) (.int .i64 z2) (.int .i64 z3) (.int .i64 z4) (.int .i64 z5) (.int .i64 vz) (.slice Az kz.len cz) ∧ Below W7.heap.size W7 zw4) := Lib.hid ⟨HS3.out.1.keep hb, HS3.out.2.1.keep hb, HS3.out.2.2.1.keep hb, HS3.out.2.2.2.1.keep hb, HS3.out.2.2.2.2.1.keep hb, HS3.out.2.2.2.2.2.1.keep hb, HS3.out.2.2.2.2.2.2.trans (hb.mono HS3.out.2.2.2.2.2.2.size)⟩
  have B4 := Lib.hid (B3.out.trans (hb.mono B3.out.size))
  clear hb
  refine hK.out _ _ ?_ (fun hHeld => ?_)
  · exact HS4.out
  clear hK K
  (try simp only [Act.put, List.setIfInBounds_toArray, List.set_cons_zero, List.set_cons_succ])
  refine wpAnyH_take (i := 15) (oi := { dst := some 35, op := Op.pick (Operand.tmp 31) (Operand.tmp 34) (Operand.const (Value.bool false)), type := 4, pos := "law.go:116", after := #[{ on := 11, ground := Ground.data }, { on := 14, ground := Ground.data }], guard := none }) (v := ?_) rfl (by kernel_rfl) (by kernel_rfl) (by kernel_rfl) (fun _ _ _ h => h) (Or.inl ⟨by rfl, ?_⟩) (by assumption) ?_
  rotate_left
  · intro w hSw; (try dsimp only at hSw); obtain ⟨a0, a1, a2, a3, a4, a5, a6, a7, a8⟩ := hSw.1.cells; have e1_ := hSw.2.1.cell; obtain ⟨b0, b1, b2, b3, b4, b5, b6, b7, b8⟩ := hSw.2.2.1.cells; have e2_ := hSw.2.2.2.1.cell; obtain ⟨g0, g1, g2, g3, g4, g5, g6, g7, g8⟩ := hSw.2.2.2.2.1.cells; obtain ⟨h0, h1, h2, h3, h4, h5, h6, h7, h8⟩ := hSw.2.2.2.2.2.1.cells; go_simp; try with_reducible rfl
  (try simp only [Act.put, List.setIfInBounds_toArray, List.set_cons_zero, List.set_cons_succ])
  refine wpAnyH_take (i := 16) (oi := { dst := some 36, op := Op.move (Operand.tmp 35), type := 4, pos := "law.go:116", after := #[{ on := 15, ground := Ground.data }, { on := 14, ground := Ground.chain }], guard := none }) (v := ?_) rfl (by kernel_rfl) (by kernel_rfl) (by kernel_rfl) (fun _ _ _ h => h) (Or.inl ⟨by rfl, ?_⟩) (by assumption) ?_
  rotate_left
  · intro w hSw; (try dsimp only at hSw); obtain ⟨a0, a1, a2, a3, a4, a5, a6, a7, a8⟩ := hSw.1.cells; have e1_ := hSw.2.1.cell; obtain ⟨b0, b1, b2, b3, b4, b5, b6, b7, b8⟩ := hSw.2.2.1.cells; have e2_ := hSw.2.2.2.1.cell; obtain ⟨g0, g1, g2, g3, g4, g5, g6, g7, g8⟩ := hSw.2.2.2.2.1.cells; obtain ⟨h0, h1, h2, h3, h4, h5, h6, h7, h8⟩ := hSw.2.2.2.2.2.1.cells; go_simp; try with_reducible rfl
  (try simp only [Act.put, List.setIfInBounds_toArray, List.set_cons_zero, List.set_cons_succ])
  refine wpAnyH_take (i := 17) (oi := { dst := some 37, op := Op.load 26 (Operand.tmp 2), type := 26, pos := "law.go:116", after := #[{ on := 16, ground := Ground.guard }], guard := some (16, true) }) (v := ?_) rfl (by kernel_rfl) (by kernel_rfl) (by kernel_rfl) (fun _ _ _ h => h) (Or.inl ⟨by rfl, ?_⟩) (by assumption) ?_
  rotate_left
  · intro w hSw; (try dsimp only at hSw); obtain ⟨a0, a1, a2, a3, a4, a5, a6, a7, a8⟩ := hSw.1.cells; have e1_ := hSw.2.1.cell; obtain ⟨b0, b1, b2, b3, b4, b5, b6, b7, b8⟩ := hSw.2.2.1.cells; have e2_ := hSw.2.2.2.1.cell; obtain ⟨g0, g1, g2, g3, g4, g5, g6, g7, g8⟩ := hSw.2.2.2.2.1.cells; obtain ⟨h0, h1, h2, h3, h4, h5, h6, h7, h8⟩ := hSw.2.2.2.2.2.1.cells; go_simp; try with_reducible rfl
  (try simp only [Act.put, List.setIfInBounds_toArray, List.set_cons_zero, List.set_cons_succ])
  refine wpAnyH_take (i := 19) (oi := { dst := some 39, op := Op.load 26 (Operand.tmp 2), type := 26, pos := "law.go:116", after := #[{ on := 16, ground := Ground.guard }], guard := some (16, true) }) (v := ?_) rfl (by kernel_rfl) (by kernel_rfl) (by kernel_rfl) (fun _ _ _ h => h) (Or.inl ⟨by rfl, ?_⟩) (by assumption) ?_
  rotate_left
  · intro w hSw; (try dsimp only at hSw); obtain ⟨a0, a1, a2, a3, a4, a5, a6, a7, a8⟩ := hSw.1.cells; have e1_ := hSw.2.1.cell; obtain ⟨b0, b1, b2, b3, b4, b5, b6, b7, b8⟩ := hSw.2.2.1.cells; have e2_ := hSw.2.2.2.1.cell; obtain ⟨g0, g1, g2, g3, g4, g5, g6, g7, g8⟩ := hSw.2.2.2.2.1.cells; obtain ⟨h0, h1, h2, h3, h4, h5, h6, h7, h8⟩ := hSw.2.2.2.2.2.1.cells; go_simp; try with_reducible rfl
  (try simp only [Act.put, List.setIfInBounds_toArray, List.set_cons_zero, List.set_cons_succ])
  refine wpAnyH_ready (rs := [18]) (by kernel_rfl) (by simp) ?_
  refine AllReadyH.cons (o := { dst := some 38, op := Op.call { callee := Callee.value (Operand.func 27), args := #[Operand.tmp 37, Operand.const Value.nilFunc], argTypes := #[26, 36] }, type := 26, pos := "law.go:116", after := #[{ on := 17, ground := Ground.data }, { on := 16, ground := Ground.chain }, { on := 16, ground := Ground.guard }], guard := some (16, true) }) rfl (fun K hK => ?_) AllReadyH.nil
  go_simp
  refine Calls.mono (KN.out _ B4.out) ?_
  rintro ev zw5 ⟨yn, rfl, hyn, hyo, _, hb⟩
  have HS5 : Hid (B9 zw5 w.heap.size (.int .i64 o) (.int .i64 x0) (.int .i64 x1) (.int .i64 x2) (.int .i64 x3) (.int .i64 x4) (.int .i64 x5) (.int .i64 v) (.slice A k.len c) ∧ V1 zw5 gk 2 (.int .i64 d) ∧ B9 zw5 gc (.int .i64 oc) (.int .i64 c0) (.int .i64 c1) (.int .i64 c2) (.int .i64 c3) (.int .i64 c4) (.int .i64 c5) (.int .i64 vc) (.slice Ac kc.len cc) ∧ V1 zw5 g1 3 (.int .i64 (sx : Int)) ∧ B9 zw5 gy (.int .i64 oy) (.int .i64 y0) (.int .i64 y1) (.int .i64 y2) (.int .i64 y3) (.int .i64 y4) (.int .i64 y5) (.int .i64 vy) (.slice Ay ky.len cy) ∧ B9 zw5 gz (.int .i64 oz) (.int .i64 z0) (.int .i64 z1) (.int .i64 z2) (.int .i64 z3) (.int .i64 z4) (.int .i64 z5) (.int .i64 vz) (.slice Az kz.len cz) ∧ Below W7.heap.size W7 zw5) := Lib.hid ⟨HS4.out.1.keep hb, HS4.out.2.1.keep hb, HS4.out.2.2.1.keep hb, HS4.out.2.2.2.1.keep hb, HS4.out.2.2.2.2.1.keep hb, HS4.out.2.2.2.2.2.1.keep hb, HS4.out.2.2.2.2.2.2.trans (hb.mono HS4.out.2.2.2.2.2.2.size)⟩
  have B5 := Lib.hid (B4.out.trans (hb.mono B4.out.size))
  obtain ⟨on, bn, vn, An, cn, kn⟩ := yn
  obtain ⟨n0, n1, n2, n3, n4, n5, rfl⟩ := six hyo.six
  rw [NT.val_lit]
  have EQN := Lib.hid (fun w' (hb' : Below zw5.heap.size zw5 w') => equal_yes ⟨on, [n0, n1, n2, n3, n4, n5], vn, An, cn, kn⟩ ⟨o, [x0, x1, x2, x3, x4, x5], v, A, c, k⟩ w' (hyo.all.below hb') (KO.out w' (B5.out.trans (hb'.mono B5.out.size))) hyn)
  rw [NT.val_lit, NT.val_lit] at EQN
  clear hyn hyo
  clear hb
  refine hK.out _ _ ?_ (fun hHeld => ?_)
  · exact HS5.out
  clear hK K
  (try simp only [Act.put, List.setIfInBounds_toArray, List.set_cons_zero, List.set_cons_succ])
  refine wpAnyH_ready (rs := [20]) (by kernel_rfl) (by simp) ?_
  refine AllReadyH.cons (o := { dst := some 40, op := Op.call { callee := Callee.value (Operand.func 21), args := #[Operand.tmp 38, Operand.tmp 39], argTypes := #[26, 26] }, type := 4, pos := "law.go:116", after := #[{ on := 18, ground := Ground.data }, { on := 19, ground := Ground.data }, { on := 18, ground := Ground.chain }, { on := 16, ground := Ground.guard }], guard := some (16, true) }) rfl (fun K hK => ?_) AllReadyH.nil
  go_simp
  refine Calls.mono (EQN.out _ (Below.refl _ _)) ?_
  rintro ev zw6 ⟨rfl, hb⟩
  have HS6 : Hid (B9 zw6 w.heap.size (.int .i64 o) (.int .i64 x0) (.int .i64 x1) (.int .i64 x2) (.int .i64 x3) (.int .i64 x4) (.int .i64 x5) (.int .i64 v) (.slice A k.len c) ∧ V1 zw6 gk 2 (.int .i64 d) ∧ B9 zw6 gc (.int .i64 oc) (.int .i64 c0) (.int .i64 c1) (.int .i64 c2) (.int .i64 c3) (.int .i64 c4) (.int .i64 c5) (.int .i64 vc) (.slice Ac kc.len cc) ∧ V1 zw6 g1 3 (.int .i64 (sx : Int)) ∧ B9 zw6 gy (.int .i64 oy) (.int .i64 y0) (.int .i64 y1) (.int .i64 y2) (.int .i64 y3) (.int .i64 y4) (.int .i64 y5) (.int .i64 vy) (.slice Ay ky.len cy) ∧ B9 zw6 gz (.int .i64 oz) (.int .i64 z0) (.int .i64 z1) (.int .i64 z2) (.int .i64 z3) (.int .i64 z4) (.int .i64 z5) (.int .i64 vz) (.slice Az kz.len cz) ∧ Below W7.heap.size W7 zw6) := Lib.hid ⟨HS5.out.1.keep hb, HS5.out.2.1.keep hb, HS5.out.2.2.1.keep hb, HS5.out.2.2.2.1.keep hb, HS5.out.2.2.2.2.1.keep hb, HS5.out.2.2.2.2.2.1.keep hb, HS5.out.2.2.2.2.2.2.trans (hb.mono HS5.out.2.2.2.2.2.2.size)⟩
  have B6 := Lib.hid (B5.out.trans (hb.mono B5.out.size))
  clear hb
  refine hK.out _ _ ?_ (fun hHeld => ?_)
  · exact HS6.out
  clear hK K
  (try simp only [Act.put, List.setIfInBounds_toArray, List.set_cons_zero, List.set_cons_succ])
  refine wpAnyH_take (i := 21) (oi := { dst := some 41, op := Op.pick (Operand.tmp 36) (Operand.tmp 40) (Operand.const (Value.bool false)), type := 4, pos := "law.go:116", after := #[{ on := 16, ground := Ground.data }, { on := 20, ground := Ground.data }], guard := none }) (v := ?_) rfl (by kernel_rfl) (by kernel_rfl) (by kernel_rfl) (fun _ _ _ h => h) (Or.inl ⟨by rfl, ?_⟩) (by assumption) ?_
  rotate_left
  · intro w hSw; (try dsimp only at hSw); obtain ⟨a0, a1, a2, a3, a4, a5, a6, a7, a8⟩ := hSw.1.cells; have e1_ := hSw.2.1.cell; obtain ⟨b0, b1, b2, b3, b4, b5, b6, b7, b8⟩ := hSw.2.2.1.cells; have e2_ := hSw.2.2.2.1.cell; obtain ⟨g0, g1, g2, g3, g4, g5, g6, g7, g8⟩ := hSw.2.2.2.2.1.cells; obtain ⟨h0, h1, h2, h3, h4, h5, h6, h7, h8⟩ := hSw.2.2.2.2.2.1.cells; go_simp; try with_reducible rfl
  (try simp only [Act.put, List.setIfInBounds_toArray, List.set_cons_zero, List.set_cons_succ])
  refine wpAnyH_take (i := 22) (oi := { dst := some 42, op := Op.move (Operand.tmp 41), type := 4, pos := "law.go:116", after := #[{ on := 21, ground := Ground.data }, { on := 20, ground := Ground.chain }], guard := none }) (v := ?_) rfl (by kernel_rfl) (by kernel_rfl) (by kernel_rfl) (fun _ _ _ h => h) (Or.inl ⟨by rfl, ?_⟩) (by assumption) ?_
  rotate_left
  · intro w hSw; (try dsimp only at hSw); obtain ⟨a0, a1, a2, a3, a4, a5, a6, a7, a8⟩ := hSw.1.cells; have e1_ := hSw.2.1.cell; obtain ⟨b0, b1, b2, b3, b4, b5, b6, b7, b8⟩ := hSw.2.2.1.cells; have e2_ := hSw.2.2.2.1.cell; obtain ⟨g0, g1, g2, g3, g4, g5, g6, g7, g8⟩ := hSw.2.2.2.2.1.cells; obtain ⟨h0, h1, h2, h3, h4, h5, h6, h7, h8⟩ := hSw.2.2.2.2.2.1.cells; go_simp; try with_reducible rfl
  (try simp only [Act.put, List.setIfInBounds_toArray, List.set_cons_zero, List.set_cons_succ])
  refine wpAnyH_take (i := 23) (oi := { dst := some 43, op := Op.load 26 (Operand.tmp 2), type := 26, pos := "law.go:116", after := #[{ on := 22, ground := Ground.guard }], guard := some (22, true) }) (v := ?_) rfl (by kernel_rfl) (by kernel_rfl) (by kernel_rfl) (fun _ _ _ h => h) (Or.inl ⟨by rfl, ?_⟩) (by assumption) ?_
  rotate_left
  · intro w hSw; (try dsimp only at hSw); obtain ⟨a0, a1, a2, a3, a4, a5, a6, a7, a8⟩ := hSw.1.cells; have e1_ := hSw.2.1.cell; obtain ⟨b0, b1, b2, b3, b4, b5, b6, b7, b8⟩ := hSw.2.2.1.cells; have e2_ := hSw.2.2.2.1.cell; obtain ⟨g0, g1, g2, g3, g4, g5, g6, g7, g8⟩ := hSw.2.2.2.2.1.cells; obtain ⟨h0, h1, h2, h3, h4, h5, h6, h7, h8⟩ := hSw.2.2.2.2.2.1.cells; go_simp; try with_reducible rfl
  (try simp only [Act.put, List.setIfInBounds_toArray, List.set_cons_zero, List.set_cons_succ])
  refine wpAnyH_take (i := 24) (oi := { dst := some 44, op := Op.load 26 (Operand.tmp 5), type := 26, pos := "law.go:116", after := #[{ on := 22, ground := Ground.guard }], guard := some (22, true) }) (v := ?_) rfl (by kernel_rfl) (by kernel_rfl) (by kernel_rfl) (fun _ _ _ h => h) (Or.inl ⟨by rfl, ?_⟩) (by assumption) ?_
  rotate_left
  · intro w hSw; (try dsimp only at hSw); obtain ⟨a0, a1, a2, a3, a4, a5, a6, a7, a8⟩ := hSw.1.cells; have e1_ := hSw.2.1.cell; obtain ⟨b0, b1, b2, b3, b4, b5, b6, b7, b8⟩ := hSw.2.2.1.cells; have e2_ := hSw.2.2.2.1.cell; obtain ⟨g0, g1, g2, g3, g4, g5, g6, g7, g8⟩ := hSw.2.2.2.2.1.cells; obtain ⟨h0, h1, h2, h3, h4, h5, h6, h7, h8⟩ := hSw.2.2.2.2.2.1.cells; go_simp; try with_reducible rfl
  (try simp only [Act.put, List.setIfInBounds_toArray, List.set_cons_zero, List.set_cons_succ])
  refine wpAnyH_ready (rs := [25]) (by kernel_rfl) (by simp) ?_
  refine AllReadyH.cons (o := { dst := some 45, op := Op.call { callee := Callee.value (Operand.func 21), args := #[Operand.tmp 43, Operand.tmp 44], argTypes := #[26, 26] }, type := 4, pos := "law.go:116", after := #[{ on := 23, ground := Ground.data }, { on := 24, ground := Ground.data }, { on := 22, ground := Ground.chain }, { on := 22, ground := Ground.guard }], guard := some (22, true) }) rfl (fun K hK => ?_) AllReadyH.nil
  go_simp
  refine Calls.mono (EQC.out _ HS6.out.2.2.2.2.2.2 B6.out) ?_
  rintro ev zw7 ⟨rfl, hb⟩
  have HS7 : Hid (B9 zw7 w.heap.size (.int .i64 o) (.int .i64 x0) (.int .i64 x1) (.int .i64 x2) (.int .i64 x3) (.int .i64 x4) (.int .i64 x5) (.int .i64 v) (.slice A k.len c) ∧ V1 zw7 gk 2 (.int .i64 d) ∧ B9 zw7 gc (.int .i64 oc) (.int .i64 c0) (.int .i64 c1) (.int .i64 c2) (.int .i64 c3) (.int .i64 c4) (.int .i64 c5) (.int .i64 vc) (.slice Ac kc.len cc) ∧ V1 zw7 g1 3 (.int .i64 (sx : Int)) ∧ B9 zw7 gy (.int .i64 oy) (.int .i64 y0) (.int .i64 y1) (.int .i64 y2) (.int .i64 y3) (.int .i64 y4) (.int .i64 y5) (.int .i64 vy) (.slice Ay ky.len cy) ∧ B9 zw7 gz (.int .i64 oz) (.int .i64 z0) (.int .i64 z1) (.int .i64 z2) (.int .i64 z3) (.int .i64 z4) (.int .i64 z5) (.int .i64 vz) (.slice Az kz.len cz) ∧ Below W7.heap.size W7 zw7) := Lib.hid ⟨HS6.out.1.keep hb, HS6.out.2.1.keep hb, HS6.out.2.2.1.keep hb, HS6.out.2.2.2.1.keep hb, HS6.out.2.2.2.2.1.keep hb, HS6.out.2.2.2.2.2.1.keep hb, HS6.out.2.2.2.2.2.2.trans (hb.mono HS6.out.2.2.2.2.2.2.size)⟩
  have B7 := Lib.hid (B6.out.trans (hb.mono B6.out.size))
  clear hb
  refine hK.out _ _ ?_ (fun hHeld => ?_)
  · exact HS7.out
  clear hK K
  (try simp only [Act.put, List.setIfInBounds_toArray, List.set_cons_zero, List.set_cons_succ])
  refine wpAnyH_take (i := 26) (oi := { dst := some 46, op := Op.pick (Operand.tmp 42) (Operand.tmp 45) (Operand.const (Value.bool false)), type := 4, pos := "law.go:116", after := #[{ on := 22, ground := Ground.data }, { on := 25, ground := Ground.data }], guard := none }) (v := ?_) rfl (by kernel_rfl) (by kernel_rfl) (by kernel_rfl) (fun _ _ _ h => h) (Or.inl ⟨by rfl, ?_⟩) (by assumption) ?_
  rotate_left
  · intro w hSw; (try dsimp only at hSw); obtain ⟨a0, a1, a2, a3, a4, a5, a6, a7, a8⟩ := hSw.1.cells; have e1_ := hSw.2.1.cell; obtain ⟨b0, b1, b2, b3, b4, b5, b6, b7, b8⟩ := hSw.2.2.1.cells; have e2_ := hSw.2.2.2.1.cell; obtain ⟨g0, g1, g2, g3, g4, g5, g6, g7, g8⟩ := hSw.2.2.2.2.1.cells; obtain ⟨h0, h1, h2, h3, h4, h5, h6, h7, h8⟩ := hSw.2.2.2.2.2.1.cells; go_simp; try with_reducible rfl
  (try simp only [Act.put, List.setIfInBounds_toArray, List.set_cons_zero, List.set_cons_succ])
  refine wpAnyH_take (i := 27) (oi := { dst := some 47, op := Op.move (Operand.tmp 46), type := 4, pos := "law.go:116", after := #[{ on := 26, ground := Ground.data }, { on := 25, ground := Ground.chain }], guard := none }) (v := ?_) rfl (by kernel_rfl) (by kernel_rfl) (by kernel_rfl) (fun _ _ _ h => h) (Or.inl ⟨by rfl, ?_⟩) (by assumption) ?_
  rotate_left
  · intro w hSw; (try dsimp only at hSw); obtain ⟨a0, a1, a2, a3, a4, a5, a6, a7, a8⟩ := hSw.1.cells; have e1_ := hSw.2.1.cell; obtain ⟨b0, b1, b2, b3, b4, b5, b6, b7, b8⟩ := hSw.2.2.1.cells; have e2_ := hSw.2.2.2.1.cell; obtain ⟨g0, g1, g2, g3, g4, g5, g6, g7, g8⟩ := hSw.2.2.2.2.1.cells; obtain ⟨h0, h1, h2, h3, h4, h5, h6, h7, h8⟩ := hSw.2.2.2.2.2.1.cells; go_simp; try with_reducible rfl
  (try simp only [Act.put, List.setIfInBounds_toArray, List.set_cons_zero, List.set_cons_succ])
  refine wpAnyH_ready (rs := [28]) (by kernel_rfl) (by simp) ?_
  refine AllReadyH.cons (o := { dst := some 48, op := Op.call { callee := Callee.value (Operand.func 13), args := #[], argTypes := #[] }, type := 4, pos := "law.go:116", after := #[{ on := 27, ground := Ground.chain }, { on := 27, ground := Ground.guard }], guard := some (27, true) }) rfl (fun K hK => ?_) AllReadyH.nil
  go_simp
  refine Calls.mono (AW.out _) ?_
  rintro ev zw8 ⟨rfl, hb⟩
  have HS8 : Hid (B9 zw8 w.heap.size (.int .i64 o) (.int .i64 x0) (.int .i64 x1) (.int .i64 x2) (.int .i64 x3) (.int .i64 x4) (.int .i64 x5) (.int .i64 v) (.slice A k.len c) ∧ V1 zw8 gk 2 (.int .i64 d) ∧ B9 zw8 gc (.int .i64 oc) (.int .i64 c0) (.int .i64 c1) (.int .i64 c2) (.int .i64 c3) (.int .i64 c4) (.int .i64 c5) (.int .i64 vc) (.slice Ac kc.len cc) ∧ V1 zw8 g1 3 (.int .i64 (sx : Int)) ∧ B9 zw8 gy (.int .i64 oy) (.int .i64 y0) (.int .i64 y1) (.int .i64 y2) (.int .i64 y3) (.int .i64 y4) (.int .i64 y5) (.int .i64 vy) (.slice Ay ky.len cy) ∧ B9 zw8 gz (.int .i64 oz) (.int .i64 z0) (.int .i64 z1) (.int .i64 z2) (.int .i64 z3) (.int .i64 z4) (.int .i64 z5) (.int .i64 vz) (.slice Az kz.len cz) ∧ Below W7.heap.size W7 zw8) := Lib.hid ⟨HS7.out.1.keep hb, HS7.out.2.1.keep hb, HS7.out.2.2.1.keep hb, HS7.out.2.2.2.1.keep hb, HS7.out.2.2.2.2.1.keep hb, HS7.out.2.2.2.2.2.1.keep hb, HS7.out.2.2.2.2.2.2.trans (hb.mono HS7.out.2.2.2.2.2.2.size)⟩
  have B8 := Lib.hid (B7.out.trans (hb.mono B7.out.size))
  clear hb
  refine hK.out _ _ ?_ (fun hHeld => ?_)
  · exact HS8.out
  clear hK K
  (try simp only [Act.put, List.setIfInBounds_toArray, List.set_cons_zero, List.set_cons_succ])
  refine wpAnyH_take (i := 29) (oi := { dst := some 49, op := Op.pick (Operand.tmp 47) (Operand.tmp 48) (Operand.const (Value.bool false)), type := 4, pos := "law.go:116", after := #[{ on := 27, ground := Ground.data }, { on := 28, ground := Ground.data }], guard := none }) (v := ?_) rfl (by kernel_rfl) (by kernel_rfl) (by kernel_rfl) (fun _ _ _ h => h) (Or.inl ⟨by rfl, ?_⟩) (by assumption) ?_
  rotate_left
  · intro w hSw; (try dsimp only at hSw); obtain ⟨a0, a1, a2, a3, a4, a5, a6, a7, a8⟩ := hSw.1.cells; have e1_ := hSw.2.1.cell; obtain ⟨b0, b1, b2, b3, b4, b5, b6, b7, b8⟩ := hSw.2.2.1.cells; have e2_ := hSw.2.2.2.1.cell; obtain ⟨g0, g1, g2, g3, g4, g5, g6, g7, g8⟩ := hSw.2.2.2.2.1.cells; obtain ⟨h0, h1, h2, h3, h4, h5, h6, h7, h8⟩ := hSw.2.2.2.2.2.1.cells; go_simp; try with_reducible rfl
  (try simp only [Act.put, List.setIfInBounds_toArray, List.set_cons_zero, List.set_cons_succ])
  refine wpAnyH_take (i := 30) (oi := { dst := some 4, op := Op.assign (Operand.tmp 49), type := 4, pos := "law.go:116", after := #[{ on := 29, ground := Ground.data }, { on := 28, ground := Ground.chain }, { on := 0, ground := Ground.phase }, { on := 1, ground := Ground.phase }, { on := 2, ground := Ground.phase }, { on := 3, ground := Ground.phase }, { on := 4, ground := Ground.phase }, { on := 5, ground := Ground.phase }, { on := 6, ground := Ground.phase }, { on := 7, ground := Ground.phase }, { on := 8, ground := Ground.phase }, { on := 9, ground := Ground.phase }, { on := 10, ground := Ground.phase }, { on := 11, ground := Ground.phase }, { on := 12, ground := Ground.phase }, { on := 13, ground := Ground.phase }, { on := 14, ground := Ground.phase }, { on := 15, ground := Ground.phase }, { on := 16, ground := Ground.phase }, { on := 17, ground := Ground.phase }, { on := 18, ground := Ground.phase }, { on := 19, ground := Ground.phase }, { on := 20, ground := Ground.phase }, { on := 21, ground := Ground.phase }, { on := 22, ground := Ground.phase }, { on := 23, ground := Ground.phase }, { on := 24, ground := Ground.phase }, { on := 25, ground := Ground.phase }, { on := 26, ground := Ground.phase }, { on := 27, ground := Ground.phase }, { on := 28, ground := Ground.phase }, { on := 29, ground := Ground.phase }], guard := none }) (v := ?_) rfl (by kernel_rfl) (by kernel_rfl) (by kernel_rfl) (fun _ _ _ h => h) (Or.inl ⟨by rfl, ?_⟩) (by assumption) ?_
  rotate_left
  · intro w hSw; (try dsimp only at hSw); obtain ⟨a0, a1, a2, a3, a4, a5, a6, a7, a8⟩ := hSw.1.cells; have e1_ := hSw.2.1.cell; obtain ⟨b0, b1, b2, b3, b4, b5, b6, b7, b8⟩ := hSw.2.2.1.cells; have e2_ := hSw.2.2.2.1.cell; obtain ⟨g0, g1, g2, g3, g4, g5, g6, g7, g8⟩ := hSw.2.2.2.2.1.cells; obtain ⟨h0, h1, h2, h3, h4, h5, h6, h7, h8⟩ := hSw.2.2.2.2.2.1.cells; go_simp; try with_reducible rfl
  (try simp only [Act.put, List.setIfInBounds_toArray, List.set_cons_zero, List.set_cons_succ])
  refine wpAnyH_done (by kernel_rfl) ?_ _
  go_wp2
  go_ret
  exact ⟨rfl, B8.out⟩
end Go.Proofs.Ytdopgoagadpccaa
