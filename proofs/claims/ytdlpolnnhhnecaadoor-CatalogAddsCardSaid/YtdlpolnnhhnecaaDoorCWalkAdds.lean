/- The walk of CatalogAdds: no claim of its own. -/
import Derived.Test.YtdlpolnnhhnecaaDoorCWalkChecks
import Derived.Deep.RegionHeld3
namespace Go.Proofs.YtdlpolnnhhnecaaDoor
open Go.RowKit
open MC (Pr)
theorem sumG_add {f : Pr → Int} (hf : Small f) {L : List Pr} {a b c : List Int} (ha : MB.okB a = true) (hb : MB.okB b = true) (hc : MB.okB c = true) (h : ∀ j, j < 6 → MB.at_ c j = MB.at_ a j + MB.at_ b j) :
    wrap64 (MC.sumG f L a + MC.sumG f L b) = MC.sumG f L c := by
  by_cases h0 : MC.chkL L = 0
  · have G := MC.chk_good h0
    rw [MC.sumG_yes h0 ha, MC.sumG_yes h0 hb, MC.sumG_yes h0 hc, MC.sumK_add (a := a) (b := b) L.length (fun j hj => h j (by have := G.few; omega))]
    have h1 := sumK_small hf G ha G.few
    have h2 := sumK_small hf G hb G.few
    unfold wrap64; omega
  · rw [MC.sumG_no (fun e => h0 e.1), MC.sumG_no (fun e => h0 e.1), MC.sumG_no (fun e => h0 e.1)]; unfold wrap64; omega
/-- The three bundles of the law in memory. -/
structure Tri (wo : World) (B C : Nat) (xs ys zs : List Int) (wr : World) : Prop where
  one : BB wr B 29 xs
  two : BB wr (B + 1) 29 ys
  three : BB wr C 29 zs
  below : Below wo.heap.size wo wr
theorem Tri.keep {wo wr w' : World} {B C : Nat} {xs ys zs : List Int} (h : Tri wo B C xs ys zs wr) (hb : Below wr.heap.size wr w') : Tri wo B C xs ys zs w' :=
  ⟨h.one.keep hb h.one.lt, h.two.keep hb h.two.lt, h.three.keep hb h.three.lt, h.below.trans (hb.mono h.below.size)⟩
theorem Tri.drew {wo wr : World} {B C : Nat} {xs ys zs : List Int} (h : Tri wo B C xs ys zs wr) : Tri wo B C xs ys zs wr.drew := ⟨h.one.drew, h.two.drew, h.three.drew, h.below.drew⟩
/-- What has been added when k sums are done. -/
structure Sm (wo : World) (B C : Nat) (xs ys : List Int) (wr : World) (k : Nat) (zs : List Int) : Prop where
  tri : Tri wo B C xs ys zs wr
  base : wo.heap.size ≤ C
  far : B + 1 < C
  done : ∀ j, j < k → MB.at_ zs j = MB.at_ xs j + MB.at_ ys j
theorem Sm.step {wo wr : World} {B C : Nat} {xs ys zs : List Int} {k : Nat} (h : Sm wo B C xs ys wr k zs) (hk : k < 6) (v : Int) (hv : v = MB.at_ xs k + MB.at_ ys k) :
    Sm wo B C xs ys (wr.drew.setCell ⟨C, k, none⟩ (.int .i64 v)) (k + 1) (zs.set k v) := by
  have hf := h.far
  exact ⟨⟨h.tri.one.drew.other _ (by omega), h.tri.two.drew.other _ (by omega), h.tri.three.drew.set k v, h.tri.below.drew.setCell (p := ⟨C, k, none⟩) h.base _⟩, h.base, h.far,
   fun j hj => by
    by_cases e : j = k
    · rw [e, at_set_same _ (by rw [h.tri.three.2]; exact hk), hv]
    · rw [at_set_other _ e]; exact h.done j (by omega)⟩
set_option maxRecDepth 100000 in
set_option maxHeartbeats 4000000 in
theorem adds_long (A : Option Addr) (n c : Nat) (x0 x1 x2 x3 x4 x5 y0 y1 y2 y3 y4 y5 : Int) (w : World) (h100 : 100 < n) (hmax : n ≤ c ∧ c ≤ maxLen) : Calls Tryd.prog 5 #[.slice A n c, .agg #[.int .i64 x0, .int .i64 x1, .int .i64 x2, .int .i64 x3, .int .i64 x4, .int .i64 x5], .agg #[.int .i64 y0, .int .i64 y1, .int .i64 y2, .int .i64 y3, .int .i64 y4, .int .i64 y5]] w (Gives (.bool true) w) := by
  have AW := Lib.hid (fun w' => awake8 w')
  have B0 := Lib.hid (below_two w (.cells #[.int .i64 x0, .int .i64 x1, .int .i64 x2, .int .i64 x3, .int .i64 x4, .int .i64 x5] 29) (.cells #[.int .i64 y0, .int .i64 y1, .int .i64 y2, .int .i64 y3, .int .i64 y4, .int .i64 y5] 29))
  go_enter Tryd.func5, Tryd.ntmps5
  go_wp2_with fail
  refine (AW.out _).mono ?_
  rintro e w9 ⟨rfl, hb⟩
  have B9 := Lib.hid (B0.out.trans (hb.mono B0.out.size))
  clear hb
  go_wp2
  go_ret
  exact ⟨rfl, B9.out⟩
set_option maxRecDepth 100000 in
set_option maxHeartbeats 4000000 in
theorem adds_one (A : Option Addr) (n c : Nat) (x0 x1 x2 x3 x4 x5 y0 y1 y2 y3 y4 y5 : Int) (w : World) (h100 : n ≤ 100) (hmax : n ≤ c ∧ c ≤ maxLen) (hx : MB.okB [x0, x1, x2, x3, x4, x5] = false) : Calls Tryd.prog 5 #[.slice A n c, .agg #[.int .i64 x0, .int .i64 x1, .int .i64 x2, .int .i64 x3, .int .i64 x4, .int .i64 x5], .agg #[.int .i64 y0, .int .i64 y1, .int .i64 y2, .int .i64 y3, .int .i64 y4, .int .i64 y5]] w (Gives (.bool true) w) := by
  have AW := Lib.hid (fun w' => awake8 w')
  have B0 := Lib.hid (below_two w (.cells #[.int .i64 x0, .int .i64 x1, .int .i64 x2, .int .i64 x3, .int .i64 x4, .int .i64 x5] 29) (.cells #[.int .i64 y0, .int .i64 y1, .int .i64 y2, .int .i64 y3, .int .i64 y4, .int .i64 y5] 29))
  have V1 := Lib.hid (fun w' => valid8_any x0 x1 x2 x3 x4 x5 w')
  have V2 := Lib.hid (fun w' => valid8_any y0 y1 y2 y3 y4 y5 w')
  obtain ⟨X0, Y0⟩ := two_boxes w 29 29 x0 x1 x2 x3 x4 x5 y0 y1 y2 y3 y4 y5
  obtain ⟨a0, a1, a2, a3, a4, a5⟩ := cells6 X0
  obtain ⟨b0, b1, b2, b3, b4, b5⟩ := cells6 Y0
  rw [hx] at V1
  clear V2 hx X0 Y0
  go_enter Tryd.func5, Tryd.ntmps5
  go_wp2_with fail
  refine (V1.out _).mono ?_
  rintro e w1 ⟨rfl, hb⟩
  have B1 := Lib.hid (B0.out.trans (hb.mono B0.out.size))
  clear hb V1 a0 a1 a2 a3 a4 a5 b0 b1 b2 b3 b4 b5
  go_wp2_with fail
  refine (AW.out _).mono ?_
  rintro e w9 ⟨rfl, hb⟩
  have B9 := Lib.hid (B1.out.trans (hb.mono B1.out.size))
  clear hb
  go_wp2
  go_ret
  exact ⟨rfl, B9.out⟩
set_option maxRecDepth 100000 in
set_option maxHeartbeats 4000000 in
theorem adds_two (A : Option Addr) (n c : Nat) (x0 x1 x2 x3 x4 x5 y0 y1 y2 y3 y4 y5 : Int) (w : World) (h100 : n ≤ 100) (hmax : n ≤ c ∧ c ≤ maxLen) (hx : MB.okB [x0, x1, x2, x3, x4, x5] = true) (hy : MB.okB [y0, y1, y2, y3, y4, y5] = false) : Calls Tryd.prog 5 #[.slice A n c, .agg #[.int .i64 x0, .int .i64 x1, .int .i64 x2, .int .i64 x3, .int .i64 x4, .int .i64 x5], .agg #[.int .i64 y0, .int .i64 y1, .int .i64 y2, .int .i64 y3, .int .i64 y4, .int .i64 y5]] w (Gives (.bool true) w) := by
  have AW := Lib.hid (fun w' => awake8 w')
  have B0 := Lib.hid (below_two w (.cells #[.int .i64 x0, .int .i64 x1, .int .i64 x2, .int .i64 x3, .int .i64 x4, .int .i64 x5] 29) (.cells #[.int .i64 y0, .int .i64 y1, .int .i64 y2, .int .i64 y3, .int .i64 y4, .int .i64 y5] 29))
  have V1 := Lib.hid (fun w' => valid8_any x0 x1 x2 x3 x4 x5 w')
  have V2 := Lib.hid (fun w' => valid8_any y0 y1 y2 y3 y4 y5 w')
  obtain ⟨X0, Y0⟩ := two_boxes w 29 29 x0 x1 x2 x3 x4 x5 y0 y1 y2 y3 y4 y5
  obtain ⟨a0, a1, a2, a3, a4, a5⟩ := cells6 X0
  obtain ⟨b0, b1, b2, b3, b4, b5⟩ := cells6 Y0
  rw [hx] at V1
  rw [hy] at V2
  have X1 := Lib.hid X0
  have Y1 := Lib.hid Y0
  clear hx hy X0 Y0
  go_enter Tryd.func5, Tryd.ntmps5
  go_wp2_with fail
  refine (V1.out _).mono ?_
  rintro e w1 ⟨rfl, hb⟩
  have B1 := Lib.hid (B0.out.trans (hb.mono B0.out.size))
  have X2 := X1.out.keep hb X1.out.lt
  have Y2 := Y1.out.keep hb Y1.out.lt
  clear hb V1 a0 a1 a2 a3 a4 a5 b0 b1 b2 b3 b4 b5 X1 Y1
  obtain ⟨a0, a1, a2, a3, a4, a5⟩ := cells6 X2
  obtain ⟨b0, b1, b2, b3, b4, b5⟩ := cells6 Y2
  have X3 := Lib.hid X2
  have Y3 := Lib.hid Y2
  clear X2 Y2
  go_wp2_with fail
  refine (V2.out _).mono ?_
  rintro e w2 ⟨rfl, hb⟩
  have B2 := Lib.hid (B1.out.trans (hb.mono B1.out.size))
  have X4 := Lib.hid (X3.out.keep hb X3.out.lt)
  have Y4 := Lib.hid (Y3.out.keep hb Y3.out.lt)
  clear hb V2 a0 a1 a2 a3 a4 a5 b0 b1 b2 b3 b4 b5 X3 Y3
  clear X4 Y4
  go_wp2_with fail
  refine (AW.out _).mono ?_
  rintro e w9 ⟨rfl, hb⟩
  have B9 := Lib.hid (B2.out.trans (hb.mono B2.out.size))
  clear hb
  go_wp2
  go_ret
  exact ⟨rfl, B9.out⟩
set_option maxRecDepth 100000 in
set_option maxHeartbeats 4000000 in
theorem adds_main (A : Option Addr) (n c : Nat) (x0 x1 x2 x3 x4 x5 y0 y1 y2 y3 y4 y5 : Int) (w : World) (L : List Pr) (h : Prs w A n c L) (hmax : n ≤ c ∧ c ≤ maxLen) (hx : MB.okB [x0, x1, x2, x3, x4, x5] = true) (hy : MB.okB [y0, y1, y2, y3, y4, y5] = true) : Calls Tryd.prog 5 #[.slice A n c, .agg #[.int .i64 x0, .int .i64 x1, .int .i64 x2, .int .i64 x3, .int .i64 x4, .int .i64 x5], .agg #[.int .i64 y0, .int .i64 y1, .int .i64 y2, .int .i64 y3, .int .i64 y4, .int .i64 y5]] w (Gives (.bool true) w) := by
  have h100 := h.few
  have AW := Lib.hid (fun w' => awake8 w')
  have B0 := Lib.hid (below_two w (.cells #[.int .i64 x0, .int .i64 x1, .int .i64 x2, .int .i64 x3, .int .i64 x4, .int .i64 x5] 29) (.cells #[.int .i64 y0, .int .i64 y1, .int .i64 y2, .int .i64 y3, .int .i64 y4, .int .i64 y5] 29))
  have V1 := Lib.hid (fun w' => valid8_any x0 x1 x2 x3 x4 x5 w')
  have V2 := Lib.hid (fun w' => valid8_any y0 y1 y2 y3 y4 y5 w')
  obtain ⟨X0, Y0⟩ := two_boxes w 29 29 x0 x1 x2 x3 x4 x5 y0 y1 y2 y3 y4 y5
  obtain ⟨a0, a1, a2, a3, a4, a5⟩ := cells6 X0
  obtain ⟨b0, b1, b2, b3, b4, b5⟩ := cells6 Y0
  rw [hx] at V1
  rw [hy] at V2
  have X1 := Lib.hid X0
  have Y1 := Lib.hid Y0
  have HX := Lib.hid hx
  have HY := Lib.hid hy
  have H := Lib.hid h
  have PX := Lib.hid (fun w' (hb : Below w.heap.size w w') => points_any A n c L x0 x1 x2 x3 x4 x5 w' (H.out.keep hb))
  have PY := Lib.hid (fun w' (hb : Below w.heap.size w w') => points_any A n c L y0 y1 y2 y3 y4 y5 w' (H.out.keep hb))
  have RX := Lib.hid (fun w' (hb : Below w.heap.size w w') => reserve_any A n c L x0 x1 x2 x3 x4 x5 w' (H.out.keep hb))
  have RY := Lib.hid (fun w' (hb : Below w.heap.size w w') => reserve_any A n c L y0 y1 y2 y3 y4 y5 w' (H.out.keep hb))
  have UX := Lib.hid (fun w' (hb : Below w.heap.size w w') => units_any 1 A n c L x0 x1 x2 x3 x4 x5 w' (H.out.keep hb))
  have UY := Lib.hid (fun w' (hb : Below w.heap.size w w') => units_any 1 A n c L y0 y1 y2 y3 y4 y5 w' (H.out.keep hb))
  clear hx hy X0 Y0 h
  go_enter Tryd.func5, Tryd.ntmps5
  go_wp2_with fail
  refine (V1.out _).mono ?_
  rintro e w1 ⟨rfl, hb⟩
  have B1 := Lib.hid (B0.out.trans (hb.mono B0.out.size))
  have X2 := X1.out.keep hb X1.out.lt
  have Y2 := Y1.out.keep hb Y1.out.lt
  clear hb V1 a0 a1 a2 a3 a4 a5 b0 b1 b2 b3 b4 b5 X1 Y1
  obtain ⟨a0, a1, a2, a3, a4, a5⟩ := cells6 X2
  obtain ⟨b0, b1, b2, b3, b4, b5⟩ := cells6 Y2
  have X3 := Lib.hid X2
  have Y3 := Lib.hid Y2
  clear X2 Y2
  go_wp2_with fail
  refine (V2.out _).mono ?_
  rintro e w2 ⟨rfl, hb⟩
  have B2 := Lib.hid (B1.out.trans (hb.mono B1.out.size))
  have X4 := Lib.hid (X3.out.keep hb X3.out.lt)
  have Y4 := Lib.hid (Y3.out.keep hb Y3.out.lt)
  clear hb V2 a0 a1 a2 a3 a4 a5 b0 b1 b2 b3 b4 b5 X3 Y3
  have T0 : Hid (Sm w w.heap.size w2.heap.size [x0, x1, x2, x3, x4, x5] [y0, y1, y2, y3, y4, y5] (w2.alloc (.cells #[.int .i64 0, .int .i64 0, .int .i64 0, .int .i64 0, .int .i64 0, .int .i64 0] 29)) 0 [0, 0, 0, 0, 0, 0]) :=
    Lib.hid ⟨⟨X4.out.alloc _, Y4.out.alloc _, BB.new w2 29 0 0 0 0 0 0, B2.out.alloc B2.out.size _⟩, B2.out.size, Y4.out.lt, fun j hj => absurd hj (Nat.not_lt_zero _)⟩
  clear X4 Y4 B2 B1 B0
  have HXe : Hid (∀ j, j < 6 → 0 ≤ MB.at_ [x0, x1, x2, x3, x4, x5] j ∧ MB.at_ [x0, x1, x2, x3, x4, x5] j ≤ 4) := Lib.hid (fun j hj => okB_at HX.out (k := j) hj)
  have HYe : Hid (∀ j, j < 6 → 0 ≤ MB.at_ [y0, y1, y2, y3, y4, y5] j ∧ MB.at_ [y0, y1, y2, y3, y4, y5] j ≤ 4) := Lib.hid (fun j hj => okB_at HY.out (k := j) hj)
  have EX : Hid (∃ xs, [x0, x1, x2, x3, x4, x5] = xs) := Lib.hid ⟨_, rfl⟩
  go_wp2
  obtain ⟨W, hW⟩ : ∃ W, W = w2.alloc (.cells #[.int .i64 0, .int .i64 0, .int .i64 0, .int .i64 0, .int .i64 0, .int .i64 0] 29) := ⟨_, rfl⟩
  obtain ⟨C, hC⟩ : ∃ C, C = w2.heap.size := ⟨_, rfl⟩
  rw [← hW, ← hC] at T0
  rw [← hW, ← hC]
  clear hW hC
  go_loopw [8] (fun i wr => ∃ (k : Nat) (zs : List Int), k ≤ 6 ∧ i = .int .i64 k ∧ Sm w w.heap.size C [x0, x1, x2, x3, x4, x5] [y0, y1, y2, y3, y4, y5] wr k zs) (fun i _ => 6 - (intOf i).toNat)
  case atStart => exact ⟨0, _, Nat.zero_le _, rfl, T0.out⟩
  case round =>
    obtain ⟨k, zs, hk, rfl, hd⟩ := hrel
    have HD := Lib.hid hd
    clear hd T0
    by_cases hlt : k < 6
    · have c1 := HD.out.tri.one.cell hlt
      have c2 := HD.out.tri.two.cell hlt
      have c3 := HD.out.tri.three.cell hlt
      have g1 := HD.out.tri.three.free k
      have hsz := HD.out.tri.three.lt
      have hf := HD.out.far
      have ST := Lib.hid (fun v hv => HD.out.step hlt v hv)
      have h1 := HXe.out k hlt
      have h2 := HYe.out k hlt
      have hv : wrap64 (MB.at_ [x0, x1, x2, x3, x4, x5] k + MB.at_ [y0, y1, y2, y3, y4, y5] k) = MB.at_ [x0, x1, x2, x3, x4, x5] k + MB.at_ [y0, y1, y2, y3, y4, y5] k := by unfold wrap64; omega
      have HV := Lib.hid hv
      clear hv h1 h2
      generalize MB.at_ [x0, x1, x2, x3, x4, x5] k = x at *
      generalize MB.at_ [y0, y1, y2, y3, y4, y5] k = y at *
      go_wp2
      go_still_tail 9, (by kernel_rfl)
      change wpList _ _ _ _ _ wr.drew
      go_wp2
      go_roundw
      case rel => exact ⟨k + 1, _, by omega, by go_num, ST.out _ HV.out⟩
      case measure => simp [intOf]; omega
    · obtain rfl : k = 6 := by omega
      obtain ⟨z0, z1, z2, z3, z4, z5, hz⟩ := six HD.out.tri.three.2
      subst hz
      have HT := Lib.hid HD.out.tri
      have HS := Lib.hid HD.out.done
      obtain ⟨c0, c1, c2, c3, c4, c5⟩ := cells6 HT.out.three
      have V3 := Lib.hid (fun w' => valid8_any z0 z1 z2 z3 z4 z5 w')
      have PZ := Lib.hid (fun w' (hb : Below w.heap.size w w') => points_any A n c L z0 z1 z2 z3 z4 z5 w' (H.out.keep hb))
      have RZ := Lib.hid (fun w' (hb : Below w.heap.size w w') => reserve_any A n c L z0 z1 z2 z3 z4 z5 w' (H.out.keep hb))
      have UZ := Lib.hid (fun w' (hb : Below w.heap.size w w') => units_any 1 A n c L z0 z1 z2 z3 z4 z5 w' (H.out.keep hb))
      clear HD HXe HYe EX
      cases hzk : MB.okB [z0, z1, z2, z3, z4, z5] with
      | false =>
        rw [hzk] at V3
        clear hzk PX PY PZ RX RY RZ UX UY UZ HS
        go_wp2_with fail
        refine (V3.out _).mono ?_
        rintro e w3 ⟨rfl, hb⟩
        have B3 := Lib.hid (HT.out.keep hb).below
        clear hb V3 c0 c1 c2 c3 c4 c5 HT
        go_wp2_with fail
        refine (AW.out _).mono ?_
        rintro e w9 ⟨rfl, hb⟩
        have B9 := Lib.hid (B3.out.trans (hb.mono B3.out.size))
        clear hb
        go_wp2
        go_ret
        exact ⟨rfl, B9.out⟩
      | true =>
        rw [hzk] at V3
        have eP : IntKind.i64.wrap (MC.sumG fP L [x0, x1, x2, x3, x4, x5] + MC.sumG fP L [y0, y1, y2, y3, y4, y5]) = MC.sumG fP L [z0, z1, z2, z3, z4, z5] := by rw [IntWalk.i64_left]; exact sumG_add small_P (L := L) HX.out HY.out hzk HS.out
        have eR : IntKind.i64.wrap (MC.sumG fR L [x0, x1, x2, x3, x4, x5] + MC.sumG fR L [y0, y1, y2, y3, y4, y5]) = MC.sumG fR L [z0, z1, z2, z3, z4, z5] := by rw [IntWalk.i64_left]; exact sumG_add small_R (L := L) HX.out HY.out hzk HS.out
        have eU : IntKind.i64.wrap (MC.sumG (fU 1) L [x0, x1, x2, x3, x4, x5] + MC.sumG (fU 1) L [y0, y1, y2, y3, y4, y5]) = MC.sumG (fU 1) L [z0, z1, z2, z3, z4, z5] := by rw [IntWalk.i64_left]; exact sumG_add (small_U 1) (L := L) HX.out HY.out hzk HS.out
        clear hzk HS HX HY
        generalize MC.sumG fP L [x0, x1, x2, x3, x4, x5] = px at *
        generalize MC.sumG fP L [y0, y1, y2, y3, y4, y5] = py at *
        generalize MC.sumG fP L [z0, z1, z2, z3, z4, z5] = pz at *
        generalize MC.sumG fR L [x0, x1, x2, x3, x4, x5] = rx at *
        generalize MC.sumG fR L [y0, y1, y2, y3, y4, y5] = ry at *
        generalize MC.sumG fR L [z0, z1, z2, z3, z4, z5] = rz at *
        generalize MC.sumG (fU 1) L [x0, x1, x2, x3, x4, x5] = ux at *
        generalize MC.sumG (fU 1) L [y0, y1, y2, y3, y4, y5] = uy at *
        generalize MC.sumG (fU 1) L [z0, z1, z2, z3, z4, z5] = uz at *
        go_wp2_with fail
        refine (V3.out _).mono ?_
        rintro e w3 ⟨rfl, hb⟩
        have HU := Lib.hid (HT.out.keep hb)
        clear hb V3 c0 c1 c2 c3 c4 c5 HT
        go_wp2_with fail
        obtain ⟨xs, hxs⟩ : ∃ xs, [x0, x1, x2, x3, x4, x5] = xs := ⟨_, rfl⟩
        clear hxs xs
        refine wp_region_held_drew (S := fun w' => Tri w w.heap.size C [x0, x1, x2, x3, x4, x5] [y0, y1, y2, y3, y4, y5] [z0, z1, z2, z3, z4, z5] w') (by kernel_rfl) HU.out.drew (fun hHeld => ?_)
        refine wpAnyH_take (i := 0) (oi := { dst := some 40, op := Op.move (Operand.tmp 0), type := 22, pos := "law.go:58", after := #[], guard := none }) (v := ?_) rfl (by kernel_rfl) (by kernel_rfl) (by kernel_rfl) (fun _ _ _ h => h) (Or.inl ⟨by rfl, ?_⟩) (by assumption) ?_
        rotate_left
        · intro w hSw; (try dsimp only at hSw); obtain ⟨p0, p1, p2, p3, p4, p5⟩ := cells6 hSw.one; obtain ⟨q0, q1, q2, q3, q4, q5⟩ := cells6 hSw.two; obtain ⟨r0, r1, r2, r3, r4, r5⟩ := cells6 hSw.three; go_simp; (try rw [eP]); (try rw [eR]); (try rw [eU]); (try rw [beq_self_eq_true]); try with_reducible rfl
        (try simp only [Act.put, List.setIfInBounds_toArray, List.set_cons_zero, List.set_cons_succ])
        refine wpAnyH_take (i := 1) (oi := { dst := some 41, op := Op.load 29 (Operand.tmp 7), type := 29, pos := "law.go:58", after := #[], guard := none }) (v := ?_) rfl (by kernel_rfl) (by kernel_rfl) (by kernel_rfl) (fun _ _ _ h => h) (Or.inl ⟨by rfl, ?_⟩) (by assumption) ?_
        rotate_left
        · intro w hSw; (try dsimp only at hSw); obtain ⟨p0, p1, p2, p3, p4, p5⟩ := cells6 hSw.one; obtain ⟨q0, q1, q2, q3, q4, q5⟩ := cells6 hSw.two; obtain ⟨r0, r1, r2, r3, r4, r5⟩ := cells6 hSw.three; go_simp; (try rw [eP]); (try rw [eR]); (try rw [eU]); (try rw [beq_self_eq_true]); try with_reducible rfl
        (try simp only [Act.put, List.setIfInBounds_toArray, List.set_cons_zero, List.set_cons_succ])
        refine wpAnyH_take (i := 3) (oi := { dst := some 43, op := Op.move (Operand.tmp 0), type := 22, pos := "law.go:58", after := #[], guard := none }) (v := ?_) rfl (by kernel_rfl) (by kernel_rfl) (by kernel_rfl) (fun _ _ _ h => h) (Or.inl ⟨by rfl, ?_⟩) (by assumption) ?_
        rotate_left
        · intro w hSw; (try dsimp only at hSw); obtain ⟨p0, p1, p2, p3, p4, p5⟩ := cells6 hSw.one; obtain ⟨q0, q1, q2, q3, q4, q5⟩ := cells6 hSw.two; obtain ⟨r0, r1, r2, r3, r4, r5⟩ := cells6 hSw.three; go_simp; (try rw [eP]); (try rw [eR]); (try rw [eU]); (try rw [beq_self_eq_true]); try with_reducible rfl
        (try simp only [Act.put, List.setIfInBounds_toArray, List.set_cons_zero, List.set_cons_succ])
        refine wpAnyH_take (i := 4) (oi := { dst := some 44, op := Op.load 29 (Operand.tmp 4), type := 29, pos := "law.go:58", after := #[], guard := none }) (v := ?_) rfl (by kernel_rfl) (by kernel_rfl) (by kernel_rfl) (fun _ _ _ h => h) (Or.inl ⟨by rfl, ?_⟩) (by assumption) ?_
        rotate_left
        · intro w hSw; (try dsimp only at hSw); obtain ⟨p0, p1, p2, p3, p4, p5⟩ := cells6 hSw.one; obtain ⟨q0, q1, q2, q3, q4, q5⟩ := cells6 hSw.two; obtain ⟨r0, r1, r2, r3, r4, r5⟩ := cells6 hSw.three; go_simp; (try rw [eP]); (try rw [eR]); (try rw [eU]); (try rw [beq_self_eq_true]); try with_reducible rfl
        (try simp only [Act.put, List.setIfInBounds_toArray, List.set_cons_zero, List.set_cons_succ])
        refine wpAnyH_take (i := 6) (oi := { dst := some 46, op := Op.move (Operand.tmp 0), type := 22, pos := "law.go:58", after := #[], guard := none }) (v := ?_) rfl (by kernel_rfl) (by kernel_rfl) (by kernel_rfl) (fun _ _ _ h => h) (Or.inl ⟨by rfl, ?_⟩) (by assumption) ?_
        rotate_left
        · intro w hSw; (try dsimp only at hSw); obtain ⟨p0, p1, p2, p3, p4, p5⟩ := cells6 hSw.one; obtain ⟨q0, q1, q2, q3, q4, q5⟩ := cells6 hSw.two; obtain ⟨r0, r1, r2, r3, r4, r5⟩ := cells6 hSw.three; go_simp; (try rw [eP]); (try rw [eR]); (try rw [eU]); (try rw [beq_self_eq_true]); try with_reducible rfl
        (try simp only [Act.put, List.setIfInBounds_toArray, List.set_cons_zero, List.set_cons_succ])
        refine wpAnyH_take (i := 7) (oi := { dst := some 47, op := Op.load 29 (Operand.tmp 5), type := 29, pos := "law.go:58", after := #[], guard := none }) (v := ?_) rfl (by kernel_rfl) (by kernel_rfl) (by kernel_rfl) (fun _ _ _ h => h) (Or.inl ⟨by rfl, ?_⟩) (by assumption) ?_
        rotate_left
        · intro w hSw; (try dsimp only at hSw); obtain ⟨p0, p1, p2, p3, p4, p5⟩ := cells6 hSw.one; obtain ⟨q0, q1, q2, q3, q4, q5⟩ := cells6 hSw.two; obtain ⟨r0, r1, r2, r3, r4, r5⟩ := cells6 hSw.three; go_simp; (try rw [eP]); (try rw [eR]); (try rw [eU]); (try rw [beq_self_eq_true]); try with_reducible rfl
        (try simp only [Act.put, List.setIfInBounds_toArray, List.set_cons_zero, List.set_cons_succ])
        refine wpAnyH_ready (rs := [2]) (by kernel_rfl) (by simp) ?_
        refine AllReadyH.cons (o := { dst := some 42, op := Op.call { callee := Callee.value (Operand.func 18), args := #[Operand.tmp 40, Operand.tmp 41], argTypes := #[22, 29] }, type := 3, pos := "law.go:58", after := #[{ on := 0, ground := Ground.data }, { on := 1, ground := Ground.data }], guard := none }) rfl (fun K hK => ?_) AllReadyH.nil
        go_simp
        refine (PZ.out _ hHeld.below).mono ?_
        rintro qq vv ⟨rfl, hb⟩
        have HK := Lib.hid (hHeld.keep hb)
        clear hb hHeld
        refine hK.out _ _ ?_ (fun hHeld => ?_)
        · exact HK.out
        clear HK
        clear hK K
        (try simp only [Act.put, List.setIfInBounds_toArray, List.set_cons_zero, List.set_cons_succ])
        refine wpAnyH_ready (rs := [5]) (by kernel_rfl) (by simp) ?_
        refine AllReadyH.cons (o := { dst := some 45, op := Op.call { callee := Callee.value (Operand.func 18), args := #[Operand.tmp 43, Operand.tmp 44], argTypes := #[22, 29] }, type := 3, pos := "law.go:58", after := #[{ on := 3, ground := Ground.data }, { on := 4, ground := Ground.data }, { on := 2, ground := Ground.chain }], guard := none }) rfl (fun K hK => ?_) AllReadyH.nil
        go_simp
        refine (PX.out _ hHeld.below).mono ?_
        rintro qq vv ⟨rfl, hb⟩
        have HK := Lib.hid (hHeld.keep hb)
        clear hb hHeld
        refine hK.out _ _ ?_ (fun hHeld => ?_)
        · exact HK.out
        clear HK
        clear hK K
        (try simp only [Act.put, List.setIfInBounds_toArray, List.set_cons_zero, List.set_cons_succ])
        refine wpAnyH_ready (rs := [8]) (by kernel_rfl) (by simp) ?_
        refine AllReadyH.cons (o := { dst := some 48, op := Op.call { callee := Callee.value (Operand.func 18), args := #[Operand.tmp 46, Operand.tmp 47], argTypes := #[22, 29] }, type := 3, pos := "law.go:58", after := #[{ on := 6, ground := Ground.data }, { on := 7, ground := Ground.data }, { on := 5, ground := Ground.chain }], guard := none }) rfl (fun K hK => ?_) AllReadyH.nil
        go_simp
        refine (PY.out _ hHeld.below).mono ?_
        rintro qq vv ⟨rfl, hb⟩
        have HK := Lib.hid (hHeld.keep hb)
        clear hb hHeld
        refine hK.out _ _ ?_ (fun hHeld => ?_)
        · exact HK.out
        clear HK
        clear hK K
        (try simp only [Act.put, List.setIfInBounds_toArray, List.set_cons_zero, List.set_cons_succ])
        refine wpAnyH_take (i := 9) (oi := { dst := some 49, op := Op.binOp BinOp.add 3 (Operand.tmp 45) (Operand.tmp 48) 3, type := 3, pos := "law.go:58", after := #[{ on := 5, ground := Ground.data }, { on := 8, ground := Ground.data }], guard := none }) (v := ?_) rfl (by kernel_rfl) (by kernel_rfl) (by kernel_rfl) (fun _ _ _ h => h) (Or.inl ⟨by rfl, ?_⟩) (by assumption) ?_
        rotate_left
        · intro w hSw; (try dsimp only at hSw); obtain ⟨p0, p1, p2, p3, p4, p5⟩ := cells6 hSw.one; obtain ⟨q0, q1, q2, q3, q4, q5⟩ := cells6 hSw.two; obtain ⟨r0, r1, r2, r3, r4, r5⟩ := cells6 hSw.three; go_simp; (try rw [eP]); (try rw [eR]); (try rw [eU]); (try rw [beq_self_eq_true]); try with_reducible rfl
        (try simp only [Act.put, List.setIfInBounds_toArray, List.set_cons_zero, List.set_cons_succ])
        refine wpAnyH_take (i := 10) (oi := { dst := some 50, op := Op.binOp BinOp.eql 3 (Operand.tmp 42) (Operand.tmp 49) 3, type := 4, pos := "law.go:58", after := #[{ on := 2, ground := Ground.data }, { on := 9, ground := Ground.data }], guard := none }) (v := ?_) rfl (by kernel_rfl) (by kernel_rfl) (by kernel_rfl) (fun _ _ _ h => h) (Or.inl ⟨by rfl, ?_⟩) (by assumption) ?_
        rotate_left
        · intro w hSw; (try dsimp only at hSw); obtain ⟨p0, p1, p2, p3, p4, p5⟩ := cells6 hSw.one; obtain ⟨q0, q1, q2, q3, q4, q5⟩ := cells6 hSw.two; obtain ⟨r0, r1, r2, r3, r4, r5⟩ := cells6 hSw.three; go_simp; (try rw [eP]); (try rw [eR]); (try rw [eU]); (try rw [beq_self_eq_true]); try with_reducible rfl
        (try simp only [Act.put, List.setIfInBounds_toArray, List.set_cons_zero, List.set_cons_succ])
        refine wpAnyH_take (i := 11) (oi := { dst := some 51, op := Op.move (Operand.tmp 50), type := 4, pos := "law.go:58", after := #[{ on := 10, ground := Ground.data }, { on := 8, ground := Ground.chain }], guard := none }) (v := ?_) rfl (by kernel_rfl) (by kernel_rfl) (by kernel_rfl) (fun _ _ _ h => h) (Or.inl ⟨by rfl, ?_⟩) (by assumption) ?_
        rotate_left
        · intro w hSw; (try dsimp only at hSw); obtain ⟨p0, p1, p2, p3, p4, p5⟩ := cells6 hSw.one; obtain ⟨q0, q1, q2, q3, q4, q5⟩ := cells6 hSw.two; obtain ⟨r0, r1, r2, r3, r4, r5⟩ := cells6 hSw.three; go_simp; (try rw [eP]); (try rw [eR]); (try rw [eU]); (try rw [beq_self_eq_true]); try with_reducible rfl
        (try simp only [Act.put, List.setIfInBounds_toArray, List.set_cons_zero, List.set_cons_succ])
        refine wpAnyH_take (i := 12) (oi := { dst := some 52, op := Op.move (Operand.tmp 0), type := 22, pos := "law.go:58", after := #[{ on := 11, ground := Ground.guard }], guard := some (11, true) }) (v := ?_) rfl (by kernel_rfl) (by kernel_rfl) (by kernel_rfl) (fun _ _ _ h => h) (Or.inl ⟨by rfl, ?_⟩) (by assumption) ?_
        rotate_left
        · intro w hSw; (try dsimp only at hSw); obtain ⟨p0, p1, p2, p3, p4, p5⟩ := cells6 hSw.one; obtain ⟨q0, q1, q2, q3, q4, q5⟩ := cells6 hSw.two; obtain ⟨r0, r1, r2, r3, r4, r5⟩ := cells6 hSw.three; go_simp; (try rw [eP]); (try rw [eR]); (try rw [eU]); (try rw [beq_self_eq_true]); try with_reducible rfl
        (try simp only [Act.put, List.setIfInBounds_toArray, List.set_cons_zero, List.set_cons_succ])
        refine wpAnyH_take (i := 13) (oi := { dst := some 53, op := Op.load 29 (Operand.tmp 7), type := 29, pos := "law.go:58", after := #[{ on := 11, ground := Ground.guard }], guard := some (11, true) }) (v := ?_) rfl (by kernel_rfl) (by kernel_rfl) (by kernel_rfl) (fun _ _ _ h => h) (Or.inl ⟨by rfl, ?_⟩) (by assumption) ?_
        rotate_left
        · intro w hSw; (try dsimp only at hSw); obtain ⟨p0, p1, p2, p3, p4, p5⟩ := cells6 hSw.one; obtain ⟨q0, q1, q2, q3, q4, q5⟩ := cells6 hSw.two; obtain ⟨r0, r1, r2, r3, r4, r5⟩ := cells6 hSw.three; go_simp; (try rw [eP]); (try rw [eR]); (try rw [eU]); (try rw [beq_self_eq_true]); try with_reducible rfl
        (try simp only [Act.put, List.setIfInBounds_toArray, List.set_cons_zero, List.set_cons_succ])
        refine wpAnyH_take (i := 15) (oi := { dst := some 55, op := Op.move (Operand.tmp 0), type := 22, pos := "law.go:58", after := #[{ on := 11, ground := Ground.guard }], guard := some (11, true) }) (v := ?_) rfl (by kernel_rfl) (by kernel_rfl) (by kernel_rfl) (fun _ _ _ h => h) (Or.inl ⟨by rfl, ?_⟩) (by assumption) ?_
        rotate_left
        · intro w hSw; (try dsimp only at hSw); obtain ⟨p0, p1, p2, p3, p4, p5⟩ := cells6 hSw.one; obtain ⟨q0, q1, q2, q3, q4, q5⟩ := cells6 hSw.two; obtain ⟨r0, r1, r2, r3, r4, r5⟩ := cells6 hSw.three; go_simp; (try rw [eP]); (try rw [eR]); (try rw [eU]); (try rw [beq_self_eq_true]); try with_reducible rfl
        (try simp only [Act.put, List.setIfInBounds_toArray, List.set_cons_zero, List.set_cons_succ])
        refine wpAnyH_take (i := 16) (oi := { dst := some 56, op := Op.load 29 (Operand.tmp 4), type := 29, pos := "law.go:58", after := #[{ on := 11, ground := Ground.guard }], guard := some (11, true) }) (v := ?_) rfl (by kernel_rfl) (by kernel_rfl) (by kernel_rfl) (fun _ _ _ h => h) (Or.inl ⟨by rfl, ?_⟩) (by assumption) ?_
        rotate_left
        · intro w hSw; (try dsimp only at hSw); obtain ⟨p0, p1, p2, p3, p4, p5⟩ := cells6 hSw.one; obtain ⟨q0, q1, q2, q3, q4, q5⟩ := cells6 hSw.two; obtain ⟨r0, r1, r2, r3, r4, r5⟩ := cells6 hSw.three; go_simp; (try rw [eP]); (try rw [eR]); (try rw [eU]); (try rw [beq_self_eq_true]); try with_reducible rfl
        (try simp only [Act.put, List.setIfInBounds_toArray, List.set_cons_zero, List.set_cons_succ])
        refine wpAnyH_take (i := 18) (oi := { dst := some 58, op := Op.move (Operand.tmp 0), type := 22, pos := "law.go:58", after := #[{ on := 11, ground := Ground.guard }], guard := some (11, true) }) (v := ?_) rfl (by kernel_rfl) (by kernel_rfl) (by kernel_rfl) (fun _ _ _ h => h) (Or.inl ⟨by rfl, ?_⟩) (by assumption) ?_
        rotate_left
        · intro w hSw; (try dsimp only at hSw); obtain ⟨p0, p1, p2, p3, p4, p5⟩ := cells6 hSw.one; obtain ⟨q0, q1, q2, q3, q4, q5⟩ := cells6 hSw.two; obtain ⟨r0, r1, r2, r3, r4, r5⟩ := cells6 hSw.three; go_simp; (try rw [eP]); (try rw [eR]); (try rw [eU]); (try rw [beq_self_eq_true]); try with_reducible rfl
        (try simp only [Act.put, List.setIfInBounds_toArray, List.set_cons_zero, List.set_cons_succ])
        refine wpAnyH_take (i := 19) (oi := { dst := some 59, op := Op.load 29 (Operand.tmp 5), type := 29, pos := "law.go:58", after := #[{ on := 11, ground := Ground.guard }], guard := some (11, true) }) (v := ?_) rfl (by kernel_rfl) (by kernel_rfl) (by kernel_rfl) (fun _ _ _ h => h) (Or.inl ⟨by rfl, ?_⟩) (by assumption) ?_
        rotate_left
        · intro w hSw; (try dsimp only at hSw); obtain ⟨p0, p1, p2, p3, p4, p5⟩ := cells6 hSw.one; obtain ⟨q0, q1, q2, q3, q4, q5⟩ := cells6 hSw.two; obtain ⟨r0, r1, r2, r3, r4, r5⟩ := cells6 hSw.three; go_simp; (try rw [eP]); (try rw [eR]); (try rw [eU]); (try rw [beq_self_eq_true]); try with_reducible rfl
        (try simp only [Act.put, List.setIfInBounds_toArray, List.set_cons_zero, List.set_cons_succ])
        refine wpAnyH_ready (rs := [14]) (by kernel_rfl) (by simp) ?_
        refine AllReadyH.cons (o := { dst := some 54, op := Op.call { callee := Callee.value (Operand.func 19), args := #[Operand.tmp 52, Operand.tmp 53], argTypes := #[22, 29] }, type := 2, pos := "law.go:58", after := #[{ on := 12, ground := Ground.data }, { on := 13, ground := Ground.data }, { on := 11, ground := Ground.chain }, { on := 11, ground := Ground.guard }], guard := some (11, true) }) rfl (fun K hK => ?_) AllReadyH.nil
        go_simp
        refine (RZ.out _ hHeld.below).mono ?_
        rintro qq vv ⟨rfl, hb⟩
        have HK := Lib.hid (hHeld.keep hb)
        clear hb hHeld
        refine hK.out _ _ ?_ (fun hHeld => ?_)
        · exact HK.out
        clear HK
        clear hK K
        (try simp only [Act.put, List.setIfInBounds_toArray, List.set_cons_zero, List.set_cons_succ])
        refine wpAnyH_ready (rs := [17]) (by kernel_rfl) (by simp) ?_
        refine AllReadyH.cons (o := { dst := some 57, op := Op.call { callee := Callee.value (Operand.func 19), args := #[Operand.tmp 55, Operand.tmp 56], argTypes := #[22, 29] }, type := 2, pos := "law.go:58", after := #[{ on := 15, ground := Ground.data }, { on := 16, ground := Ground.data }, { on := 14, ground := Ground.chain }, { on := 11, ground := Ground.guard }], guard := some (11, true) }) rfl (fun K hK => ?_) AllReadyH.nil
        go_simp
        refine (RX.out _ hHeld.below).mono ?_
        rintro qq vv ⟨rfl, hb⟩
        have HK := Lib.hid (hHeld.keep hb)
        clear hb hHeld
        refine hK.out _ _ ?_ (fun hHeld => ?_)
        · exact HK.out
        clear HK
        clear hK K
        (try simp only [Act.put, List.setIfInBounds_toArray, List.set_cons_zero, List.set_cons_succ])
        refine wpAnyH_ready (rs := [20]) (by kernel_rfl) (by simp) ?_
        refine AllReadyH.cons (o := { dst := some 60, op := Op.call { callee := Callee.value (Operand.func 19), args := #[Operand.tmp 58, Operand.tmp 59], argTypes := #[22, 29] }, type := 2, pos := "law.go:58", after := #[{ on := 18, ground := Ground.data }, { on := 19, ground := Ground.data }, { on := 17, ground := Ground.chain }, { on := 11, ground := Ground.guard }], guard := some (11, true) }) rfl (fun K hK => ?_) AllReadyH.nil
        go_simp
        refine (RY.out _ hHeld.below).mono ?_
        rintro qq vv ⟨rfl, hb⟩
        have HK := Lib.hid (hHeld.keep hb)
        clear hb hHeld
        refine hK.out _ _ ?_ (fun hHeld => ?_)
        · exact HK.out
        clear HK
        clear hK K
        (try simp only [Act.put, List.setIfInBounds_toArray, List.set_cons_zero, List.set_cons_succ])
        refine wpAnyH_take (i := 21) (oi := { dst := some 61, op := Op.binOp BinOp.add 2 (Operand.tmp 57) (Operand.tmp 60) 2, type := 2, pos := "law.go:58", after := #[{ on := 17, ground := Ground.data }, { on := 20, ground := Ground.data }, { on := 11, ground := Ground.guard }], guard := some (11, true) }) (v := ?_) rfl (by kernel_rfl) (by kernel_rfl) (by kernel_rfl) (fun _ _ _ h => h) (Or.inl ⟨by rfl, ?_⟩) (by assumption) ?_
        rotate_left
        · intro w hSw; (try dsimp only at hSw); obtain ⟨p0, p1, p2, p3, p4, p5⟩ := cells6 hSw.one; obtain ⟨q0, q1, q2, q3, q4, q5⟩ := cells6 hSw.two; obtain ⟨r0, r1, r2, r3, r4, r5⟩ := cells6 hSw.three; go_simp; (try rw [eP]); (try rw [eR]); (try rw [eU]); (try rw [beq_self_eq_true]); try with_reducible rfl
        (try simp only [Act.put, List.setIfInBounds_toArray, List.set_cons_zero, List.set_cons_succ])
        refine wpAnyH_take (i := 22) (oi := { dst := some 62, op := Op.binOp BinOp.eql 2 (Operand.tmp 54) (Operand.tmp 61) 2, type := 4, pos := "law.go:58", after := #[{ on := 14, ground := Ground.data }, { on := 21, ground := Ground.data }, { on := 11, ground := Ground.guard }], guard := some (11, true) }) (v := ?_) rfl (by kernel_rfl) (by kernel_rfl) (by kernel_rfl) (fun _ _ _ h => h) (Or.inl ⟨by rfl, ?_⟩) (by assumption) ?_
        rotate_left
        · intro w hSw; (try dsimp only at hSw); obtain ⟨p0, p1, p2, p3, p4, p5⟩ := cells6 hSw.one; obtain ⟨q0, q1, q2, q3, q4, q5⟩ := cells6 hSw.two; obtain ⟨r0, r1, r2, r3, r4, r5⟩ := cells6 hSw.three; go_simp; (try rw [eP]); (try rw [eR]); (try rw [eU]); (try rw [beq_self_eq_true]); try with_reducible rfl
        (try simp only [Act.put, List.setIfInBounds_toArray, List.set_cons_zero, List.set_cons_succ])
        refine wpAnyH_take (i := 23) (oi := { dst := some 63, op := Op.pick (Operand.tmp 51) (Operand.tmp 62) (Operand.const (Value.bool false)), type := 4, pos := "law.go:58", after := #[{ on := 11, ground := Ground.data }, { on := 22, ground := Ground.data }], guard := none }) (v := ?_) rfl (by kernel_rfl) (by kernel_rfl) (by kernel_rfl) (fun _ _ _ h => h) (Or.inl ⟨by rfl, ?_⟩) (by assumption) ?_
        rotate_left
        · intro w hSw; (try dsimp only at hSw); obtain ⟨p0, p1, p2, p3, p4, p5⟩ := cells6 hSw.one; obtain ⟨q0, q1, q2, q3, q4, q5⟩ := cells6 hSw.two; obtain ⟨r0, r1, r2, r3, r4, r5⟩ := cells6 hSw.three; go_simp; (try rw [eP]); (try rw [eR]); (try rw [eU]); (try rw [beq_self_eq_true]); try with_reducible rfl
        (try simp only [Act.put, List.setIfInBounds_toArray, List.set_cons_zero, List.set_cons_succ])
        refine wpAnyH_take (i := 24) (oi := { dst := some 64, op := Op.move (Operand.tmp 63), type := 4, pos := "law.go:58", after := #[{ on := 23, ground := Ground.data }, { on := 20, ground := Ground.chain }], guard := none }) (v := ?_) rfl (by kernel_rfl) (by kernel_rfl) (by kernel_rfl) (fun _ _ _ h => h) (Or.inl ⟨by rfl, ?_⟩) (by assumption) ?_
        rotate_left
        · intro w hSw; (try dsimp only at hSw); obtain ⟨p0, p1, p2, p3, p4, p5⟩ := cells6 hSw.one; obtain ⟨q0, q1, q2, q3, q4, q5⟩ := cells6 hSw.two; obtain ⟨r0, r1, r2, r3, r4, r5⟩ := cells6 hSw.three; go_simp; (try rw [eP]); (try rw [eR]); (try rw [eU]); (try rw [beq_self_eq_true]); try with_reducible rfl
        (try simp only [Act.put, List.setIfInBounds_toArray, List.set_cons_zero, List.set_cons_succ])
        refine wpAnyH_take (i := 25) (oi := { dst := some 65, op := Op.move (Operand.tmp 0), type := 22, pos := "law.go:58", after := #[{ on := 24, ground := Ground.guard }], guard := some (24, true) }) (v := ?_) rfl (by kernel_rfl) (by kernel_rfl) (by kernel_rfl) (fun _ _ _ h => h) (Or.inl ⟨by rfl, ?_⟩) (by assumption) ?_
        rotate_left
        · intro w hSw; (try dsimp only at hSw); obtain ⟨p0, p1, p2, p3, p4, p5⟩ := cells6 hSw.one; obtain ⟨q0, q1, q2, q3, q4, q5⟩ := cells6 hSw.two; obtain ⟨r0, r1, r2, r3, r4, r5⟩ := cells6 hSw.three; go_simp; (try rw [eP]); (try rw [eR]); (try rw [eU]); (try rw [beq_self_eq_true]); try with_reducible rfl
        (try simp only [Act.put, List.setIfInBounds_toArray, List.set_cons_zero, List.set_cons_succ])
        refine wpAnyH_take (i := 26) (oi := { dst := some 66, op := Op.load 29 (Operand.tmp 7), type := 29, pos := "law.go:58", after := #[{ on := 24, ground := Ground.guard }], guard := some (24, true) }) (v := ?_) rfl (by kernel_rfl) (by kernel_rfl) (by kernel_rfl) (fun _ _ _ h => h) (Or.inl ⟨by rfl, ?_⟩) (by assumption) ?_
        rotate_left
        · intro w hSw; (try dsimp only at hSw); obtain ⟨p0, p1, p2, p3, p4, p5⟩ := cells6 hSw.one; obtain ⟨q0, q1, q2, q3, q4, q5⟩ := cells6 hSw.two; obtain ⟨r0, r1, r2, r3, r4, r5⟩ := cells6 hSw.three; go_simp; (try rw [eP]); (try rw [eR]); (try rw [eU]); (try rw [beq_self_eq_true]); try with_reducible rfl
        (try simp only [Act.put, List.setIfInBounds_toArray, List.set_cons_zero, List.set_cons_succ])
        refine wpAnyH_take (i := 28) (oi := { dst := some 68, op := Op.move (Operand.tmp 0), type := 22, pos := "law.go:58", after := #[{ on := 24, ground := Ground.guard }], guard := some (24, true) }) (v := ?_) rfl (by kernel_rfl) (by kernel_rfl) (by kernel_rfl) (fun _ _ _ h => h) (Or.inl ⟨by rfl, ?_⟩) (by assumption) ?_
        rotate_left
        · intro w hSw; (try dsimp only at hSw); obtain ⟨p0, p1, p2, p3, p4, p5⟩ := cells6 hSw.one; obtain ⟨q0, q1, q2, q3, q4, q5⟩ := cells6 hSw.two; obtain ⟨r0, r1, r2, r3, r4, r5⟩ := cells6 hSw.three; go_simp; (try rw [eP]); (try rw [eR]); (try rw [eU]); (try rw [beq_self_eq_true]); try with_reducible rfl
        (try simp only [Act.put, List.setIfInBounds_toArray, List.set_cons_zero, List.set_cons_succ])
        refine wpAnyH_take (i := 29) (oi := { dst := some 69, op := Op.load 29 (Operand.tmp 4), type := 29, pos := "law.go:58", after := #[{ on := 24, ground := Ground.guard }], guard := some (24, true) }) (v := ?_) rfl (by kernel_rfl) (by kernel_rfl) (by kernel_rfl) (fun _ _ _ h => h) (Or.inl ⟨by rfl, ?_⟩) (by assumption) ?_
        rotate_left
        · intro w hSw; (try dsimp only at hSw); obtain ⟨p0, p1, p2, p3, p4, p5⟩ := cells6 hSw.one; obtain ⟨q0, q1, q2, q3, q4, q5⟩ := cells6 hSw.two; obtain ⟨r0, r1, r2, r3, r4, r5⟩ := cells6 hSw.three; go_simp; (try rw [eP]); (try rw [eR]); (try rw [eU]); (try rw [beq_self_eq_true]); try with_reducible rfl
        (try simp only [Act.put, List.setIfInBounds_toArray, List.set_cons_zero, List.set_cons_succ])
        refine wpAnyH_take (i := 31) (oi := { dst := some 71, op := Op.move (Operand.tmp 0), type := 22, pos := "law.go:58", after := #[{ on := 24, ground := Ground.guard }], guard := some (24, true) }) (v := ?_) rfl (by kernel_rfl) (by kernel_rfl) (by kernel_rfl) (fun _ _ _ h => h) (Or.inl ⟨by rfl, ?_⟩) (by assumption) ?_
        rotate_left
        · intro w hSw; (try dsimp only at hSw); obtain ⟨p0, p1, p2, p3, p4, p5⟩ := cells6 hSw.one; obtain ⟨q0, q1, q2, q3, q4, q5⟩ := cells6 hSw.two; obtain ⟨r0, r1, r2, r3, r4, r5⟩ := cells6 hSw.three; go_simp; (try rw [eP]); (try rw [eR]); (try rw [eU]); (try rw [beq_self_eq_true]); try with_reducible rfl
        (try simp only [Act.put, List.setIfInBounds_toArray, List.set_cons_zero, List.set_cons_succ])
        refine wpAnyH_take (i := 32) (oi := { dst := some 72, op := Op.load 29 (Operand.tmp 5), type := 29, pos := "law.go:58", after := #[{ on := 24, ground := Ground.guard }], guard := some (24, true) }) (v := ?_) rfl (by kernel_rfl) (by kernel_rfl) (by kernel_rfl) (fun _ _ _ h => h) (Or.inl ⟨by rfl, ?_⟩) (by assumption) ?_
        rotate_left
        · intro w hSw; (try dsimp only at hSw); obtain ⟨p0, p1, p2, p3, p4, p5⟩ := cells6 hSw.one; obtain ⟨q0, q1, q2, q3, q4, q5⟩ := cells6 hSw.two; obtain ⟨r0, r1, r2, r3, r4, r5⟩ := cells6 hSw.three; go_simp; (try rw [eP]); (try rw [eR]); (try rw [eU]); (try rw [beq_self_eq_true]); try with_reducible rfl
        (try simp only [Act.put, List.setIfInBounds_toArray, List.set_cons_zero, List.set_cons_succ])
        refine wpAnyH_ready (rs := [27]) (by kernel_rfl) (by simp) ?_
        refine AllReadyH.cons (o := { dst := some 67, op := Op.call { callee := Callee.value (Operand.func 20), args := #[Operand.tmp 65, Operand.const (Value.int IntKind.i64 1), Operand.tmp 66], argTypes := #[22, 3, 29] }, type := 3, pos := "law.go:58", after := #[{ on := 25, ground := Ground.data }, { on := 26, ground := Ground.data }, { on := 24, ground := Ground.chain }, { on := 24, ground := Ground.guard }], guard := some (24, true) }) rfl (fun K hK => ?_) AllReadyH.nil
        go_simp
        refine (UZ.out _ hHeld.below).mono ?_
        rintro qq vv ⟨rfl, hb⟩
        have HK := Lib.hid (hHeld.keep hb)
        clear hb hHeld
        refine hK.out _ _ ?_ (fun hHeld => ?_)
        · exact HK.out
        clear HK
        clear hK K
        (try simp only [Act.put, List.setIfInBounds_toArray, List.set_cons_zero, List.set_cons_succ])
        refine wpAnyH_ready (rs := [30]) (by kernel_rfl) (by simp) ?_
        refine AllReadyH.cons (o := { dst := some 70, op := Op.call { callee := Callee.value (Operand.func 20), args := #[Operand.tmp 68, Operand.const (Value.int IntKind.i64 1), Operand.tmp 69], argTypes := #[22, 3, 29] }, type := 3, pos := "law.go:58", after := #[{ on := 28, ground := Ground.data }, { on := 29, ground := Ground.data }, { on := 27, ground := Ground.chain }, { on := 24, ground := Ground.guard }], guard := some (24, true) }) rfl (fun K hK => ?_) AllReadyH.nil
        go_simp
        refine (UX.out _ hHeld.below).mono ?_
        rintro qq vv ⟨rfl, hb⟩
        have HK := Lib.hid (hHeld.keep hb)
        clear hb hHeld
        refine hK.out _ _ ?_ (fun hHeld => ?_)
        · exact HK.out
        clear HK
        clear hK K
        (try simp only [Act.put, List.setIfInBounds_toArray, List.set_cons_zero, List.set_cons_succ])
        refine wpAnyH_ready (rs := [33]) (by kernel_rfl) (by simp) ?_
        refine AllReadyH.cons (o := { dst := some 73, op := Op.call { callee := Callee.value (Operand.func 20), args := #[Operand.tmp 71, Operand.const (Value.int IntKind.i64 1), Operand.tmp 72], argTypes := #[22, 3, 29] }, type := 3, pos := "law.go:58", after := #[{ on := 31, ground := Ground.data }, { on := 32, ground := Ground.data }, { on := 30, ground := Ground.chain }, { on := 24, ground := Ground.guard }], guard := some (24, true) }) rfl (fun K hK => ?_) AllReadyH.nil
        go_simp
        refine (UY.out _ hHeld.below).mono ?_
        rintro qq vv ⟨rfl, hb⟩
        have HK := Lib.hid (hHeld.keep hb)
        clear hb hHeld
        refine hK.out _ _ ?_ (fun hHeld => ?_)
        · exact HK.out
        clear HK
        clear hK K
        (try simp only [Act.put, List.setIfInBounds_toArray, List.set_cons_zero, List.set_cons_succ])
        refine wpAnyH_take (i := 34) (oi := { dst := some 74, op := Op.binOp BinOp.add 3 (Operand.tmp 70) (Operand.tmp 73) 3, type := 3, pos := "law.go:58", after := #[{ on := 30, ground := Ground.data }, { on := 33, ground := Ground.data }, { on := 24, ground := Ground.guard }], guard := some (24, true) }) (v := ?_) rfl (by kernel_rfl) (by kernel_rfl) (by kernel_rfl) (fun _ _ _ h => h) (Or.inl ⟨by rfl, ?_⟩) (by assumption) ?_
        rotate_left
        · intro w hSw; (try dsimp only at hSw); obtain ⟨p0, p1, p2, p3, p4, p5⟩ := cells6 hSw.one; obtain ⟨q0, q1, q2, q3, q4, q5⟩ := cells6 hSw.two; obtain ⟨r0, r1, r2, r3, r4, r5⟩ := cells6 hSw.three; go_simp; (try rw [eP]); (try rw [eR]); (try rw [eU]); (try rw [beq_self_eq_true]); try with_reducible rfl
        (try simp only [Act.put, List.setIfInBounds_toArray, List.set_cons_zero, List.set_cons_succ])
        refine wpAnyH_take (i := 35) (oi := { dst := some 75, op := Op.binOp BinOp.eql 3 (Operand.tmp 67) (Operand.tmp 74) 3, type := 4, pos := "law.go:58", after := #[{ on := 27, ground := Ground.data }, { on := 34, ground := Ground.data }, { on := 24, ground := Ground.guard }], guard := some (24, true) }) (v := ?_) rfl (by kernel_rfl) (by kernel_rfl) (by kernel_rfl) (fun _ _ _ h => h) (Or.inl ⟨by rfl, ?_⟩) (by assumption) ?_
        rotate_left
        · intro w hSw; (try dsimp only at hSw); obtain ⟨p0, p1, p2, p3, p4, p5⟩ := cells6 hSw.one; obtain ⟨q0, q1, q2, q3, q4, q5⟩ := cells6 hSw.two; obtain ⟨r0, r1, r2, r3, r4, r5⟩ := cells6 hSw.three; go_simp; (try rw [eP]); (try rw [eR]); (try rw [eU]); (try rw [beq_self_eq_true]); try with_reducible rfl
        (try simp only [Act.put, List.setIfInBounds_toArray, List.set_cons_zero, List.set_cons_succ])
        refine wpAnyH_take (i := 36) (oi := { dst := some 76, op := Op.pick (Operand.tmp 64) (Operand.tmp 75) (Operand.const (Value.bool false)), type := 4, pos := "law.go:58", after := #[{ on := 24, ground := Ground.data }, { on := 35, ground := Ground.data }], guard := none }) (v := ?_) rfl (by kernel_rfl) (by kernel_rfl) (by kernel_rfl) (fun _ _ _ h => h) (Or.inl ⟨by rfl, ?_⟩) (by assumption) ?_
        rotate_left
        · intro w hSw; (try dsimp only at hSw); obtain ⟨p0, p1, p2, p3, p4, p5⟩ := cells6 hSw.one; obtain ⟨q0, q1, q2, q3, q4, q5⟩ := cells6 hSw.two; obtain ⟨r0, r1, r2, r3, r4, r5⟩ := cells6 hSw.three; go_simp; (try rw [eP]); (try rw [eR]); (try rw [eU]); (try rw [beq_self_eq_true]); try with_reducible rfl
        (try simp only [Act.put, List.setIfInBounds_toArray, List.set_cons_zero, List.set_cons_succ])
        refine wpAnyH_take (i := 37) (oi := { dst := some 77, op := Op.move (Operand.tmp 76), type := 4, pos := "law.go:58", after := #[{ on := 36, ground := Ground.data }, { on := 33, ground := Ground.chain }], guard := none }) (v := ?_) rfl (by kernel_rfl) (by kernel_rfl) (by kernel_rfl) (fun _ _ _ h => h) (Or.inl ⟨by rfl, ?_⟩) (by assumption) ?_
        rotate_left
        · intro w hSw; (try dsimp only at hSw); obtain ⟨p0, p1, p2, p3, p4, p5⟩ := cells6 hSw.one; obtain ⟨q0, q1, q2, q3, q4, q5⟩ := cells6 hSw.two; obtain ⟨r0, r1, r2, r3, r4, r5⟩ := cells6 hSw.three; go_simp; (try rw [eP]); (try rw [eR]); (try rw [eU]); (try rw [beq_self_eq_true]); try with_reducible rfl
        (try simp only [Act.put, List.setIfInBounds_toArray, List.set_cons_zero, List.set_cons_succ])
        refine wpAnyH_ready (rs := [38]) (by kernel_rfl) (by simp) ?_
        refine AllReadyH.cons (o := { dst := some 78, op := Op.call { callee := Callee.value (Operand.func 10), args := #[], argTypes := #[] }, type := 4, pos := "law.go:58", after := #[{ on := 37, ground := Ground.chain }, { on := 37, ground := Ground.guard }], guard := some (37, true) }) rfl (fun K hK => ?_) AllReadyH.nil
        go_simp
        refine (AW.out _).mono ?_
        rintro qq vv ⟨rfl, hb⟩
        have HK := Lib.hid (hHeld.keep hb)
        clear hb hHeld
        refine hK.out _ _ ?_ (fun hHeld => ?_)
        · exact HK.out
        clear HK
        clear hK K
        (try simp only [Act.put, List.setIfInBounds_toArray, List.set_cons_zero, List.set_cons_succ])
        refine wpAnyH_take (i := 39) (oi := { dst := some 79, op := Op.pick (Operand.tmp 77) (Operand.tmp 78) (Operand.const (Value.bool false)), type := 4, pos := "law.go:58", after := #[{ on := 37, ground := Ground.data }, { on := 38, ground := Ground.data }], guard := none }) (v := ?_) rfl (by kernel_rfl) (by kernel_rfl) (by kernel_rfl) (fun _ _ _ h => h) (Or.inl ⟨by rfl, ?_⟩) (by assumption) ?_
        rotate_left
        · intro w hSw; (try dsimp only at hSw); obtain ⟨p0, p1, p2, p3, p4, p5⟩ := cells6 hSw.one; obtain ⟨q0, q1, q2, q3, q4, q5⟩ := cells6 hSw.two; obtain ⟨r0, r1, r2, r3, r4, r5⟩ := cells6 hSw.three; go_simp; (try rw [eP]); (try rw [eR]); (try rw [eU]); (try rw [beq_self_eq_true]); try with_reducible rfl
        (try simp only [Act.put, List.setIfInBounds_toArray, List.set_cons_zero, List.set_cons_succ])
        refine wpAnyH_take (i := 40) (oi := { dst := some 6, op := Op.assign (Operand.tmp 79), type := 4, pos := "law.go:58", after := #[{ on := 39, ground := Ground.data }, { on := 38, ground := Ground.chain }, { on := 0, ground := Ground.phase }, { on := 1, ground := Ground.phase }, { on := 2, ground := Ground.phase }, { on := 3, ground := Ground.phase }, { on := 4, ground := Ground.phase }, { on := 5, ground := Ground.phase }, { on := 6, ground := Ground.phase }, { on := 7, ground := Ground.phase }, { on := 8, ground := Ground.phase }, { on := 9, ground := Ground.phase }, { on := 10, ground := Ground.phase }, { on := 11, ground := Ground.phase }, { on := 12, ground := Ground.phase }, { on := 13, ground := Ground.phase }, { on := 14, ground := Ground.phase }, { on := 15, ground := Ground.phase }, { on := 16, ground := Ground.phase }, { on := 17, ground := Ground.phase }, { on := 18, ground := Ground.phase }, { on := 19, ground := Ground.phase }, { on := 20, ground := Ground.phase }, { on := 21, ground := Ground.phase }, { on := 22, ground := Ground.phase }, { on := 23, ground := Ground.phase }, { on := 24, ground := Ground.phase }, { on := 25, ground := Ground.phase }, { on := 26, ground := Ground.phase }, { on := 27, ground := Ground.phase }, { on := 28, ground := Ground.phase }, { on := 29, ground := Ground.phase }, { on := 30, ground := Ground.phase }, { on := 31, ground := Ground.phase }, { on := 32, ground := Ground.phase }, { on := 33, ground := Ground.phase }, { on := 34, ground := Ground.phase }, { on := 35, ground := Ground.phase }, { on := 36, ground := Ground.phase }, { on := 37, ground := Ground.phase }, { on := 38, ground := Ground.phase }, { on := 39, ground := Ground.phase }], guard := none }) (v := ?_) rfl (by kernel_rfl) (by kernel_rfl) (by kernel_rfl) (fun _ _ _ h => h) (Or.inl ⟨by rfl, ?_⟩) (by assumption) ?_
        rotate_left
        · intro w hSw; (try dsimp only at hSw); obtain ⟨p0, p1, p2, p3, p4, p5⟩ := cells6 hSw.one; obtain ⟨q0, q1, q2, q3, q4, q5⟩ := cells6 hSw.two; obtain ⟨r0, r1, r2, r3, r4, r5⟩ := cells6 hSw.three; go_simp; (try rw [eP]); (try rw [eR]); (try rw [eU]); (try rw [beq_self_eq_true]); try with_reducible rfl
        (try simp only [Act.put, List.setIfInBounds_toArray, List.set_cons_zero, List.set_cons_succ])
        refine wpAnyH_done (by kernel_rfl) ?_ _
        have B8 := Lib.hid hHeld.below
        clear hHeld
        go_wp2
        go_ret
        exact ⟨rfl, B8.out⟩
theorem adds_walk (A : Option Addr) (n c : Nat) (L : List Pr) (x0 x1 x2 x3 x4 x5 y0 y1 y2 y3 y4 y5 : Int) (w : World) (h : PrsIn w A n c L) : Calls Tryd.prog 5 #[.slice A n c, .agg #[.int .i64 x0, .int .i64 x1, .int .i64 x2, .int .i64 x3, .int .i64 x4, .int .i64 x5], .agg #[.int .i64 y0, .int .i64 y1, .int .i64 y2, .int .i64 y3, .int .i64 y4, .int .i64 y5]] w (Gives (.bool true) w) := by
  by_cases h100 : 100 < n
  · exact adds_long A n c _ _ _ _ _ _ _ _ _ _ _ _ w h100 h.cap_
  have h1 : n ≤ 100 := by omega
  cases hx : MB.okB [x0, x1, x2, x3, x4, x5] with
  | false => exact adds_one A n c _ _ _ _ _ _ _ _ _ _ _ _ w h1 h.cap_ hx
  | true =>
    cases hy : MB.okB [y0, y1, y2, y3, y4, y5] with
    | false => exact adds_two A n c _ _ _ _ _ _ _ _ _ _ _ _ w h1 h.cap_ hx hy
    | true => exact adds_main A n c _ _ _ _ _ _ _ _ _ _ _ _ w L (h.prs h1) h.cap_ hx hy
end Go.Proofs.YtdlpolnnhhnecaaDoor
