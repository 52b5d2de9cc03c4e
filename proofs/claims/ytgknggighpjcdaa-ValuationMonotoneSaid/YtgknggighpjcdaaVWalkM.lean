/- The walk of ValuationMonotone. No claim of its own. -/
import Derived.Test.YtgknggighpjcdaaVAwake
import Derived.Test.YtgknggighpjcdaaVFew
import Derived.Test.YtgknggighpjcdaaVRMono
namespace Go.Proofs.Ytgknggighpjcdaa
open Go.RowKit
theorem meet_le {a b : List Int} : VV.Le (meetB a b) a ∧ VV.Le (meetB a b) b := by
  refine ⟨fun j hj => ?_, fun j hj => ?_⟩ <;> · unfold meetB; rw [mapB_at _ hj]; split <;> omega
theorem meet_bu {a b : List Int} (ha : VV.Bu a) (hb : VV.Bu b) : VV.Bu (meetB a b) := ⟨rfl, fun j hj => by unfold meetB; rw [mapB_at _ hj]; have := ha.pos j hj; have := hb.pos j hj; split <;> omega⟩
theorem okB_le {a b : List Int} (ha : VV.Bu a) (hb : MB.okB b = true) (hl : b.length = 6) (h : VV.Le a b) : MB.okB a = true :=
  (K4.of_le ⟨hl, hb⟩ ha (VV.leB_iff.2 h)).ok
theorem le_full {a : List Int} (h : MB.okB a = true) (hl : a.length = 6) : VV.Le a full6 := fun j hj => by
  have h1 := (okB_at h (k := j) (by rw [hl]; exact hj)).2
  have e : MB.at_ full6 j = 4 := by
    have : j = 0 ∨ j = 1 ∨ j = 2 ∨ j = 3 ∨ j = 4 ∨ j = 5 := by omega
    rcases this with rfl | rfl | rfl | rfl | rfl | rfl <;> rfl
  rw [e]; exact h1
/-- Values never decrease. -/
theorem value_le {n : ME.Nd} {a b : List Int} (ha : VV.Bu a) (hb : MB.okB b = true) (hl : b.length = 6) (h : VV.Le a b) : VV.value n a ≤ VV.value n b := by
  have hbu := VV.bu_of_ok hl hb
  by_cases hc : ME.checkE n = 0
  · rw [value_ok hc (chk_ok (okB_le ha hb hl h)), value_ok hc (chk_ok hb)]
    exact (VV.AllOk.of hc).mono.up a b ha hbu h
  · rw [value_bad hc, value_bad hc]; exact Int.le_refl _
theorem value_z (n : ME.Nd) : VV.value n VV.Z = 0 := by
  by_cases hc : ME.checkE n = 0
  · rw [value_ok hc (by rfl)]; exact (VV.AllOk.of hc).z
  · exact value_bad hc
/-- The law's variables. -/
structure IM (w : World) (o x0 x1 x2 x3 x4 x5 v : Int) (A : Option Addr) (n cc : Nat) (a b : List Int) (X : World) : Prop where
  below : Below w.heap.size w X
  e : B9 X w.heap.size (.int .i64 o) (.int .i64 x0) (.int .i64 x1) (.int .i64 x2) (.int .i64 x3) (.int .i64 x4) (.int .i64 x5) (.int .i64 v) (.slice A n cc)
  a : BB X (w.heap.size + 1) 23 a
  b : BB X (w.heap.size + 1 + 1) 23 b
section
variable {w X Y : World} {o x0 x1 x2 x3 x4 x5 v : Int} {A : Option Addr} {n cc : Nat} {a b : List Int}
theorem IM.keep (h : IM w o x0 x1 x2 x3 x4 x5 v A n cc a b X) (hb : Below X.heap.size X Y) : IM w o x0 x1 x2 x3 x4 x5 v A n cc a b Y :=
  ⟨h.below.trans (hb.mono h.below.size), h.e.keep hb, h.a.keep hb h.a.lt, h.b.keep hb h.b.lt⟩
theorem IM.s (h : IM w o x0 x1 x2 x3 x4 x5 v A n cc a b X) : B9 X w.heap.size (.int .i64 o) (.int .i64 x0) (.int .i64 x1) (.int .i64 x2) (.int .i64 x3) (.int .i64 x4) (.int .i64 x5) (.int .i64 v) (.slice A n cc) ∧ BB X (w.heap.size + 1) 23 a ∧ BB X (w.heap.size + 1 + 1) 23 b := ⟨h.e, h.a, h.b⟩
theorem IM.start (w : World) (a0 a1 a2 a3 a4 a5 b0 b1 b2 b3 b4 b5 : Int) : IM w o x0 x1 x2 x3 x4 x5 v A n cc [a0, a1, a2, a3, a4, a5] [b0, b1, b2, b3, b4, b5] (((w.alloc (.cells #[.int .i64 o, .int .i64 x0, .int .i64 x1, .int .i64 x2, .int .i64 x3, .int .i64 x4, .int .i64 x5, .int .i64 v, .slice A n cc] 26)).alloc (.cells #[.int .i64 a0, .int .i64 a1, .int .i64 a2, .int .i64 a3, .int .i64 a4, .int .i64 a5] 23)).alloc (.cells #[.int .i64 b0, .int .i64 b1, .int .i64 b2, .int .i64 b3, .int .i64 b4, .int .i64 b5] 23)) := by
  have n1 := below_new (w.alloc (.cells #[.int .i64 o, .int .i64 x0, .int .i64 x1, .int .i64 x2, .int .i64 x3, .int .i64 x4, .int .i64 x5, .int .i64 v, .slice A n cc] 26)) (.cells #[.int .i64 a0, .int .i64 a1, .int .i64 a2, .int .i64 a3, .int .i64 a4, .int .i64 a5] 23)
  have n2 := below_new ((w.alloc (.cells #[.int .i64 o, .int .i64 x0, .int .i64 x1, .int .i64 x2, .int .i64 x3, .int .i64 x4, .int .i64 x5, .int .i64 v, .slice A n cc] 26)).alloc (.cells #[.int .i64 a0, .int .i64 a1, .int .i64 a2, .int .i64 a3, .int .i64 a4, .int .i64 a5] 23)) (.cells #[.int .i64 b0, .int .i64 b1, .int .i64 b2, .int .i64 b3, .int .i64 b4, .int .i64 b5] 23)
  refine ⟨below_three w _ _ _, ?_, ?_, ?_⟩
  · exact ((n2.block w.heap.size (by simp; omega)).trans (n1.block w.heap.size (by simp))).trans (heap_new w _)
  · have := (BB.new (w.alloc (.cells #[.int .i64 o, .int .i64 x0, .int .i64 x1, .int .i64 x2, .int .i64 x3, .int .i64 x4, .int .i64 x5, .int .i64 v, .slice A n cc] 26)) 23 a0 a1 a2 a3 a4 a5).alloc (.cells #[.int .i64 b0, .int .i64 b1, .int .i64 b2, .int .i64 b3, .int .i64 b4, .int .i64 b5] 23)
    rwa [World.size_alloc] at this
  · have := BB.new ((w.alloc (.cells #[.int .i64 o, .int .i64 x0, .int .i64 x1, .int .i64 x2, .int .i64 x3, .int .i64 x4, .int .i64 x5, .int .i64 v, .slice A n cc] 26)).alloc (.cells #[.int .i64 a0, .int .i64 a1, .int .i64 a2, .int .i64 a3, .int .i64 a4, .int .i64 a5] 23)) 23 b0 b1 b2 b3 b4 b5
    rwa [World.size_alloc, World.size_alloc] at this
end
attribute [local go_sem] Oper.semAt_some
set_option maxRecDepth 100000 in
set_option maxHeartbeats 8000000 in
theorem valuationMonotone_walk (x : NT) (a0 a1 a2 a3 a4 a5 b0 b1 b2 b3 b4 b5 : Int) (w : World) (hok : x.Ok w (fun _ => True)) : Calls Try.prog 3 #[x.val, .agg #[.int .i64 a0, .int .i64 a1, .int .i64 a2, .int .i64 a3, .int .i64 a4, .int .i64 a5], .agg #[.int .i64 b0, .int .i64 b1, .int .i64 b2, .int .i64 b3, .int .i64 b4, .int .i64 b5]] w (Gives (.bool true) w) := by
  have AW := Lib.hid (fun w' => awake13_any w')
  have CF := Lib.hid (fun w' (hb : Below w.heap.size w w') => few13_any x w' _ (hok.below hb))
  have CKa := Lib.hid (fun w' => rbcheck_any a0 a1 a2 a3 a4 a5 w')
  have CKb := Lib.hid (fun w' => rbcheck_any b0 b1 b2 b3 b4 b5 w')
  have CT := Lib.hid (fun w' => rmeet_any a0 a1 a2 a3 a4 a5 b0 b1 b2 b3 b4 b5 w')
  have HV := Lib.hid (fun (hx : x.size ≤ 2000000) c0 c1 c2 c3 c4 c5 w' (hb : Below w.heap.size w w') => value_any x hx c0 c1 c2 c3 c4 c5 w' _ (hok.below hb))
  have HM := Lib.hid (fun (hx : x.size ≤ 2000000) w' (hb : Below w.heap.size w w') => most_any x hx w' _ (hok.below hb))
  have HS : Hid (VV.few x.n = true → x.size ≤ 2000000) := Lib.hid (fun h => by have := VV.few_size h; rw [NT.size_n] at this; omega)
  obtain ⟨o, bb, v, A, cc, k⟩ := x
  obtain ⟨x0, x1, x2, x3, x4, x5, rfl⟩ := six hok.six
  rw [NT.val_lit] at CF HV HM ⊢
  clear hok
  have I0 := Lib.hid (IM.start (o := o) (x0 := x0) (x1 := x1) (x2 := x2) (x3 := x3) (x4 := x4) (x5 := x5) (v := v) (A := A) (n := k.len) (cc := cc) w a0 a1 a2 a3 a4 a5 b0 b1 b2 b3 b4 b5)
  go_enter Try.func3, Try.ntmps3
  go_upto_region 1 with (fail)
  generalize ((w.alloc (.cells #[.int .i64 o, .int .i64 x0, .int .i64 x1, .int .i64 x2, .int .i64 x3, .int .i64 x4, .int .i64 x5, .int .i64 v, .slice A k.len cc] 26)).alloc (.cells #[.int .i64 a0, .int .i64 a1, .int .i64 a2, .int .i64 a3, .int .i64 a4, .int .i64 a5] 23)).alloc (.cells #[.int .i64 b0, .int .i64 b1, .int .i64 b2, .int .i64 b3, .int .i64 b4, .int .i64 b5] 23) = w1 at *
  have hval : ∀ c0 c1 c2 c3 c4 c5 : Int, 0 ≤ VV.value (NT.n ⟨o, [x0, x1, x2, x3, x4, x5], v, A, cc, k⟩) [c0, c1, c2, c3, c4, c5] := fun _ _ _ _ _ _ => (VV.value_range rfl).1
  have HVAL := Lib.hid hval
  clear hval
  obtain ⟨e0, e1, e2, e3, e4, e5, e6, e7, e8⟩ := I0.out.e.cells
  obtain ⟨r0, r1, r2, r3, r4, r5⟩ := cells6 I0.out.a
  obtain ⟨s0, s1, s2, s3, s4, s5⟩ := cells6 I0.out.b
  generalize hN : NT.n ⟨o, [x0, x1, x2, x3, x4, x5], v, A, cc, k⟩ = N at *
  clear hN
  have skip : ∀ w', Below w.heap.size w w' → True := fun _ _ => trivial
  clear skip
  by_cases hfw : VV.few N = true
  · rw [hfw] at CF
    have hx := HS.out hfw
    have HV2 := Lib.hid (HV.out hx)
    have CM := Lib.hid (HM.out hx)
    clear hfw HS HV HM
    go_wp2_with fail
    refine (CF.out _ I0.out.below).mono ?_
    rintro ev w2 ⟨rfl, nb⟩
    have I2 := Lib.hid (I0.out.keep nb)
    clear nb I0 CF e0 e1 e2 e3 e4 e5 e6 e7 e8 r0 r1 r2 r3 r4 r5 s0 s1 s2 s3 s4 s5
    obtain ⟨r0, r1, r2, r3, r4, r5⟩ := cells6 I2.out.a
    obtain ⟨s0, s1, s2, s3, s4, s5⟩ := cells6 I2.out.b
    by_cases ha : chk [a0, a1, a2, a3, a4, a5] = 0
    · have HA := Lib.hid (VV.ok_of_chk ha)
      rw [ha] at CKa
      clear ha
      go_wp2_with fail
      refine (CKa.out _).mono ?_
      rintro ev w3 ⟨rfl, nb⟩
      have I3 := Lib.hid (I2.out.keep nb)
      clear nb I2 CKa r0 r1 r2 r3 r4 r5 s0 s1 s2 s3 s4 s5
      obtain ⟨s0, s1, s2, s3, s4, s5⟩ := cells6 I3.out.b
      by_cases hb : chk [b0, b1, b2, b3, b4, b5] = 0
      · have HB := Lib.hid (VV.ok_of_chk hb)
        rw [hb] at CKb
        clear hb
        go_wp2_with fail
        refine (CKb.out _).mono ?_
        rintro ev w4 ⟨rfl, nb⟩
        have I4 := Lib.hid (I3.out.keep nb)
        clear nb I3 CKb s0 s1 s2 s3 s4 s5
        have hab := VV.bu_of_ok (b := [a0, a1, a2, a3, a4, a5]) rfl HA.out
        have hbb := VV.bu_of_ok (b := [b0, b1, b2, b3, b4, b5]) rfl HB.out
        have hmb := meet_bu hab hbb
        have g1 := value_le (n := N) hmb HA.out rfl (meet_le (b := [b0, b1, b2, b3, b4, b5])).1
        have g2 := value_le (n := N) hmb HB.out rfl (meet_le (a := [a0, a1, a2, a3, a4, a5])).2
        have g3 := value_le (n := N) hab (b := full6) (by rfl) rfl (le_full HA.out rfl)
        have g4 := value_le (n := N) hbb (b := full6) (by rfl) rfl (le_full HB.out rfl)
        have g5 := HVAL.out a0 a1 a2 a3 a4 a5
        have CA := Lib.hid (HV2.out a0 a1 a2 a3 a4 a5)
        have CB := Lib.hid (HV2.out b0 b1 b2 b3 b4 b5)
        have CZ := Lib.hid (HV2.out 0 0 0 0 0 0)
        rw [show VV.value N [0, 0, 0, 0, 0, 0] = 0 from value_z N] at CZ
        clear hab hbb hmb
        obtain ⟨m0, m1, m2, m3, m4, m5, hm6⟩ := six (xs := meetB [a0, a1, a2, a3, a4, a5] [b0, b1, b2, b3, b4, b5]) rfl
        rw [hm6] at g1 g2
        simp only [hm6, aggB_lit] at CT
        have CMe := Lib.hid (HV2.out m0 m1 m2 m3 m4 m5)
        clear hm6 HV2
        generalize VV.value N [a0, a1, a2, a3, a4, a5] = va at *
        generalize VV.value N [b0, b1, b2, b3, b4, b5] = vb at *
        generalize VV.value N [m0, m1, m2, m3, m4, m5] = vz at *
        generalize VV.value N full6 = vm at *
        have d1 : decide (vz ≤ va) = true := decide_eq_true g1
        have d2 : decide (vz ≤ vb) = true := decide_eq_true g2
        have d3 : decide (va ≤ vm) = true := decide_eq_true g3
        have d4 : decide (vb ≤ vm) = true := decide_eq_true g4
        have d5 : decide (0 ≤ va) = true := decide_eq_true g5
        clear g1 g2 g3 g4 g5
        go_upto_region 3 with (fail)
        have I5 := Lib.hid (I4.out.keep (below_drawn w4))
        clear I4
        refine wp_region_held_drew (S := fun w' => B9 w' w.heap.size (.int .i64 o) (.int .i64 x0) (.int .i64 x1) (.int .i64 x2) (.int .i64 x3) (.int .i64 x4) (.int .i64 x5) (.int .i64 v) (.slice A k.len cc) ∧ BB w' (w.heap.size + 1) 23 [a0, a1, a2, a3, a4, a5] ∧ BB w' (w.heap.size + 1 + 1) 23 [b0, b1, b2, b3, b4, b5]) (by kernel_rfl) I5.out.s (fun hHeld => ?_)
        generalize w4.drew = Y at *
        refine wpAnyH_take (i := 0) (oi := { dst := some 24, op := Op.load 26 (Operand.tmp 3), type := 26, pos := "law.go:42", after := #[], guard := none }) (v := ?_) rfl (by kernel_rfl) (by kernel_rfl) (by kernel_rfl) (fun _ _ _ h => h) (Or.inl ⟨by rfl, ?_⟩) (by assumption) ?_
        rotate_left
        · intro w hSw; (try dsimp only at hSw); obtain ⟨hE, hA, hB⟩ := hSw; obtain ⟨e0, e1, e2, e3, e4, e5, e6, e7, e8⟩ := hE.cells; obtain ⟨r0, r1, r2, r3, r4, r5⟩ := cells6 hA; obtain ⟨s0, s1, s2, s3, s4, s5⟩ := cells6 hB; go_simp; try with_reducible rfl
        (try simp only [Act.put, List.setIfInBounds_toArray, List.set_cons_zero, List.set_cons_succ])
        refine wpAnyH_take (i := 1) (oi := { dst := some 25, op := Op.load 23 (Operand.tmp 4), type := 23, pos := "law.go:42", after := #[], guard := none }) (v := ?_) rfl (by kernel_rfl) (by kernel_rfl) (by kernel_rfl) (fun _ _ _ h => h) (Or.inl ⟨by rfl, ?_⟩) (by assumption) ?_
        rotate_left
        · intro w hSw; (try dsimp only at hSw); obtain ⟨hE, hA, hB⟩ := hSw; obtain ⟨e0, e1, e2, e3, e4, e5, e6, e7, e8⟩ := hE.cells; obtain ⟨r0, r1, r2, r3, r4, r5⟩ := cells6 hA; obtain ⟨s0, s1, s2, s3, s4, s5⟩ := cells6 hB; go_simp; try with_reducible rfl
        (try simp only [Act.put, List.setIfInBounds_toArray, List.set_cons_zero, List.set_cons_succ])
        refine wpAnyH_take (i := 3) (oi := { dst := some 27, op := Op.load 26 (Operand.tmp 3), type := 26, pos := "law.go:42", after := #[], guard := none }) (v := ?_) rfl (by kernel_rfl) (by kernel_rfl) (by kernel_rfl) (fun _ _ _ h => h) (Or.inl ⟨by rfl, ?_⟩) (by assumption) ?_
        rotate_left
        · intro w hSw; (try dsimp only at hSw); obtain ⟨hE, hA, hB⟩ := hSw; obtain ⟨e0, e1, e2, e3, e4, e5, e6, e7, e8⟩ := hE.cells; obtain ⟨r0, r1, r2, r3, r4, r5⟩ := cells6 hA; obtain ⟨s0, s1, s2, s3, s4, s5⟩ := cells6 hB; go_simp; try with_reducible rfl
        (try simp only [Act.put, List.setIfInBounds_toArray, List.set_cons_zero, List.set_cons_succ])
        refine wpAnyH_take (i := 4) (oi := { dst := some 28, op := Op.load 23 (Operand.tmp 5), type := 23, pos := "law.go:42", after := #[], guard := none }) (v := ?_) rfl (by kernel_rfl) (by kernel_rfl) (by kernel_rfl) (fun _ _ _ h => h) (Or.inl ⟨by rfl, ?_⟩) (by assumption) ?_
        rotate_left
        · intro w hSw; (try dsimp only at hSw); obtain ⟨hE, hA, hB⟩ := hSw; obtain ⟨e0, e1, e2, e3, e4, e5, e6, e7, e8⟩ := hE.cells; obtain ⟨r0, r1, r2, r3, r4, r5⟩ := cells6 hA; obtain ⟨s0, s1, s2, s3, s4, s5⟩ := cells6 hB; go_simp; try with_reducible rfl
        (try simp only [Act.put, List.setIfInBounds_toArray, List.set_cons_zero, List.set_cons_succ])
        refine wpAnyH_take (i := 6) (oi := { dst := some 30, op := Op.load 26 (Operand.tmp 3), type := 26, pos := "law.go:42", after := #[], guard := none }) (v := ?_) rfl (by kernel_rfl) (by kernel_rfl) (by kernel_rfl) (fun _ _ _ h => h) (Or.inl ⟨by rfl, ?_⟩) (by assumption) ?_
        rotate_left
        · intro w hSw; (try dsimp only at hSw); obtain ⟨hE, hA, hB⟩ := hSw; obtain ⟨e0, e1, e2, e3, e4, e5, e6, e7, e8⟩ := hE.cells; obtain ⟨r0, r1, r2, r3, r4, r5⟩ := cells6 hA; obtain ⟨s0, s1, s2, s3, s4, s5⟩ := cells6 hB; go_simp; try with_reducible rfl
        (try simp only [Act.put, List.setIfInBounds_toArray, List.set_cons_zero, List.set_cons_succ])
        refine wpAnyH_take (i := 7) (oi := { dst := some 31, op := Op.load 23 (Operand.tmp 4), type := 23, pos := "law.go:42", after := #[], guard := none }) (v := ?_) rfl (by kernel_rfl) (by kernel_rfl) (by kernel_rfl) (fun _ _ _ h => h) (Or.inl ⟨by rfl, ?_⟩) (by assumption) ?_
        rotate_left
        · intro w hSw; (try dsimp only at hSw); obtain ⟨hE, hA, hB⟩ := hSw; obtain ⟨e0, e1, e2, e3, e4, e5, e6, e7, e8⟩ := hE.cells; obtain ⟨r0, r1, r2, r3, r4, r5⟩ := cells6 hA; obtain ⟨s0, s1, s2, s3, s4, s5⟩ := cells6 hB; go_simp; try with_reducible rfl
        (try simp only [Act.put, List.setIfInBounds_toArray, List.set_cons_zero, List.set_cons_succ])
        refine wpAnyH_take (i := 8) (oi := { dst := some 32, op := Op.load 23 (Operand.tmp 5), type := 23, pos := "law.go:42", after := #[], guard := none }) (v := ?_) rfl (by kernel_rfl) (by kernel_rfl) (by kernel_rfl) (fun _ _ _ h => h) (Or.inl ⟨by rfl, ?_⟩) (by assumption) ?_
        rotate_left
        · intro w hSw; (try dsimp only at hSw); obtain ⟨hE, hA, hB⟩ := hSw; obtain ⟨e0, e1, e2, e3, e4, e5, e6, e7, e8⟩ := hE.cells; obtain ⟨r0, r1, r2, r3, r4, r5⟩ := cells6 hA; obtain ⟨s0, s1, s2, s3, s4, s5⟩ := cells6 hB; go_simp; try with_reducible rfl
        (try simp only [Act.put, List.setIfInBounds_toArray, List.set_cons_zero, List.set_cons_succ])
        refine wpAnyH_ready (rs := [2]) (by kernel_rfl) (by simp) ?_
        refine AllReadyH.cons (o := { dst := some 26, op := Op.call { callee := Callee.value (Operand.func 18), args := #[Operand.tmp 24, Operand.tmp 25], argTypes := #[26, 23] }, type := 2, pos := "law.go:42", after := #[{ on := 0, ground := Ground.data }, { on := 1, ground := Ground.data }], guard := none }) rfl (fun K hK => ?_) AllReadyH.nil
        go_simp
        refine (CA.out _ I5.out.below).mono ?_
        rintro ev w6 ⟨rfl, nb⟩
        have I6 := Lib.hid (I5.out.keep nb)
        clear nb I5
        refine hK.out _ _ ?_ (fun hHeld => ?_)
        · exact I6.out.s
        clear hK K
        (try simp only [Act.put, List.setIfInBounds_toArray, List.set_cons_zero, List.set_cons_succ])
        refine wpAnyH_ready (rs := [5]) (by kernel_rfl) (by simp) ?_
        refine AllReadyH.cons (o := { dst := some 29, op := Op.call { callee := Callee.value (Operand.func 18), args := #[Operand.tmp 27, Operand.tmp 28], argTypes := #[26, 23] }, type := 2, pos := "law.go:42", after := #[{ on := 3, ground := Ground.data }, { on := 4, ground := Ground.data }, { on := 2, ground := Ground.chain }], guard := none }) rfl (fun K hK => ?_) AllReadyH.nil
        go_simp
        refine (CB.out _ I6.out.below).mono ?_
        rintro ev w7 ⟨rfl, nb⟩
        have I7 := Lib.hid (I6.out.keep nb)
        clear nb I6
        refine hK.out _ _ ?_ (fun hHeld => ?_)
        · exact I7.out.s
        clear hK K
        (try simp only [Act.put, List.setIfInBounds_toArray, List.set_cons_zero, List.set_cons_succ])
        refine wpAnyH_ready (rs := [9]) (by kernel_rfl) (by simp) ?_
        refine AllReadyH.cons (o := { dst := some 33, op := Op.call { callee := Callee.value (Operand.func 19), args := #[Operand.tmp 31, Operand.tmp 32], argTypes := #[23, 23] }, type := 23, pos := "law.go:42", after := #[{ on := 7, ground := Ground.data }, { on := 8, ground := Ground.data }, { on := 5, ground := Ground.chain }], guard := none }) rfl (fun K hK => ?_) AllReadyH.nil
        go_simp
        refine (CT.out _).mono ?_
        rintro ev w8 ⟨rfl, nb⟩
        have I8 := Lib.hid (I7.out.keep nb)
        clear nb I7
        refine hK.out _ _ ?_ (fun hHeld => ?_)
        · exact I8.out.s
        clear hK K
        (try simp only [Act.put, List.setIfInBounds_toArray, List.set_cons_zero, List.set_cons_succ])
        refine wpAnyH_ready (rs := [10]) (by kernel_rfl) (by simp) ?_
        refine AllReadyH.cons (o := { dst := some 34, op := Op.call { callee := Callee.value (Operand.func 18), args := #[Operand.tmp 30, Operand.tmp 33], argTypes := #[26, 23] }, type := 2, pos := "law.go:42", after := #[{ on := 6, ground := Ground.data }, { on := 9, ground := Ground.data }, { on := 9, ground := Ground.chain }], guard := none }) rfl (fun K hK => ?_) AllReadyH.nil
        go_simp
        refine (CMe.out _ I8.out.below).mono ?_
        rintro ev w9 ⟨rfl, nb⟩
        have I9 := Lib.hid (I8.out.keep nb)
        clear nb I8
        refine hK.out _ _ ?_ (fun hHeld => ?_)
        · exact I9.out.s
        clear hK K
        (try simp only [Act.put, List.setIfInBounds_toArray, List.set_cons_zero, List.set_cons_succ])
        refine wpAnyH_take (i := 11) (oi := { dst := some 7, op := Op.assign (Operand.tmp 26), type := 2, pos := "law.go:42", after := #[{ on := 2, ground := Ground.data }, { on := 10, ground := Ground.chain }, { on := 0, ground := Ground.phase }, { on := 1, ground := Ground.phase }, { on := 2, ground := Ground.phase }, { on := 3, ground := Ground.textOnly Departure.lateStores }, { on := 4, ground := Ground.textOnly Departure.lateStores }, { on := 5, ground := Ground.textOnly Departure.lateStoresUnsure }, { on := 6, ground := Ground.textOnly Departure.lateStores }, { on := 7, ground := Ground.textOnly Departure.lateStores }, { on := 8, ground := Ground.textOnly Departure.lateStores }, { on := 9, ground := Ground.textOnly Departure.lateStoresUnsure }, { on := 10, ground := Ground.textOnly Departure.lateStoresUnsure }], guard := none }) (v := ?_) rfl (by kernel_rfl) (by kernel_rfl) (by kernel_rfl) (fun _ _ _ h => h) (Or.inl ⟨by rfl, ?_⟩) (by assumption) ?_
        rotate_left
        · intro w hSw; (try dsimp only at hSw); obtain ⟨hE, hA, hB⟩ := hSw; obtain ⟨e0, e1, e2, e3, e4, e5, e6, e7, e8⟩ := hE.cells; obtain ⟨r0, r1, r2, r3, r4, r5⟩ := cells6 hA; obtain ⟨s0, s1, s2, s3, s4, s5⟩ := cells6 hB; go_simp; try with_reducible rfl
        (try simp only [Act.put, List.setIfInBounds_toArray, List.set_cons_zero, List.set_cons_succ])
        refine wpAnyH_take (i := 12) (oi := { dst := some 8, op := Op.assign (Operand.tmp 29), type := 2, pos := "law.go:42", after := #[{ on := 5, ground := Ground.data }, { on := 11, ground := Ground.chain }, { on := 0, ground := Ground.phase }, { on := 1, ground := Ground.phase }, { on := 2, ground := Ground.phase }, { on := 3, ground := Ground.phase }, { on := 4, ground := Ground.phase }, { on := 5, ground := Ground.phase }, { on := 6, ground := Ground.textOnly Departure.lateStores }, { on := 7, ground := Ground.textOnly Departure.lateStores }, { on := 8, ground := Ground.textOnly Departure.lateStores }, { on := 9, ground := Ground.textOnly Departure.lateStoresUnsure }, { on := 10, ground := Ground.textOnly Departure.lateStoresUnsure }, { on := 11, ground := Ground.phase }], guard := none }) (v := ?_) rfl (by kernel_rfl) (by kernel_rfl) (by kernel_rfl) (fun _ _ _ h => h) (Or.inl ⟨by rfl, ?_⟩) (by assumption) ?_
        rotate_left
        · intro w hSw; (try dsimp only at hSw); obtain ⟨hE, hA, hB⟩ := hSw; obtain ⟨e0, e1, e2, e3, e4, e5, e6, e7, e8⟩ := hE.cells; obtain ⟨r0, r1, r2, r3, r4, r5⟩ := cells6 hA; obtain ⟨s0, s1, s2, s3, s4, s5⟩ := cells6 hB; go_simp; try with_reducible rfl
        (try simp only [Act.put, List.setIfInBounds_toArray, List.set_cons_zero, List.set_cons_succ])
        refine wpAnyH_take (i := 13) (oi := { dst := some 9, op := Op.assign (Operand.tmp 34), type := 2, pos := "law.go:42", after := #[{ on := 10, ground := Ground.data }, { on := 12, ground := Ground.chain }, { on := 0, ground := Ground.phase }, { on := 1, ground := Ground.phase }, { on := 2, ground := Ground.phase }, { on := 3, ground := Ground.phase }, { on := 4, ground := Ground.phase }, { on := 5, ground := Ground.phase }, { on := 6, ground := Ground.phase }, { on := 7, ground := Ground.phase }, { on := 8, ground := Ground.phase }, { on := 9, ground := Ground.phase }, { on := 10, ground := Ground.phase }, { on := 11, ground := Ground.phase }, { on := 12, ground := Ground.phase }], guard := none }) (v := ?_) rfl (by kernel_rfl) (by kernel_rfl) (by kernel_rfl) (fun _ _ _ h => h) (Or.inl ⟨by rfl, ?_⟩) (by assumption) ?_
        rotate_left
        · intro w hSw; (try dsimp only at hSw); obtain ⟨hE, hA, hB⟩ := hSw; obtain ⟨e0, e1, e2, e3, e4, e5, e6, e7, e8⟩ := hE.cells; obtain ⟨r0, r1, r2, r3, r4, r5⟩ := cells6 hA; obtain ⟨s0, s1, s2, s3, s4, s5⟩ := cells6 hB; go_simp; try with_reducible rfl
        (try simp only [Act.put, List.setIfInBounds_toArray, List.set_cons_zero, List.set_cons_succ])
        refine wpAnyH_done (by kernel_rfl) ?_ _
        clear hHeld
        obtain ⟨e0, e1, e2, e3, e4, e5, e6, e7, e8⟩ := I9.out.e.cells
        go_wp2_with fail
        refine (CM.out _ I9.out.below).mono ?_
        rintro ev w10 ⟨rfl, nb⟩
        have I10 := Lib.hid (I9.out.keep nb)
        clear nb I9 e0 e1 e2 e3 e4 e5 e6 e7 e8
        obtain ⟨e0, e1, e2, e3, e4, e5, e6, e7, e8⟩ := I10.out.e.cells
        go_wp2_with fail
        refine (CM.out _ I10.out.below).mono ?_
        rintro ev w11 ⟨rfl, nb⟩
        have I11 := Lib.hid (I10.out.keep nb)
        clear nb I10 e0 e1 e2 e3 e4 e5 e6 e7 e8
        obtain ⟨e0, e1, e2, e3, e4, e5, e6, e7, e8⟩ := I11.out.e.cells
        go_wp2_with fail
        refine (CZ.out _ I11.out.below).mono ?_
        rintro ev w12 ⟨rfl, nb⟩
        have I12 := Lib.hid (I11.out.keep nb)
        clear nb I11 e0 e1 e2 e3 e4 e5 e6 e7 e8
        go_wp2_with fail
        refine (AW.out _).mono ?_
        rintro ev w13 ⟨rfl, nb⟩
        have I13 := Lib.hid (I12.out.keep nb)
        clear nb I12
        go_wp2
        go_ret
        exact ⟨rfl, I13.out.below⟩
      · have hne : (chk [b0, b1, b2, b3, b4, b5] == 0) = false := beq_eq_false_iff_ne.2 hb
        generalize chk [b0, b1, b2, b3, b4, b5] = cb at *
        go_wp2_with fail
        refine (CKb.out _).mono ?_
        rintro ev w4 ⟨rfl, nb⟩
        have I4 := Lib.hid (I3.out.keep nb)
        clear nb I3 CKb s0 s1 s2 s3 s4 s5
        go_wp2_with fail
        refine (AW.out _).mono ?_
        rintro ev w5 ⟨rfl, nb⟩
        have I5 := Lib.hid (I4.out.keep nb)
        clear nb I4
        go_wp2
        go_ret
        exact ⟨rfl, I5.out.below⟩
    · have hne : (chk [a0, a1, a2, a3, a4, a5] == 0) = false := beq_eq_false_iff_ne.2 ha
      generalize chk [a0, a1, a2, a3, a4, a5] = ca at *
      go_wp2_with fail
      refine (CKa.out _).mono ?_
      rintro ev w3 ⟨rfl, nb⟩
      have I3 := Lib.hid (I2.out.keep nb)
      clear nb I2 CKa r0 r1 r2 r3 r4 r5 s0 s1 s2 s3 s4 s5
      go_wp2_with fail
      refine (AW.out _).mono ?_
      rintro ev w5 ⟨rfl, nb⟩
      have I5 := Lib.hid (I3.out.keep nb)
      clear nb I3
      go_wp2
      go_ret
      exact ⟨rfl, I5.out.below⟩
  · have hfw' : VV.few N = false := by simpa using hfw
    rw [hfw'] at CF
    go_wp2_with fail
    refine (CF.out _ I0.out.below).mono ?_
    rintro ev w2 ⟨rfl, nb⟩
    have I2 := Lib.hid (I0.out.keep nb)
    clear nb I0 CF e0 e1 e2 e3 e4 e5 e6 e7 e8 r0 r1 r2 r3 r4 r5 s0 s1 s2 s3 s4 s5
    go_wp2_with fail
    refine (AW.out _).mono ?_
    rintro ev w5 ⟨rfl, nb⟩
    have I5 := Lib.hid (I2.out.keep nb)
    clear nb I2
    go_wp2
    go_ret
    exact ⟨rfl, I5.out.below⟩
end Go.Proofs.Ytgknggighpjcdaa
