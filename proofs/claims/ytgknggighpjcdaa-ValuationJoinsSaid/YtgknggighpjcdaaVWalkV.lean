/- The walk of ValuationValues. No claim of its own. -/
import Derived.Test.YtgknggighpjcdaaVAwake
import Derived.Test.YtgknggighpjcdaaVFew
import Derived.Test.YtgknggighpjcdaaVRVal
namespace Go.Proofs.Ytgknggighpjcdaa
open Go.RowKit
/-- The law's variables: an expression and a bundle. -/
structure IV (w : World) (u0 u1 u2 u3 u4 u5 u6 u7 u8 : Value) (s : List Int) (X : World) : Prop where
  below : Below w.heap.size w X
  e : B9 X w.heap.size u0 u1 u2 u3 u4 u5 u6 u7 u8
  q : BB X (w.heap.size + 1) 23 s
theorem IV.keep {w X Y : World} {u0 u1 u2 u3 u4 u5 u6 u7 u8 : Value} {s : List Int} (h : IV w u0 u1 u2 u3 u4 u5 u6 u7 u8 s X) (hb : Below X.heap.size X Y) : IV w u0 u1 u2 u3 u4 u5 u6 u7 u8 s Y :=
  ⟨h.below.trans (hb.mono h.below.size), h.e.keep hb, h.q.keep hb h.q.lt⟩
theorem IV.start (w : World) (u0 u1 u2 u3 u4 u5 u6 u7 u8 : Value) (q0 q1 q2 q3 q4 q5 : Int) : IV w u0 u1 u2 u3 u4 u5 u6 u7 u8 [q0, q1, q2, q3, q4, q5] ((w.alloc (.cells #[u0, u1, u2, u3, u4, u5, u6, u7, u8] 26)).alloc (.cells #[.int .i64 q0, .int .i64 q1, .int .i64 q2, .int .i64 q3, .int .i64 q4, .int .i64 q5] 23)) := by
  refine ⟨below_two w _ _, ((below_new (w.alloc (.cells #[u0, u1, u2, u3, u4, u5, u6, u7, u8] 26)) _).block w.heap.size (by simp)).trans (heap_new w _), ?_⟩
  have := BB.new (w.alloc (.cells #[u0, u1, u2, u3, u4, u5, u6, u7, u8] 26)) 23 q0 q1 q2 q3 q4 q5
  rwa [World.size_alloc] at this
attribute [local go_sem] Oper.semAt_some
set_option maxRecDepth 100000 in
set_option maxHeartbeats 8000000 in
theorem valuationValues_walk (x : NT) (q0 q1 q2 q3 q4 q5 : Int) (w : World) (hok : x.Ok w (fun _ => True)) : Calls Try.prog 4 #[x.val, .agg #[.int .i64 q0, .int .i64 q1, .int .i64 q2, .int .i64 q3, .int .i64 q4, .int .i64 q5]] w (Gives (.bool true) w) := by
  have AW := Lib.hid (fun w' => awake13_any w')
  have CF := Lib.hid (fun w' (hb : Below w.heap.size w w') => few13_any x w' _ (hok.below hb))
  have HV := Lib.hid (fun (hx : x.size ≤ 1000000) w' (hb : Below w.heap.size w w') => value_any x (Nat.le_trans hx (by decide)) q0 q1 q2 q3 q4 q5 w' _ (hok.below hb))
  have HR := Lib.hid (fun (hx : x.size ≤ 1000000) w' (hb : Below w.heap.size w w') => rvalue_any x hx q0 q1 q2 q3 q4 q5 w' _ (hok.below hb))
  have HM := Lib.hid (fun (hx : x.size ≤ 1000000) w' (hb : Below w.heap.size w w') => most_any x (Nat.le_trans hx (by decide)) w' _ (hok.below hb))
  have HN := Lib.hid (fun (hx : x.size ≤ 1000000) w' (hb : Below w.heap.size w w') => rmost_any x hx w' _ (hok.below hb))
  have HS : Hid (VV.few x.n = true → x.size ≤ 1000000) := Lib.hid (fun h => by have := VV.few_size h; rw [NT.size_n] at this; omega)
  obtain ⟨o, bb, v, A, cc, k⟩ := x
  obtain ⟨x0, x1, x2, x3, x4, x5, rfl⟩ := six hok.six
  rw [NT.val_lit] at CF HV HR HM HN ⊢
  clear hok
  have I0 := Lib.hid (IV.start w (.int .i64 o) (.int .i64 x0) (.int .i64 x1) (.int .i64 x2) (.int .i64 x3) (.int .i64 x4) (.int .i64 x5) (.int .i64 v) (.slice A k.len cc) q0 q1 q2 q3 q4 q5)
  go_enter Try.func4, Try.ntmps4
  go_upto_region 1 with (fail)
  generalize (w.alloc (.cells #[.int .i64 o, .int .i64 x0, .int .i64 x1, .int .i64 x2, .int .i64 x3, .int .i64 x4, .int .i64 x5, .int .i64 v, .slice A k.len cc] 26)).alloc (.cells #[.int .i64 q0, .int .i64 q1, .int .i64 q2, .int .i64 q3, .int .i64 q4, .int .i64 q5] 23) = w1 at *
  obtain ⟨e0, e1, e2, e3, e4, e5, e6, e7, e8⟩ := I0.out.e.cells
  generalize NT.n ⟨o, [x0, x1, x2, x3, x4, x5], v, A, cc, k⟩ = N at *
  by_cases hfw : VV.few N = true
  · rw [hfw] at CF
    have hx := HS.out hfw
    have CV := Lib.hid (HV.out hx)
    have CR := Lib.hid (HR.out hx)
    have CM := Lib.hid (HM.out hx)
    have CN := Lib.hid (HN.out hx)
    generalize VV.value N [q0, q1, q2, q3, q4, q5] = V1 at *
    generalize VV.value N full6 = V2 at *
    clear hfw HS HV HR HM HN hx
    go_wp2_with fail
    refine (CF.out _ I0.out.below).mono ?_
    rintro ev w2 ⟨rfl, nb⟩
    have I2 := Lib.hid (I0.out.keep nb)
    clear nb I0 CF e0 e1 e2 e3 e4 e5 e6 e7 e8
    go_wp2_with fail
    have I5 := Lib.hid (I2.out.keep (below_drawn w2))
    clear I2
    refine wp_region_held_drew (S := fun w' => B9 w' w.heap.size (.int .i64 o) (.int .i64 x0) (.int .i64 x1) (.int .i64 x2) (.int .i64 x3) (.int .i64 x4) (.int .i64 x5) (.int .i64 v) (.slice A k.len cc) ∧ BB w' (w.heap.size + 1) 23 [q0, q1, q2, q3, q4, q5]) (by kernel_rfl) ⟨I5.out.e, I5.out.q⟩ (fun hHeld => ?_)
    generalize w2.drew = Y at *
    refine wpAnyH_take (i := 0) (oi := { dst := some 9, op := Op.load 26 (Operand.tmp 2), type := 26, pos := "law.go:51", after := #[], guard := none }) (v := ?_) rfl (by kernel_rfl) (by kernel_rfl) (by kernel_rfl) (fun _ _ _ h => h) (Or.inl ⟨by rfl, ?_⟩) (by assumption) ?_
    rotate_left
    · intro w hSw; (try dsimp only at hSw); obtain ⟨hE, hA⟩ := hSw; obtain ⟨e0, e1, e2, e3, e4, e5, e6, e7, e8⟩ := hE.cells; obtain ⟨r0, r1, r2, r3, r4, r5⟩ := cells6 hA; go_simp; try with_reducible rfl
    (try simp only [Act.put, List.setIfInBounds_toArray, List.set_cons_zero, List.set_cons_succ])
    refine wpAnyH_take (i := 1) (oi := { dst := some 10, op := Op.load 23 (Operand.tmp 3), type := 23, pos := "law.go:51", after := #[], guard := none }) (v := ?_) rfl (by kernel_rfl) (by kernel_rfl) (by kernel_rfl) (fun _ _ _ h => h) (Or.inl ⟨by rfl, ?_⟩) (by assumption) ?_
    rotate_left
    · intro w hSw; (try dsimp only at hSw); obtain ⟨hE, hA⟩ := hSw; obtain ⟨e0, e1, e2, e3, e4, e5, e6, e7, e8⟩ := hE.cells; obtain ⟨r0, r1, r2, r3, r4, r5⟩ := cells6 hA; go_simp; try with_reducible rfl
    (try simp only [Act.put, List.setIfInBounds_toArray, List.set_cons_zero, List.set_cons_succ])
    refine wpAnyH_take (i := 3) (oi := { dst := some 12, op := Op.load 26 (Operand.tmp 2), type := 26, pos := "law.go:51", after := #[], guard := none }) (v := ?_) rfl (by kernel_rfl) (by kernel_rfl) (by kernel_rfl) (fun _ _ _ h => h) (Or.inl ⟨by rfl, ?_⟩) (by assumption) ?_
    rotate_left
    · intro w hSw; (try dsimp only at hSw); obtain ⟨hE, hA⟩ := hSw; obtain ⟨e0, e1, e2, e3, e4, e5, e6, e7, e8⟩ := hE.cells; obtain ⟨r0, r1, r2, r3, r4, r5⟩ := cells6 hA; go_simp; try with_reducible rfl
    (try simp only [Act.put, List.setIfInBounds_toArray, List.set_cons_zero, List.set_cons_succ])
    refine wpAnyH_take (i := 4) (oi := { dst := some 13, op := Op.load 23 (Operand.tmp 3), type := 23, pos := "law.go:51", after := #[], guard := none }) (v := ?_) rfl (by kernel_rfl) (by kernel_rfl) (by kernel_rfl) (fun _ _ _ h => h) (Or.inl ⟨by rfl, ?_⟩) (by assumption) ?_
    rotate_left
    · intro w hSw; (try dsimp only at hSw); obtain ⟨hE, hA⟩ := hSw; obtain ⟨e0, e1, e2, e3, e4, e5, e6, e7, e8⟩ := hE.cells; obtain ⟨r0, r1, r2, r3, r4, r5⟩ := cells6 hA; go_simp; try with_reducible rfl
    (try simp only [Act.put, List.setIfInBounds_toArray, List.set_cons_zero, List.set_cons_succ])
    refine wpAnyH_ready (rs := [2]) (by kernel_rfl) (by simp) ?_
    refine AllReadyH.cons (o := { dst := some 11, op := Op.call { callee := Callee.value (Operand.func 18), args := #[Operand.tmp 9, Operand.tmp 10], argTypes := #[26, 23] }, type := 2, pos := "law.go:51", after := #[{ on := 0, ground := Ground.data }, { on := 1, ground := Ground.data }], guard := none }) rfl (fun K hK => ?_) AllReadyH.nil
    go_simp
    refine (CV.out _ I5.out.below).mono ?_
    rintro ev w6 ⟨rfl, nb⟩
    have I6 := Lib.hid (I5.out.keep nb)
    clear nb I5
    refine hK.out _ _ ?_ (fun hHeld => ?_)
    · exact ⟨I6.out.e, I6.out.q⟩
    clear hK K
    (try simp only [Act.put, List.setIfInBounds_toArray, List.set_cons_zero, List.set_cons_succ])
    refine wpAnyH_ready (rs := [5]) (by kernel_rfl) (by simp) ?_
    refine AllReadyH.cons (o := { dst := some 14, op := Op.call { callee := Callee.value (Operand.func 21), args := #[Operand.tmp 12, Operand.tmp 13], argTypes := #[26, 23] }, type := 2, pos := "law.go:51", after := #[{ on := 3, ground := Ground.data }, { on := 4, ground := Ground.data }, { on := 2, ground := Ground.chain }], guard := none }) rfl (fun K hK => ?_) AllReadyH.nil
    go_simp
    refine (CR.out _ I6.out.below).mono ?_
    rintro ev w7 ⟨rfl, nb⟩
    have I7 := Lib.hid (I6.out.keep nb)
    clear nb I6
    refine hK.out _ _ ?_ (fun hHeld => ?_)
    · exact ⟨I7.out.e, I7.out.q⟩
    clear hK K
    (try simp only [Act.put, List.setIfInBounds_toArray, List.set_cons_zero, List.set_cons_succ])
    refine wpAnyH_take (i := 6) (oi := { dst := some 15, op := Op.binOp BinOp.eql 2 (Operand.tmp 11) (Operand.tmp 14) 2, type := 4, pos := "law.go:51", after := #[{ on := 2, ground := Ground.data }, { on := 5, ground := Ground.data }], guard := none }) (v := ?_) rfl (by kernel_rfl) (by kernel_rfl) (by kernel_rfl) (fun _ _ _ h => h) (Or.inl ⟨by rfl, ?_⟩) (by assumption) ?_
    rotate_left
    · intro w hSw; (try dsimp only at hSw); obtain ⟨hE, hA⟩ := hSw; obtain ⟨e0, e1, e2, e3, e4, e5, e6, e7, e8⟩ := hE.cells; obtain ⟨r0, r1, r2, r3, r4, r5⟩ := cells6 hA; go_simp; try with_reducible rfl
    (try simp only [Act.put, List.setIfInBounds_toArray, List.set_cons_zero, List.set_cons_succ])
    refine wpAnyH_take (i := 7) (oi := { dst := some 16, op := Op.move (Operand.tmp 15), type := 4, pos := "law.go:51", after := #[{ on := 6, ground := Ground.data }, { on := 5, ground := Ground.chain }], guard := none }) (v := ?_) rfl (by kernel_rfl) (by kernel_rfl) (by kernel_rfl) (fun _ _ _ h => h) (Or.inl ⟨by rfl, ?_⟩) (by assumption) ?_
    rotate_left
    · intro w hSw; (try dsimp only at hSw); obtain ⟨hE, hA⟩ := hSw; obtain ⟨e0, e1, e2, e3, e4, e5, e6, e7, e8⟩ := hE.cells; obtain ⟨r0, r1, r2, r3, r4, r5⟩ := cells6 hA; go_simp; try with_reducible rfl
    (try simp only [Act.put, List.setIfInBounds_toArray, List.set_cons_zero, List.set_cons_succ])
    refine wpAnyH_take (i := 8) (oi := { dst := some 17, op := Op.load 26 (Operand.tmp 2), type := 26, pos := "law.go:51", after := #[{ on := 7, ground := Ground.guard }], guard := some (7, true) }) (v := ?_) rfl (by kernel_rfl) (by kernel_rfl) (by kernel_rfl) (fun _ _ _ h => h) (Or.inl ⟨by rfl, ?_⟩) (by assumption) ?_
    rotate_left
    · intro w hSw; (try dsimp only at hSw); obtain ⟨hE, hA⟩ := hSw; obtain ⟨e0, e1, e2, e3, e4, e5, e6, e7, e8⟩ := hE.cells; obtain ⟨r0, r1, r2, r3, r4, r5⟩ := cells6 hA; go_simp; try with_reducible rfl
    (try simp only [Act.put, List.setIfInBounds_toArray, List.set_cons_zero, List.set_cons_succ])
    refine wpAnyH_take (i := 10) (oi := { dst := some 19, op := Op.load 26 (Operand.tmp 2), type := 26, pos := "law.go:51", after := #[{ on := 7, ground := Ground.guard }], guard := some (7, true) }) (v := ?_) rfl (by kernel_rfl) (by kernel_rfl) (by kernel_rfl) (fun _ _ _ h => h) (Or.inl ⟨by rfl, ?_⟩) (by assumption) ?_
    rotate_left
    · intro w hSw; (try dsimp only at hSw); obtain ⟨hE, hA⟩ := hSw; obtain ⟨e0, e1, e2, e3, e4, e5, e6, e7, e8⟩ := hE.cells; obtain ⟨r0, r1, r2, r3, r4, r5⟩ := cells6 hA; go_simp; try with_reducible rfl
    (try simp only [Act.put, List.setIfInBounds_toArray, List.set_cons_zero, List.set_cons_succ])
    refine wpAnyH_ready (rs := [9]) (by kernel_rfl) (by simp) ?_
    refine AllReadyH.cons (o := { dst := some 18, op := Op.call { callee := Callee.value (Operand.func 20), args := #[Operand.tmp 17], argTypes := #[26] }, type := 2, pos := "law.go:51", after := #[{ on := 8, ground := Ground.data }, { on := 7, ground := Ground.chain }, { on := 7, ground := Ground.guard }], guard := some (7, true) }) rfl (fun K hK => ?_) AllReadyH.nil
    go_simp
    refine (CM.out _ I7.out.below).mono ?_
    rintro ev w8 ⟨rfl, nb⟩
    have I8 := Lib.hid (I7.out.keep nb)
    clear nb I7
    refine hK.out _ _ ?_ (fun hHeld => ?_)
    · exact ⟨I8.out.e, I8.out.q⟩
    clear hK K
    (try simp only [Act.put, List.setIfInBounds_toArray, List.set_cons_zero, List.set_cons_succ])
    refine wpAnyH_ready (rs := [11]) (by kernel_rfl) (by simp) ?_
    refine AllReadyH.cons (o := { dst := some 20, op := Op.call { callee := Callee.value (Operand.func 22), args := #[Operand.tmp 19], argTypes := #[26] }, type := 2, pos := "law.go:51", after := #[{ on := 10, ground := Ground.data }, { on := 9, ground := Ground.chain }, { on := 7, ground := Ground.guard }], guard := some (7, true) }) rfl (fun K hK => ?_) AllReadyH.nil
    go_simp
    refine (CN.out _ I8.out.below).mono ?_
    rintro ev w9 ⟨rfl, nb⟩
    have I9 := Lib.hid (I8.out.keep nb)
    clear nb I8
    refine hK.out _ _ ?_ (fun hHeld => ?_)
    · exact ⟨I9.out.e, I9.out.q⟩
    clear hK K
    (try simp only [Act.put, List.setIfInBounds_toArray, List.set_cons_zero, List.set_cons_succ])
    refine wpAnyH_take (i := 12) (oi := { dst := some 21, op := Op.binOp BinOp.eql 2 (Operand.tmp 18) (Operand.tmp 20) 2, type := 4, pos := "law.go:51", after := #[{ on := 9, ground := Ground.data }, { on := 11, ground := Ground.data }, { on := 7, ground := Ground.guard }], guard := some (7, true) }) (v := ?_) rfl (by kernel_rfl) (by kernel_rfl) (by kernel_rfl) (fun _ _ _ h => h) (Or.inl ⟨by rfl, ?_⟩) (by assumption) ?_
    rotate_left
    · intro w hSw; (try dsimp only at hSw); obtain ⟨hE, hA⟩ := hSw; obtain ⟨e0, e1, e2, e3, e4, e5, e6, e7, e8⟩ := hE.cells; obtain ⟨r0, r1, r2, r3, r4, r5⟩ := cells6 hA; go_simp; try with_reducible rfl
    (try simp only [Act.put, List.setIfInBounds_toArray, List.set_cons_zero, List.set_cons_succ])
    refine wpAnyH_take (i := 13) (oi := { dst := some 22, op := Op.pick (Operand.tmp 16) (Operand.tmp 21) (Operand.const (Value.bool false)), type := 4, pos := "law.go:51", after := #[{ on := 7, ground := Ground.data }, { on := 12, ground := Ground.data }], guard := none }) (v := ?_) rfl (by kernel_rfl) (by kernel_rfl) (by kernel_rfl) (fun _ _ _ h => h) (Or.inl ⟨by rfl, ?_⟩) (by assumption) ?_
    rotate_left
    · intro w hSw; (try dsimp only at hSw); obtain ⟨hE, hA⟩ := hSw; obtain ⟨e0, e1, e2, e3, e4, e5, e6, e7, e8⟩ := hE.cells; obtain ⟨r0, r1, r2, r3, r4, r5⟩ := cells6 hA; go_simp; try with_reducible rfl
    (try simp only [Act.put, List.setIfInBounds_toArray, List.set_cons_zero, List.set_cons_succ])
    refine wpAnyH_take (i := 14) (oi := { dst := some 23, op := Op.move (Operand.tmp 22), type := 4, pos := "law.go:51", after := #[{ on := 13, ground := Ground.data }, { on := 11, ground := Ground.chain }], guard := none }) (v := ?_) rfl (by kernel_rfl) (by kernel_rfl) (by kernel_rfl) (fun _ _ _ h => h) (Or.inl ⟨by rfl, ?_⟩) (by assumption) ?_
    rotate_left
    · intro w hSw; (try dsimp only at hSw); obtain ⟨hE, hA⟩ := hSw; obtain ⟨e0, e1, e2, e3, e4, e5, e6, e7, e8⟩ := hE.cells; obtain ⟨r0, r1, r2, r3, r4, r5⟩ := cells6 hA; go_simp; try with_reducible rfl
    (try simp only [Act.put, List.setIfInBounds_toArray, List.set_cons_zero, List.set_cons_succ])
    refine wpAnyH_ready (rs := [15]) (by kernel_rfl) (by simp) ?_
    refine AllReadyH.cons (o := { dst := some 24, op := Op.call { callee := Callee.value (Operand.func 17), args := #[], argTypes := #[] }, type := 4, pos := "law.go:51", after := #[{ on := 14, ground := Ground.chain }, { on := 14, ground := Ground.guard }], guard := some (14, true) }) rfl (fun K hK => ?_) AllReadyH.nil
    go_simp
    refine (AW.out _).mono ?_
    rintro ev w10 ⟨rfl, nb⟩
    have I10 := Lib.hid (I9.out.keep nb)
    clear nb I9
    refine hK.out _ _ ?_ (fun hHeld => ?_)
    · exact ⟨I10.out.e, I10.out.q⟩
    clear hK K
    (try simp only [Act.put, List.setIfInBounds_toArray, List.set_cons_zero, List.set_cons_succ])
    refine wpAnyH_take (i := 16) (oi := { dst := some 25, op := Op.pick (Operand.tmp 23) (Operand.tmp 24) (Operand.const (Value.bool false)), type := 4, pos := "law.go:51", after := #[{ on := 14, ground := Ground.data }, { on := 15, ground := Ground.data }], guard := none }) (v := ?_) rfl (by kernel_rfl) (by kernel_rfl) (by kernel_rfl) (fun _ _ _ h => h) (Or.inl ⟨by rfl, ?_⟩) (by assumption) ?_
    rotate_left
    · intro w hSw; (try dsimp only at hSw); obtain ⟨hE, hA⟩ := hSw; obtain ⟨e0, e1, e2, e3, e4, e5, e6, e7, e8⟩ := hE.cells; obtain ⟨r0, r1, r2, r3, r4, r5⟩ := cells6 hA; go_simp; try with_reducible rfl
    (try simp only [Act.put, List.setIfInBounds_toArray, List.set_cons_zero, List.set_cons_succ])
    refine wpAnyH_take (i := 17) (oi := { dst := some 4, op := Op.assign (Operand.tmp 25), type := 4, pos := "law.go:51", after := #[{ on := 16, ground := Ground.data }, { on := 15, ground := Ground.chain }, { on := 0, ground := Ground.phase }, { on := 1, ground := Ground.phase }, { on := 2, ground := Ground.phase }, { on := 3, ground := Ground.phase }, { on := 4, ground := Ground.phase }, { on := 5, ground := Ground.phase }, { on := 6, ground := Ground.phase }, { on := 7, ground := Ground.phase }, { on := 8, ground := Ground.phase }, { on := 9, ground := Ground.phase }, { on := 10, ground := Ground.phase }, { on := 11, ground := Ground.phase }, { on := 12, ground := Ground.phase }, { on := 13, ground := Ground.phase }, { on := 14, ground := Ground.phase }, { on := 15, ground := Ground.phase }, { on := 16, ground := Ground.phase }], guard := none }) (v := ?_) rfl (by kernel_rfl) (by kernel_rfl) (by kernel_rfl) (fun _ _ _ h => h) (Or.inl ⟨by rfl, ?_⟩) (by assumption) ?_
    rotate_left
    · intro w hSw; (try dsimp only at hSw); obtain ⟨hE, hA⟩ := hSw; obtain ⟨e0, e1, e2, e3, e4, e5, e6, e7, e8⟩ := hE.cells; obtain ⟨r0, r1, r2, r3, r4, r5⟩ := cells6 hA; go_simp; try with_reducible rfl
    (try simp only [Act.put, List.setIfInBounds_toArray, List.set_cons_zero, List.set_cons_succ])
    refine wpAnyH_done (by kernel_rfl) ?_ _
    clear hHeld
    go_wp2
    go_ret
    exact ⟨rfl, I10.out.below⟩
  · have hfw : VV.few N = false := by simpa using hfw
    rw [hfw] at CF
    clear HV HR HM HN HS
    go_wp2_with fail
    refine (CF.out _ I0.out.below).mono ?_
    rintro ev w2 ⟨rfl, nb⟩
    have I2 := Lib.hid (I0.out.keep nb)
    clear nb I0 CF e0 e1 e2 e3 e4 e5 e6 e7 e8
    go_wp2_with fail
    refine (AW.out _).mono ?_
    rintro ev w3 ⟨rfl, nb⟩
    have I3 := Lib.hid (I2.out.keep nb)
    clear nb I2
    go_wp2
    go_ret
    exact ⟨rfl, I3.out.below⟩
end Go.Proofs.Ytgknggighpjcdaa
