/- Value and Most of the program. No claim of its own. -/
import Derived.Test.YtgknggighpjcdaaVAny
import Derived.Test.YtgknggighpjcdaaJP
namespace Go.Proofs.Ytgknggighpjcdaa
open Go.RowKit
theorem value_bad {n : ME.Nd} {b : List Int} (h : ME.checkE n ≠ 0) : VV.value n b = 0 := if_neg fun g => h g.1
theorem value_bad2 {n : ME.Nd} {b : List Int} (h : chk b ≠ 0) : VV.value n b = 0 := if_neg fun g => h g.2
theorem value_ok {n : ME.Nd} {b : List Int} (h : ME.checkE n = 0) (h2 : chk b = 0) : VV.value n b = VV.valN n b := if_pos ⟨h, h2⟩
theorem k4_of {b : List Int} (hl : b.length = 6) (h : chk b = 0) : K4 b := ⟨hl, VV.ok_of_chk h⟩
set_option maxRecDepth 100000 in
set_option maxHeartbeats 4000000 in
theorem value_any (x : NT) (hx : x.size ≤ 2000000) (a b c d e f : Int) (w : World) (ok : Nat → Prop) (hok : x.Ok w ok) : Calls Try.prog 18 #[x.val, .agg #[.int .i64 a, .int .i64 b, .int .i64 c, .int .i64 d, .int .i64 e, .int .i64 f]] w (Gives (.int .i64 (VV.value x.n [a, b, c, d, e, f])) w) := by
  have HB := Lib.hid (below_two w (.cells #[.int .i64 x.o, .int .i64 (MB.at_ x.b 0), .int .i64 (MB.at_ x.b 1), .int .i64 (MB.at_ x.b 2), .int .i64 (MB.at_ x.b 3), .int .i64 (MB.at_ x.b 4), .int .i64 (MB.at_ x.b 5), .int .i64 x.v, .slice x.A x.k.len x.c] 26) (.cells #[.int .i64 a, .int .i64 b, .int .i64 c, .int .i64 d, .int .i64 e, .int .i64 f] 23))
  have CK := Lib.hid (fun w' (hb : Below w.heap.size w w') => check_any x hx w' ok (hok.below hb))
  have CB := Lib.hid (fun w' => bcheck_any a b c d e f w')
  have ST := Lib.hid (fun (h : VV.AllOk x.n) (h2 : K4 [a, b, c, d, e, f]) w' (hb : Below w.heap.size w w') => steps_any 2000000 x hx (Nat.le_refl _) h a b c d e f w' ok h2 (hok.below hb))
  have VB := Lib.hid (value_bad (n := x.n) (b := [a, b, c, d, e, f]))
  have VB2 := Lib.hid (value_bad2 (n := x.n) (b := [a, b, c, d, e, f]))
  have VO := Lib.hid (value_ok (n := x.n) (b := [a, b, c, d, e, f]))
  obtain ⟨o, bb, v, A, cc, k⟩ := x
  obtain ⟨x0, x1, x2, x3, x4, x5, rfl⟩ := six hok.six
  rw [NT.val_lit] at CK ST ⊢
  replace HB : Hid (Below w.heap.size w ((w.alloc (.cells #[.int .i64 o, .int .i64 x0, .int .i64 x1, .int .i64 x2, .int .i64 x3, .int .i64 x4, .int .i64 x5, .int .i64 v, .slice A k.len cc] 26)).alloc (.cells #[.int .i64 a, .int .i64 b, .int .i64 c, .int .i64 d, .int .i64 e, .int .i64 f] 23))) := HB
  clear hok hx
  obtain ⟨V, hV⟩ : ∃ V, V = VV.value (NT.n ⟨o, [x0, x1, x2, x3, x4, x5], v, A, cc, k⟩) [a, b, c, d, e, f] := ⟨_, rfl⟩
  rw [← hV] at VB VB2 VO ⊢
  clear hV
  obtain ⟨N, hN⟩ : ∃ N, N = NT.n ⟨o, [x0, x1, x2, x3, x4, x5], v, A, cc, k⟩ := ⟨_, rfl⟩
  rw [← hN] at CK ST VB VO
  clear hN
  have AO : Hid (ME.checkE N = 0 → VV.AllOk N) := Lib.hid VV.AllOk.of
  obtain ⟨F, hF⟩ : ∃ F, F = VV.valN N := ⟨_, rfl⟩
  rw [← hF] at ST VO
  clear hF
  generalize ME.checkE N = ck at *
  have KO : Hid (chk [a, b, c, d, e, f] = 0 → K4 [a, b, c, d, e, f]) := Lib.hid (k4_of rfl)
  generalize chk [a, b, c, d, e, f] = cb at *
  have X0 := Lib.hid (below_new (w.alloc (.cells #[.int .i64 o, .int .i64 x0, .int .i64 x1, .int .i64 x2, .int .i64 x3, .int .i64 x4, .int .i64 x5, .int .i64 v, .slice A k.len cc] 26)) (.cells #[.int .i64 a, .int .i64 b, .int .i64 c, .int .i64 d, .int .i64 e, .int .i64 f] 23))
  have E0 := Lib.hid (show B9 ((w.alloc (.cells #[.int .i64 o, .int .i64 x0, .int .i64 x1, .int .i64 x2, .int .i64 x3, .int .i64 x4, .int .i64 x5, .int .i64 v, .slice A k.len cc] 26)).alloc (.cells #[.int .i64 a, .int .i64 b, .int .i64 c, .int .i64 d, .int .i64 e, .int .i64 f] 23)) w.heap.size (.int .i64 o) (.int .i64 x0) (.int .i64 x1) (.int .i64 x2) (.int .i64 x3) (.int .i64 x4) (.int .i64 x5) (.int .i64 v) (.slice A k.len cc) from (X0.out.block w.heap.size (by simp)).trans (heap_new w _))
  have S0 := Lib.hid (show BB ((w.alloc (.cells #[.int .i64 o, .int .i64 x0, .int .i64 x1, .int .i64 x2, .int .i64 x3, .int .i64 x4, .int .i64 x5, .int .i64 v, .slice A k.len cc] 26)).alloc (.cells #[.int .i64 a, .int .i64 b, .int .i64 c, .int .i64 d, .int .i64 e, .int .i64 f] 23)) (w.heap.size + 1) 23 [a, b, c, d, e, f] from by
    have := BB.new (w.alloc (.cells #[.int .i64 o, .int .i64 x0, .int .i64 x1, .int .i64 x2, .int .i64 x3, .int .i64 x4, .int .i64 x5, .int .i64 v, .slice A k.len cc] 26)) 23 a b c d e f
    rwa [World.size_alloc] at this)
  clear X0
  go_enter Try.func18, Try.ntmps18
  go_upto_region 1 with (fail)
  generalize (w.alloc (.cells #[.int .i64 o, .int .i64 x0, .int .i64 x1, .int .i64 x2, .int .i64 x3, .int .i64 x4, .int .i64 x5, .int .i64 v, .slice A k.len cc] 26)).alloc (.cells #[.int .i64 a, .int .i64 b, .int .i64 c, .int .i64 d, .int .i64 e, .int .i64 f] 23) = w1 at *
  obtain ⟨e0, e1, e2, e3, e4, e5, e6, e7, e8⟩ := E0.out.cells
  obtain ⟨r0, r1, r2, r3, r4, r5⟩ := cells6 S0.out
  by_cases hck : ck = 0
  · subst hck
    go_wp2_with fail
    refine (CK.out _ HB.out).mono ?_
    rintro ev w2 ⟨rfl, hb2⟩
    have B2 := Lib.hid (HB.out.trans (hb2.mono HB.out.size))
    have E2 := Lib.hid (E0.out.keep hb2)
    have S2 := Lib.hid (S0.out.keep hb2 S0.out.lt)
    clear e0 e1 e2 e3 e4 e5 e6 e7 e8 r0 r1 r2 r3 r4 r5 HB E0 S0 hb2
    obtain ⟨e0, e1, e2, e3, e4, e5, e6, e7, e8⟩ := E2.out.cells
    obtain ⟨r0, r1, r2, r3, r4, r5⟩ := cells6 S2.out
    by_cases hcb : cb = 0
    · subst hcb
      have HE := Lib.hid (VO.out (by trivial) (by trivial))
      have KK := Lib.hid (KO.out (by trivial))
      have SA := Lib.hid (ST.out (AO.out (by trivial)) KK.out)
      go_wp2_with fail
      refine (CB.out _).mono ?_
      rintro ev w3 ⟨rfl, hb3⟩
      have B3 := Lib.hid (B2.out.trans (hb3.mono B2.out.size))
      have E3 := Lib.hid (E2.out.keep hb3)
      have S3 := Lib.hid (S2.out.keep hb3 S2.out.lt)
      clear e0 e1 e2 e3 e4 e5 e6 e7 e8 r0 r1 r2 r3 r4 r5 B2 E2 S2 hb3
      obtain ⟨e0, e1, e2, e3, e4, e5, e6, e7, e8⟩ := E3.out.cells
      obtain ⟨r0, r1, r2, r3, r4, r5⟩ := cells6 S3.out
      go_upto_region 3 with (fail)
      have B4 := Lib.hid (B3.out.drew)
      have E4 := Lib.hid (E3.out.keep (below_drawn w3))
      have S4 := Lib.hid (S3.out.keep (below_drawn w3) S3.out.lt)
      clear e0 e1 e2 e3 e4 e5 e6 e7 e8 r0 r1 r2 r3 r4 r5 B3 E3 S3
      refine wp_region_held_drew (S := fun w' => B9 w' w.heap.size (.int .i64 o) (.int .i64 x0) (.int .i64 x1) (.int .i64 x2) (.int .i64 x3) (.int .i64 x4) (.int .i64 x5) (.int .i64 v) (.slice A k.len cc) ∧ BB w' (w.heap.size + 1) 23 [a, b, c, d, e, f]) (by kernel_rfl) ⟨E4.out, S4.out⟩ (fun hHeld => ?_)
      generalize w3.drew = Y at *
      refine wpAnyH_take (i := 0) (oi := { dst := some 13, op := Op.load 26 (Operand.tmp 2), type := 26, pos := "valuation.go:15", after := #[], guard := none }) (v := ?_) rfl (by kernel_rfl) (by kernel_rfl) (by kernel_rfl) (fun _ _ _ h => h) (Or.inl ⟨by rfl, ?_⟩) (by assumption) ?_
      rotate_left
      · intro w hSw; (try dsimp only at hSw); obtain ⟨hE, hB⟩ := hSw; obtain ⟨e0, e1, e2, e3, e4, e5, e6, e7, e8⟩ := hE.cells; obtain ⟨r0, r1, r2, r3, r4, r5⟩ := cells6 hB; go_simp; try with_reducible rfl
      (try simp only [Act.put, List.setIfInBounds_toArray, List.set_cons_zero, List.set_cons_succ])
      refine wpAnyH_take (i := 1) (oi := { dst := some 14, op := Op.load 23 (Operand.tmp 3), type := 23, pos := "valuation.go:15", after := #[], guard := none }) (v := ?_) rfl (by kernel_rfl) (by kernel_rfl) (by kernel_rfl) (fun _ _ _ h => h) (Or.inl ⟨by rfl, ?_⟩) (by assumption) ?_
      rotate_left
      · intro w hSw; (try dsimp only at hSw); obtain ⟨hE, hB⟩ := hSw; obtain ⟨e0, e1, e2, e3, e4, e5, e6, e7, e8⟩ := hE.cells; obtain ⟨r0, r1, r2, r3, r4, r5⟩ := cells6 hB; go_simp; try with_reducible rfl
      (try simp only [Act.put, List.setIfInBounds_toArray, List.set_cons_zero, List.set_cons_succ])
      refine wpAnyH_take (i := 3) (oi := { dst := some 16, op := Op.load 23 (Operand.tmp 3), type := 23, pos := "valuation.go:15", after := #[], guard := none }) (v := ?_) rfl (by kernel_rfl) (by kernel_rfl) (by kernel_rfl) (fun _ _ _ h => h) (Or.inl ⟨by rfl, ?_⟩) (by assumption) ?_
      rotate_left
      · intro w hSw; (try dsimp only at hSw); obtain ⟨hE, hB⟩ := hSw; obtain ⟨e0, e1, e2, e3, e4, e5, e6, e7, e8⟩ := hE.cells; obtain ⟨r0, r1, r2, r3, r4, r5⟩ := cells6 hB; go_simp; try with_reducible rfl
      (try simp only [Act.put, List.setIfInBounds_toArray, List.set_cons_zero, List.set_cons_succ])
      refine wpAnyH_ready (rs := [2]) (by kernel_rfl) (by simp) ?_
      refine AllReadyH.cons (o := { dst := some 15, op := Op.call { callee := Callee.value (Operand.func 50), args := #[Operand.tmp 13, Operand.tmp 14], argTypes := #[26, 23] }, type := 65, pos := "valuation.go:15", after := #[{ on := 0, ground := Ground.data }, { on := 1, ground := Ground.data }], guard := none }) rfl (fun K hK => ?_) AllReadyH.nil
      go_simp
      refine (SA.out _ B4.out).mono ?_
      rintro ev w5 ⟨A1, n1, c1, S, rfl, hst, hgood, hb5⟩
      have B5 := Lib.hid (B4.out.trans (hb5.mono B4.out.size))
      have E5 := Lib.hid (E4.out.keep hb5)
      have S5 := Lib.hid (S4.out.keep hb5 S4.out.lt)
      have T5 := Lib.hid hst
      have HV := Lib.hid (hgood.val _ KK.out.bu (VV.Le.refl _))
      clear hst hgood hb5 B4 E4 S4 SA
      refine hK.out _ _ ?_ (fun hHeld => ?_)
      · exact ⟨E5.out, S5.out⟩
      clear hK K
      (try simp only [Act.put, List.setIfInBounds_toArray, List.set_cons_zero, List.set_cons_succ])
      refine wpAnyH_ready (rs := [4]) (by kernel_rfl) (by simp) ?_
      refine AllReadyH.cons (o := { dst := some 17, op := Op.call { callee := Callee.value (Operand.func 49), args := #[Operand.tmp 15, Operand.tmp 16], argTypes := #[65, 23] }, type := 2, pos := "valuation.go:15", after := #[{ on := 2, ground := Ground.data }, { on := 3, ground := Ground.data }, { on := 2, ground := Ground.chain }], guard := none }) rfl (fun K hK => ?_) AllReadyH.nil
      go_simp
      refine (worth_any S A1 n1 c1 a b c d e f w5 T5.out).mono ?_
      rintro ev w6 ⟨rfl, hb6⟩
      have B6 := Lib.hid (B5.out.trans (hb6.mono B5.out.size))
      have E6 := Lib.hid (E5.out.keep hb6)
      have S6 := Lib.hid (S5.out.keep hb6 S5.out.lt)
      clear hb6 B5 E5 S5
      refine hK.out _ _ ?_ (fun hHeld => ?_)
      · exact ⟨E6.out, S6.out⟩
      clear hK K
      (try simp only [Act.put, List.setIfInBounds_toArray, List.set_cons_zero, List.set_cons_succ])
      refine wpAnyH_take (i := 5) (oi := { dst := some 4, op := Op.assign (Operand.tmp 17), type := 2, pos := "valuation.go:15", after := #[{ on := 4, ground := Ground.data }, { on := 4, ground := Ground.chain }, { on := 0, ground := Ground.phase }, { on := 1, ground := Ground.phase }, { on := 2, ground := Ground.phase }, { on := 3, ground := Ground.phase }, { on := 4, ground := Ground.phase }], guard := none }) (v := ?_) rfl (by kernel_rfl) (by kernel_rfl) (by kernel_rfl) (fun _ _ _ h => h) (Or.inl ⟨by rfl, ?_⟩) (by assumption) ?_
      rotate_left
      · intro w hSw; (try dsimp only at hSw); obtain ⟨hE, hB⟩ := hSw; obtain ⟨e0, e1, e2, e3, e4, e5, e6, e7, e8⟩ := hE.cells; obtain ⟨r0, r1, r2, r3, r4, r5⟩ := cells6 hB; go_simp; try with_reducible rfl
      (try simp only [Act.put, List.setIfInBounds_toArray, List.set_cons_zero, List.set_cons_succ])
      refine wpAnyH_done (by kernel_rfl) ?_ _
      clear hHeld
      go_wp2
      go_ret
      exact ⟨by rw [HE.out, ← HV.out]; rfl, B6.out⟩
    · have HE := Lib.hid (VB2.out hcb)
      have hne : decide (cb = 0) = false := decide_eq_false hcb
      have hne2 : (cb == 0) = false := beq_eq_false_iff_ne.2 hcb
      go_wp2_with fail
      refine (CB.out _).mono ?_
      rintro ev w3 ⟨rfl, hb3⟩
      have B3 := Lib.hid (B2.out.trans (hb3.mono B2.out.size))
      clear e0 e1 e2 e3 e4 e5 e6 e7 e8 r0 r1 r2 r3 r4 r5 B2 E2 S2 hb3
      go_wp2
      go_ret
      exact ⟨by rw [HE.out]; rfl, B3.out⟩
  · have HE := Lib.hid (VB.out hck)
    have hne : decide (ck = 0) = false := decide_eq_false hck
    have hne2 : (ck == 0) = false := beq_eq_false_iff_ne.2 hck
    go_wp2_with fail
    refine (CK.out _ HB.out).mono ?_
    rintro ev w2 ⟨rfl, hb2⟩
    have B2 := Lib.hid (HB.out.trans (hb2.mono HB.out.size))
    clear e0 e1 e2 e3 e4 e5 e6 e7 e8 r0 r1 r2 r3 r4 r5 HB E0 S0 hb2
    go_wp2
    go_ret
    exact ⟨by rw [HE.out]; rfl, B2.out⟩
def full6 : List Int := [4, 4, 4, 4, 4, 4]
set_option maxRecDepth 100000 in
set_option maxHeartbeats 4000000 in
theorem most_any (x : NT) (hx : x.size ≤ 2000000) (w : World) (ok : Nat → Prop) (hok : x.Ok w ok) : Calls Try.prog 20 #[x.val] w (Gives (.int .i64 (VV.value x.n full6)) w) := by
  have CV := Lib.hid (fun w' (hb : Below w.heap.size w w') => value_any x hx 4 4 4 4 4 4 w' ok (hok.below hb))
  obtain ⟨o, bb, v, A, cc, k⟩ := x
  obtain ⟨x0, x1, x2, x3, x4, x5, rfl⟩ := six hok.six
  rw [NT.val_lit] at CV ⊢
  change Hid (∀ w' (hb : Below w.heap.size w w'), Calls _ _ _ _ (Gives (.int .i64 (VV.value _ full6)) w')) at CV
  generalize VV.value (NT.n ⟨o, [x0, x1, x2, x3, x4, x5], v, A, cc, k⟩) full6 = V at *
  have HB := Lib.hid (below_two w (.cells #[.int .i64 o, .int .i64 x0, .int .i64 x1, .int .i64 x2, .int .i64 x3, .int .i64 x4, .int .i64 x5, .int .i64 v, .slice A k.len cc] 26) (.cells #[.int .i64 0, .int .i64 0, .int .i64 0, .int .i64 0, .int .i64 0, .int .i64 0] 23))
  have X0 := Lib.hid (below_new (w.alloc (.cells #[.int .i64 o, .int .i64 x0, .int .i64 x1, .int .i64 x2, .int .i64 x3, .int .i64 x4, .int .i64 x5, .int .i64 v, .slice A k.len cc] 26)) (.cells #[.int .i64 0, .int .i64 0, .int .i64 0, .int .i64 0, .int .i64 0, .int .i64 0] 23))
  have E0 := Lib.hid (show B9 ((w.alloc (.cells #[.int .i64 o, .int .i64 x0, .int .i64 x1, .int .i64 x2, .int .i64 x3, .int .i64 x4, .int .i64 x5, .int .i64 v, .slice A k.len cc] 26)).alloc (.cells #[.int .i64 0, .int .i64 0, .int .i64 0, .int .i64 0, .int .i64 0, .int .i64 0] 23)) w.heap.size (.int .i64 o) (.int .i64 x0) (.int .i64 x1) (.int .i64 x2) (.int .i64 x3) (.int .i64 x4) (.int .i64 x5) (.int .i64 v) (.slice A k.len cc) from (X0.out.block w.heap.size (by simp)).trans (heap_new w _))
  have S0 := Lib.hid (show BB ((w.alloc (.cells #[.int .i64 o, .int .i64 x0, .int .i64 x1, .int .i64 x2, .int .i64 x3, .int .i64 x4, .int .i64 x5, .int .i64 v, .slice A k.len cc] 26)).alloc (.cells #[.int .i64 0, .int .i64 0, .int .i64 0, .int .i64 0, .int .i64 0, .int .i64 0] 23)) (w.heap.size + 1) 23 [0, 0, 0, 0, 0, 0] from by
    have := BB.new (w.alloc (.cells #[.int .i64 o, .int .i64 x0, .int .i64 x1, .int .i64 x2, .int .i64 x3, .int .i64 x4, .int .i64 x5, .int .i64 v, .slice A k.len cc] 26)) 23 0 0 0 0 0 0
    rwa [World.size_alloc] at this)
  clear X0 hok hx
  go_enter Try.func20, Try.ntmps20
  go_upto_region 2 with (fail)
  generalize (w.alloc (.cells #[.int .i64 o, .int .i64 x0, .int .i64 x1, .int .i64 x2, .int .i64 x3, .int .i64 x4, .int .i64 x5, .int .i64 v, .slice A k.len cc] 26)).alloc (.cells #[.int .i64 0, .int .i64 0, .int .i64 0, .int .i64 0, .int .i64 0, .int .i64 0] 23) = w1 at *
  go_wp2_with fail
  go_loopw [5] (fun t wr => ∃ (i : Nat) (zs : List Int), i ≤ 6 ∧ t = .int .i64 i ∧ Below w.heap.size w wr ∧ B9 wr w.heap.size (.int .i64 o) (.int .i64 x0) (.int .i64 x1) (.int .i64 x2) (.int .i64 x3) (.int .i64 x4) (.int .i64 x5) (.int .i64 v) (.slice A k.len cc) ∧ BB wr (w.heap.size + 1) 23 zs ∧ ∀ j, j < i → MB.at_ zs j = 4) (fun t _ => 6 - (intOf t).toNat)
  case atStart => exact ⟨0, _, by omega, rfl, HB.out, E0.out, S0.out, fun j hj => by omega⟩
  case round =>
    obtain ⟨i, zs, hi, rfl, hbw, hE, hS, hz⟩ := hrel
    have HB1 := Lib.hid hbw
    have E1 := Lib.hid hE
    have S1 := Lib.hid hS
    have HZ := Lib.hid hz
    clear hbw hE hS hz HB E0 S0
    by_cases hlt : i < 6
    · have c1 := S1.out.cell hlt
      have f1 := S1.out.free i
      go_wp2
      go_roundw
      case rel => exact ⟨i + 1, zs.set i 4, by omega, by go_num, HB1.out.setCell (p := ⟨w.heap.size + 1, i, none⟩) (by show w.heap.size ≤ w.heap.size + 1; omega) _, B9.same E1.out (heap_setCell_other wr _ w.heap.size _ (by simp)), S1.out.set i 4, fun j hj => by
        by_cases e : j = i
        · rw [e, at_set_same _ (by rw [S1.out.2]; exact hlt)]
        · rw [at_set_other _ e]; exact HZ.out j (by omega)⟩
      case measure => simp [intOf]; omega
    · obtain rfl : i = 6 := by omega
      have hzs : zs = [4, 4, 4, 4, 4, 4] := MB.ext6 S1.out.2 rfl fun j hj => by
        rw [HZ.out j hj]
        have : j = 0 ∨ j = 1 ∨ j = 2 ∨ j = 3 ∨ j = 4 ∨ j = 5 := by omega
        rcases this with rfl | rfl | rfl | rfl | rfl | rfl <;> rfl
      subst hzs
      obtain ⟨e0, e1, e2, e3, e4, e5, e6, e7, e8⟩ := E1.out.cells
      obtain ⟨r0, r1, r2, r3, r4, r5⟩ := cells6 S1.out
      go_wp2_with fail
      refine (CV.out _ HB1.out).mono ?_
      rintro ev w2 ⟨rfl, hb⟩
      have B2 := Lib.hid (HB1.out.trans (hb.mono HB1.out.size))
      clear hb E1 S1 HB1 CV HZ e0 e1 e2 e3 e4 e5 e6 e7 e8 r0 r1 r2 r3 r4 r5
      go_wp2
      go_ret
      exact ⟨rfl, B2.out⟩
end Go.Proofs.Ytgknggighpjcdaa
