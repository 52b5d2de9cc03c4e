/- DWalkB, DWalkO, DWalkL, DWalkP, DWalkU, joined: no claim of its own. -/
import Derived.Test.YtjjpfpgjpmedmaaDLives
namespace Go.Proofs.Ytjjpfpgjpmedmaa
open Go.RowKit
attribute [local go_sem] Oper.semAt_some
theorem run_same6 (m0 m1 m2 m3 m4 m5 : Int) (w : World) : (Op.equalIn 10000 24 (.agg #[.int .i64 m0, .int .i64 m1, .int .i64 m2, .int .i64 m3, .int .i64 m4, .int .i64 m5]) (.agg #[.int .i64 m0, .int .i64 m1, .int .i64 m2, .int .i64 m3, .int .i64 m4, .int .i64 m5])).run Try.prog w = .ok true w := by
  rw [run_neq_lit]; simp
set_option maxRecDepth 100000 in
set_option maxHeartbeats 8000000 in
theorem demandsetBest_walk (A : Option Addr) (n c : Nat) (l : List MF.Of) (q0 q1 q2 q3 q4 q5 p0 p1 p2 p3 p4 p5 : Int) (w : World) (hl : LstIn ofE w A n c l) : Calls Try.prog 5 #[.slice A n c, .agg #[.int .i64 q0, .int .i64 q1, .int .i64 q2, .int .i64 q3, .int .i64 q4, .int .i64 q5], .agg #[.int .i64 p0, .int .i64 p1, .int .i64 p2, .int .i64 p3, .int .i64 p4, .int .i64 p5]] w (Gives (.bool true) w) := by
  have S0 := Lib.hid (Two2.start w 24 39 q0 q1 q2 q3 q4 q5 p0 p1 p2 p3 p4 p5)
  have L0 := Lib.hid (hl.lst.keep S0.out.below)
  have hmo : Try.prog.follows .mixedOrders = true := by kernel_rfl
  have HCn := Lib.hid (fun w' => rcount_any q0 q1 q2 q3 q4 q5 w')
  clear hl
  generalize cntB [q0, q1, q2, q3, q4, q5] = cn at *
  go_enter Try.func5, Try.ntmps5
  go_upto_region 1 with (fail)
  generalize (w.alloc (.cells #[.int .i64 q0, .int .i64 q1, .int .i64 q2, .int .i64 q3, .int .i64 q4, .int .i64 q5] 24)).alloc (.cells #[.int .i64 p0, .int .i64 p1, .int .i64 p2, .int .i64 p3, .int .i64 p4, .int .i64 p5] 39) = w1 at *
  by_cases h3 : 60 < n
  · have d3 : decide ((60 : Int) < n) = true := decide_eq_true (by omega)
    go_wp2_with fail
    refine (lives15_any _).mono ?_
    rintro ev w2 ⟨rfl, nb⟩
    have B2 := Lib.hid (S0.out.below.trans (nb.mono S0.out.below.size))
    clear nb S0 L0
    go_wp2
    go_ret
    exact ⟨rfl, B2.out⟩
  · have d3 : decide ((60 : Int) < n) = false := decide_eq_false (by omega)
    obtain ⟨r0, r1, r2, r3, r4, r5⟩ := cells6 S0.out.x
    go_wp2_with fail
    refine (HCn.out _).mono ?_
    rintro ev w2 ⟨rfl, nb⟩
    have H2 := Lib.hid (S0.out.keep nb)
    have HL := Lib.hid (L0.out.keep nb)
    clear nb r0 r1 r2 r3 r4 r5 S0 L0 d3
    by_cases h4 : 400 < cn
    · have d4 : decide (400 < cn) = true := decide_eq_true h4
      go_wp2_with fail
      refine (lives15_any _).mono ?_
      rintro ev w3 ⟨rfl, nb⟩
      have B2 := Lib.hid (H2.out.below.trans (nb.mono H2.out.below.size))
      clear nb H2 HL
      go_wp2
      go_ret
      exact ⟨rfl, B2.out⟩
    · have d4 : decide (400 < cn) = false := decide_eq_false h4
      have hb6 : (MD.bestE l [q0, q1, q2, q3, q4, q5] [p0, p1, p2, p3, p4, p5]).1.length = 6 := (MD.best_in rfl).1
      have HB1 := Lib.hid (fun X (h : Lst ofE X A n c l) => best_any A n c l (by omega) q0 q1 q2 q3 q4 q5 p0 p1 p2 p3 p4 p5 X h)
      have HB2 := Lib.hid (fun X (h : Lst ofE X A n c l) => rbest_any A n c l (by omega) q0 q1 q2 q3 q4 q5 p0 p1 p2 p3 p4 p5 X h)
      have HD1 := Lib.hid (fun X (h : Lst ofE X A n c l) => demand_any A n c l (by omega) q0 q1 q2 q3 q4 q5 p0 p1 p2 p3 p4 p5 X h)
      have HD2 := Lib.hid (fun X (h : Lst ofE X A n c l) => rdemand_any A n c l (by omega) q0 q1 q2 q3 q4 q5 p0 p1 p2 p3 p4 p5 X h)
      generalize MD.bestE l [q0, q1, q2, q3, q4, q5] [p0, p1, p2, p3, p4, p5] = E at *
      generalize MD.demE l [q0, q1, q2, q3, q4, q5] [p0, p1, p2, p3, p4, p5] = D at *
      obtain ⟨eb, mv⟩ := E
      obtain ⟨m0, m1, m2, m3, m4, m5, rfl⟩ := six hb6
      dsimp only at HB1 HB2
      rw [aggB_lit] at HB1 HB2
      have hmv : (mv == mv) = true := beq_self_eq_true mv
      have hmv2 : (mv != mv) = false := by simp
      clear hb6 h3 h4
      obtain ⟨r0, r1, r2, r3, r4, r5⟩ := cells6 H2.out.x
      obtain ⟨s0, s1, s2, s3, s4, s5⟩ := cells6 H2.out.y
      go_wp2_with fail
      refine (HB1.out _ HL.out).mono ?_
      rintro ev w3 ⟨rfl, nb⟩
      replace H2 := Lib.hid (H2.out.keep nb)
      replace HL := Lib.hid (HL.out.keep nb)
      skip
      clear nb
      go_upto_region 4 with (fail)
      have nb := below_new w3 (.cells #[.int .i64 m0, .int .i64 m1, .int .i64 m2, .int .i64 m3, .int .i64 m4, .int .i64 m5] 24)
      have X1 := Lib.hid (BB.new w3 24 m0 m1 m2 m3 m4 m5)
      replace H2 := Lib.hid (H2.out.keep nb)
      replace HL := Lib.hid (HL.out.keep nb)
      skip
      clear nb
      generalize w3.alloc (.cells #[.int .i64 m0, .int .i64 m1, .int .i64 m2, .int .i64 m3, .int .i64 m4, .int .i64 m5] 24) = w4 at *
      clear r0 r1 r2 r3 r4 r5 s0 s1 s2 s3 s4 s5 HB1
      generalize w3.heap.size = g3 at *
      obtain ⟨r0, r1, r2, r3, r4, r5⟩ := cells6 H2.out.x
      obtain ⟨s0, s1, s2, s3, s4, s5⟩ := cells6 H2.out.y
      go_wp2_with fail
      refine (HB2.out _ HL.out).mono ?_
      rintro ev w5 ⟨rfl, nb⟩
      replace H2 := Lib.hid (H2.out.keep nb)
      replace HL := Lib.hid (HL.out.keep nb)
      replace X1 := Lib.hid (X1.out.keep nb X1.out.lt)
      clear nb
      go_upto_region 5 with (fail)
      have nb := below_new w5 (.cells #[.int .i64 m0, .int .i64 m1, .int .i64 m2, .int .i64 m3, .int .i64 m4, .int .i64 m5] 24)
      have X2 := Lib.hid (BB.new w5 24 m0 m1 m2 m3 m4 m5)
      replace H2 := Lib.hid (H2.out.keep nb)
      replace HL := Lib.hid (HL.out.keep nb)
      replace X1 := Lib.hid (X1.out.keep nb X1.out.lt)
      clear nb
      generalize w5.alloc (.cells #[.int .i64 m0, .int .i64 m1, .int .i64 m2, .int .i64 m3, .int .i64 m4, .int .i64 m5] 24) = w6 at *
      clear r0 r1 r2 r3 r4 r5 s0 s1 s2 s3 s4 s5 HB2
      generalize w5.heap.size = g5 at *
      replace H2 := Lib.hid (H2.out.keep (below_drawn w6))
      replace HL := Lib.hid (HL.out.keep (below_drawn w6))
      replace X1 := Lib.hid (X1.out.keep (below_drawn w6) X1.out.lt)
      replace X2 := Lib.hid (X2.out.keep (below_drawn w6) X2.out.lt)
      refine wp_region_held_drew (S := fun w' => BB w' w.heap.size 24 [q0, q1, q2, q3, q4, q5] ∧ BB w' (w.heap.size + 1) 39 [p0, p1, p2, p3, p4, p5]) hmo ⟨H2.out.x, H2.out.y⟩ (fun hHeld => ?_)
      generalize w6.drew = Y at *
      refine wpAnyH_take (i := 0) (oi := { dst := some 37, op := Op.move (Operand.tmp 0), type := 22, pos := "law.go:37", after := #[], guard := none }) (v := ?_) rfl (by kernel_rfl) (by kernel_rfl) (by kernel_rfl) (fun _ _ _ h => h) (Or.inl ⟨by rfl, ?_⟩) (by assumption) ?_
      rotate_left
      · intro w hSw; (try dsimp only at hSw); obtain ⟨hP, hB⟩ := hSw; obtain ⟨r0, r1, r2, r3, r4, r5⟩ := cells6 hP; obtain ⟨s0, s1, s2, s3, s4, s5⟩ := cells6 hB; go_simp; try with_reducible rfl
      (try simp only [Act.put, List.setIfInBounds_toArray, List.set_cons_zero, List.set_cons_succ])
      refine wpAnyH_take (i := 1) (oi := { dst := some 38, op := Op.load 24 (Operand.tmp 4), type := 24, pos := "law.go:37", after := #[], guard := none }) (v := ?_) rfl (by kernel_rfl) (by kernel_rfl) (by kernel_rfl) (fun _ _ _ h => h) (Or.inl ⟨by rfl, ?_⟩) (by assumption) ?_
      rotate_left
      · intro w hSw; (try dsimp only at hSw); obtain ⟨hP, hB⟩ := hSw; obtain ⟨r0, r1, r2, r3, r4, r5⟩ := cells6 hP; obtain ⟨s0, s1, s2, s3, s4, s5⟩ := cells6 hB; go_simp; try with_reducible rfl
      (try simp only [Act.put, List.setIfInBounds_toArray, List.set_cons_zero, List.set_cons_succ])
      refine wpAnyH_take (i := 2) (oi := { dst := some 39, op := Op.load 39 (Operand.tmp 5), type := 39, pos := "law.go:37", after := #[], guard := none }) (v := ?_) rfl (by kernel_rfl) (by kernel_rfl) (by kernel_rfl) (fun _ _ _ h => h) (Or.inl ⟨by rfl, ?_⟩) (by assumption) ?_
      rotate_left
      · intro w hSw; (try dsimp only at hSw); obtain ⟨hP, hB⟩ := hSw; obtain ⟨r0, r1, r2, r3, r4, r5⟩ := cells6 hP; obtain ⟨s0, s1, s2, s3, s4, s5⟩ := cells6 hB; go_simp; try with_reducible rfl
      (try simp only [Act.put, List.setIfInBounds_toArray, List.set_cons_zero, List.set_cons_succ])
      refine wpAnyH_take (i := 4) (oi := { dst := some 41, op := Op.move (Operand.tmp 0), type := 22, pos := "law.go:37", after := #[], guard := none }) (v := ?_) rfl (by kernel_rfl) (by kernel_rfl) (by kernel_rfl) (fun _ _ _ h => h) (Or.inl ⟨by rfl, ?_⟩) (by assumption) ?_
      rotate_left
      · intro w hSw; (try dsimp only at hSw); obtain ⟨hP, hB⟩ := hSw; obtain ⟨r0, r1, r2, r3, r4, r5⟩ := cells6 hP; obtain ⟨s0, s1, s2, s3, s4, s5⟩ := cells6 hB; go_simp; try with_reducible rfl
      (try simp only [Act.put, List.setIfInBounds_toArray, List.set_cons_zero, List.set_cons_succ])
      refine wpAnyH_take (i := 5) (oi := { dst := some 42, op := Op.load 24 (Operand.tmp 4), type := 24, pos := "law.go:37", after := #[], guard := none }) (v := ?_) rfl (by kernel_rfl) (by kernel_rfl) (by kernel_rfl) (fun _ _ _ h => h) (Or.inl ⟨by rfl, ?_⟩) (by assumption) ?_
      rotate_left
      · intro w hSw; (try dsimp only at hSw); obtain ⟨hP, hB⟩ := hSw; obtain ⟨r0, r1, r2, r3, r4, r5⟩ := cells6 hP; obtain ⟨s0, s1, s2, s3, s4, s5⟩ := cells6 hB; go_simp; try with_reducible rfl
      (try simp only [Act.put, List.setIfInBounds_toArray, List.set_cons_zero, List.set_cons_succ])
      refine wpAnyH_take (i := 6) (oi := { dst := some 43, op := Op.load 39 (Operand.tmp 5), type := 39, pos := "law.go:37", after := #[], guard := none }) (v := ?_) rfl (by kernel_rfl) (by kernel_rfl) (by kernel_rfl) (fun _ _ _ h => h) (Or.inl ⟨by rfl, ?_⟩) (by assumption) ?_
      rotate_left
      · intro w hSw; (try dsimp only at hSw); obtain ⟨hP, hB⟩ := hSw; obtain ⟨r0, r1, r2, r3, r4, r5⟩ := cells6 hP; obtain ⟨s0, s1, s2, s3, s4, s5⟩ := cells6 hB; go_simp; try with_reducible rfl
      (try simp only [Act.put, List.setIfInBounds_toArray, List.set_cons_zero, List.set_cons_succ])
      refine wpAnyH_ready (rs := [3]) (by kernel_rfl) (by simp) ?_
      refine AllReadyH.cons (o := { dst := some 40, op := Op.call { callee := Callee.value (Operand.func 23), args := #[Operand.tmp 37, Operand.tmp 38, Operand.tmp 39], argTypes := #[22, 24, 39] }, type := 45, pos := "law.go:37", after := #[{ on := 0, ground := Ground.data }, { on := 1, ground := Ground.data }, { on := 2, ground := Ground.data }], guard := none }) rfl (fun K hK => ?_) AllReadyH.nil
      go_simp
      refine (HD1.out Y HL.out).mono ?_
      rintro ev v1 ⟨A1, n1, c1, rfl, hd1, nb⟩
      replace H2 := Lib.hid (H2.out.keep nb)
      replace HL := Lib.hid (HL.out.keep nb)
      replace X1 := Lib.hid (X1.out.keep nb X1.out.lt)
      replace X2 := Lib.hid (X2.out.keep nb X2.out.lt)
      have D1 := Lib.hid hd1
      clear nb hd1
      refine hK.out _ _ ?_ (fun hHeld => ?_)
      · exact ⟨H2.out.x, H2.out.y⟩
      clear hK K
      (try simp only [Act.put, List.setIfInBounds_toArray, List.set_cons_zero, List.set_cons_succ])
      refine wpAnyH_ready (rs := [7]) (by kernel_rfl) (by simp) ?_
      refine AllReadyH.cons (o := { dst := some 44, op := Op.call { callee := Callee.value (Operand.func 24), args := #[Operand.tmp 41, Operand.tmp 42, Operand.tmp 43], argTypes := #[22, 24, 39] }, type := 45, pos := "law.go:37", after := #[{ on := 4, ground := Ground.data }, { on := 5, ground := Ground.data }, { on := 6, ground := Ground.data }, { on := 3, ground := Ground.chain }], guard := none }) rfl (fun K hK => ?_) AllReadyH.nil
      go_simp
      refine (HD2.out v1 HL.out).mono ?_
      rintro ev v2 ⟨A2, n2, c2, rfl, hd2, nb⟩
      replace H2 := Lib.hid (H2.out.keep nb)
      replace HL := Lib.hid (HL.out.keep nb)
      replace X1 := Lib.hid (X1.out.keep nb X1.out.lt)
      replace X2 := Lib.hid (X2.out.keep nb X2.out.lt)
      replace D1 := Lib.hid (D1.out.keep nb)
      have D2 := Lib.hid hd2
      clear nb hd2
      refine hK.out _ _ ?_ (fun hHeld => ?_)
      · exact ⟨H2.out.x, H2.out.y⟩
      clear hK K
      (try simp only [Act.put, List.setIfInBounds_toArray, List.set_cons_zero, List.set_cons_succ])
      refine wpAnyH_take (i := 8) (oi := { dst := some 11, op := Op.assign (Operand.tmp 40), type := 45, pos := "law.go:37", after := #[{ on := 3, ground := Ground.data }, { on := 7, ground := Ground.chain }, { on := 0, ground := Ground.phase }, { on := 1, ground := Ground.phase }, { on := 2, ground := Ground.phase }, { on := 3, ground := Ground.phase }, { on := 4, ground := Ground.textOnly Departure.lateStores }, { on := 5, ground := Ground.textOnly Departure.lateStores }, { on := 6, ground := Ground.textOnly Departure.lateStores }, { on := 7, ground := Ground.textOnly Departure.lateStoresUnsure }], guard := none }) (v := ?_) rfl (by kernel_rfl) (by kernel_rfl) (by kernel_rfl) (fun _ _ _ h => h) (Or.inl ⟨by rfl, ?_⟩) (by assumption) ?_
      rotate_left
      · intro w hSw; (try dsimp only at hSw); obtain ⟨hP, hB⟩ := hSw; obtain ⟨r0, r1, r2, r3, r4, r5⟩ := cells6 hP; obtain ⟨s0, s1, s2, s3, s4, s5⟩ := cells6 hB; go_simp; try with_reducible rfl
      (try simp only [Act.put, List.setIfInBounds_toArray, List.set_cons_zero, List.set_cons_succ])
      refine wpAnyH_take (i := 9) (oi := { dst := some 12, op := Op.assign (Operand.tmp 44), type := 45, pos := "law.go:37", after := #[{ on := 7, ground := Ground.data }, { on := 8, ground := Ground.chain }, { on := 0, ground := Ground.phase }, { on := 1, ground := Ground.phase }, { on := 2, ground := Ground.phase }, { on := 3, ground := Ground.phase }, { on := 4, ground := Ground.phase }, { on := 5, ground := Ground.phase }, { on := 6, ground := Ground.phase }, { on := 7, ground := Ground.phase }, { on := 8, ground := Ground.phase }], guard := none }) (v := ?_) rfl (by kernel_rfl) (by kernel_rfl) (by kernel_rfl) (fun _ _ _ h => h) (Or.inl ⟨by rfl, ?_⟩) (by assumption) ?_
      rotate_left
      · intro w hSw; (try dsimp only at hSw); obtain ⟨hP, hB⟩ := hSw; obtain ⟨r0, r1, r2, r3, r4, r5⟩ := cells6 hP; obtain ⟨s0, s1, s2, s3, s4, s5⟩ := cells6 hB; go_simp; try with_reducible rfl
      (try simp only [Act.put, List.setIfInBounds_toArray, List.set_cons_zero, List.set_cons_succ])
      refine wpAnyH_done (by kernel_rfl) ?_ _
      clear hHeld
      obtain ⟨W, hW⟩ : ∃ W, W = v2 := ⟨_, rfl⟩
      rw [← hW] at H2 HL X1 X2 D1 D2 ⊢
      clear hW
      have HN1 := Lib.hid D1.out.len
      obtain rfl : n1 = n2 := HN1.out.symm.trans D2.out.len
      obtain ⟨r0, r1, r2, r3, r4, r5⟩ := cells6 X1.out
      obtain ⟨s0, s1, s2, s3, s4, s5⟩ := cells6 X2.out
      have hq := run_same6 m0 m1 m2 m3 m4 m5
      have hf1 := D1.out.few
      go_wp2_with fail
      clear r0 r1 r2 r3 r4 r5 s0 s1 s2 s3 s4 s5 hq
      go_loopw [13] (fun i wr => ∃ k : Nat, k ≤ n1 ∧ i = .int .i64 k ∧ Below W.heap.size W wr) (fun i _ => n1 - (intOf i).toNat)
      case atStart => exact ⟨0, Nat.zero_le _, rfl, Below.refl _ _⟩
      case round =>
        obtain ⟨k, hk, rfl, hbw⟩ := hrel
        have B8 := Lib.hid hbw
        clear hbw
        by_cases hlt : k < n1
        · obtain ⟨ad1, x0, x1, x2, x3, x4, x5, rfl, hx1, _, _⟩ := D1.out.at_ hlt
          obtain ⟨ad2, _, _, _, _, _, _, rfl, _, _, _⟩ := D2.out.at_ hlt
          have HX := Lib.hid hx1
          have HQ := Lib.hid (run_same6 x0 x1 x2 x3 x4 x5)
          clear hx1
          go_upto_region 11 with (fail)
          have B9 := Lib.hid (B8.out.trans ((below_drawn wr).mono B8.out.size))
          clear B8
          refine wp_region_held_drew (S := fun w' => Rws w' (some ad1) n1 c1 D ∧ Rws w' (some ad2) n1 c2 D) hmo ⟨D1.out.keep B9.out, D2.out.keep B9.out⟩ (fun hHeld => ?_)
          generalize wr.drew = Y2 at *
          refine wpAnyH_take (i := 0) (oi := { dst := some 66, op := Op.move (Operand.tmp 11), type := 45, pos := "law.go:42", after := #[], guard := none }) (v := ?_) rfl (by kernel_rfl) (by kernel_rfl) (by kernel_rfl) (fun _ _ _ h => h) (Or.inl ⟨by rfl, ?_⟩) (by assumption) ?_
          rotate_left
          · intro w hSw; (try dsimp only at hSw); obtain ⟨hR1, hR2⟩ := hSw; obtain ⟨e0, e1, e2, e3, e4, e5⟩ := rws_cells hR1 hlt HX.out; obtain ⟨g0, g1, g2, g3, g4, g5⟩ := rws_cells hR2 hlt HX.out; have hq := HQ.out w; go_simp; try with_reducible rfl
          (try simp only [Act.put, List.setIfInBounds_toArray, List.set_cons_zero, List.set_cons_succ])
          refine wpAnyH_take (i := 1) (oi := { dst := some 67, op := Op.move (Operand.tmp 13), type := 3, pos := "law.go:42", after := #[], guard := none }) (v := ?_) rfl (by kernel_rfl) (by kernel_rfl) (by kernel_rfl) (fun _ _ _ h => h) (Or.inl ⟨by rfl, ?_⟩) (by assumption) ?_
          rotate_left
          · intro w hSw; (try dsimp only at hSw); obtain ⟨hR1, hR2⟩ := hSw; obtain ⟨e0, e1, e2, e3, e4, e5⟩ := rws_cells hR1 hlt HX.out; obtain ⟨g0, g1, g2, g3, g4, g5⟩ := rws_cells hR2 hlt HX.out; have hq := HQ.out w; go_simp; try with_reducible rfl
          (try simp only [Act.put, List.setIfInBounds_toArray, List.set_cons_zero, List.set_cons_succ])
          refine wpAnyH_take (i := 2) (oi := { dst := some 68, op := Op.indexAddr 45 (Operand.tmp 66) (Operand.tmp 67), type := 0, pos := "law.go:42", after := #[{ on := 0, ground := Ground.data }, { on := 1, ground := Ground.data }], guard := none }) (v := ?_) rfl (by kernel_rfl) (by kernel_rfl) (by kernel_rfl) (fun _ _ _ h => h) (Or.inl ⟨by rfl, ?_⟩) (by assumption) ?_
          rotate_left
          · intro w hSw; (try dsimp only at hSw); obtain ⟨hR1, hR2⟩ := hSw; obtain ⟨e0, e1, e2, e3, e4, e5⟩ := rws_cells hR1 hlt HX.out; obtain ⟨g0, g1, g2, g3, g4, g5⟩ := rws_cells hR2 hlt HX.out; have hq := HQ.out w; go_simp; try with_reducible rfl
          (try simp only [Act.put, List.setIfInBounds_toArray, List.set_cons_zero, List.set_cons_succ])
          refine wpAnyH_take (i := 3) (oi := { dst := some 69, op := Op.load 24 (Operand.tmp 68), type := 24, pos := "law.go:42", after := #[{ on := 2, ground := Ground.data }], guard := none }) (v := ?_) rfl (by kernel_rfl) (by kernel_rfl) (by kernel_rfl) (fun _ _ _ h => h) (Or.inl ⟨by rfl, ?_⟩) (by assumption) ?_
          rotate_left
          · intro w hSw; (try dsimp only at hSw); obtain ⟨hR1, hR2⟩ := hSw; obtain ⟨e0, e1, e2, e3, e4, e5⟩ := rws_cells hR1 hlt HX.out; obtain ⟨g0, g1, g2, g3, g4, g5⟩ := rws_cells hR2 hlt HX.out; have hq := HQ.out w; go_simp; try with_reducible rfl
          (try simp only [Act.put, List.setIfInBounds_toArray, List.set_cons_zero, List.set_cons_succ])
          refine wpAnyH_take (i := 4) (oi := { dst := some 70, op := Op.move (Operand.tmp 12), type := 45, pos := "law.go:42", after := #[], guard := none }) (v := ?_) rfl (by kernel_rfl) (by kernel_rfl) (by kernel_rfl) (fun _ _ _ h => h) (Or.inl ⟨by rfl, ?_⟩) (by assumption) ?_
          rotate_left
          · intro w hSw; (try dsimp only at hSw); obtain ⟨hR1, hR2⟩ := hSw; obtain ⟨e0, e1, e2, e3, e4, e5⟩ := rws_cells hR1 hlt HX.out; obtain ⟨g0, g1, g2, g3, g4, g5⟩ := rws_cells hR2 hlt HX.out; have hq := HQ.out w; go_simp; try with_reducible rfl
          (try simp only [Act.put, List.setIfInBounds_toArray, List.set_cons_zero, List.set_cons_succ])
          refine wpAnyH_take (i := 5) (oi := { dst := some 71, op := Op.move (Operand.tmp 13), type := 3, pos := "law.go:42", after := #[], guard := none }) (v := ?_) rfl (by kernel_rfl) (by kernel_rfl) (by kernel_rfl) (fun _ _ _ h => h) (Or.inl ⟨by rfl, ?_⟩) (by assumption) ?_
          rotate_left
          · intro w hSw; (try dsimp only at hSw); obtain ⟨hR1, hR2⟩ := hSw; obtain ⟨e0, e1, e2, e3, e4, e5⟩ := rws_cells hR1 hlt HX.out; obtain ⟨g0, g1, g2, g3, g4, g5⟩ := rws_cells hR2 hlt HX.out; have hq := HQ.out w; go_simp; try with_reducible rfl
          (try simp only [Act.put, List.setIfInBounds_toArray, List.set_cons_zero, List.set_cons_succ])
          refine wpAnyH_take (i := 6) (oi := { dst := some 72, op := Op.indexAddr 45 (Operand.tmp 70) (Operand.tmp 71), type := 0, pos := "law.go:42", after := #[{ on := 4, ground := Ground.data }, { on := 5, ground := Ground.data }], guard := none }) (v := ?_) rfl (by kernel_rfl) (by kernel_rfl) (by kernel_rfl) (fun _ _ _ h => h) (Or.inl ⟨by rfl, ?_⟩) (by assumption) ?_
          rotate_left
          · intro w hSw; (try dsimp only at hSw); obtain ⟨hR1, hR2⟩ := hSw; obtain ⟨e0, e1, e2, e3, e4, e5⟩ := rws_cells hR1 hlt HX.out; obtain ⟨g0, g1, g2, g3, g4, g5⟩ := rws_cells hR2 hlt HX.out; have hq := HQ.out w; go_simp; try with_reducible rfl
          (try simp only [Act.put, List.setIfInBounds_toArray, List.set_cons_zero, List.set_cons_succ])
          refine wpAnyH_take (i := 7) (oi := { dst := some 73, op := Op.load 24 (Operand.tmp 72), type := 24, pos := "law.go:42", after := #[{ on := 6, ground := Ground.data }], guard := none }) (v := ?_) rfl (by kernel_rfl) (by kernel_rfl) (by kernel_rfl) (fun _ _ _ h => h) (Or.inl ⟨by rfl, ?_⟩) (by assumption) ?_
          rotate_left
          · intro w hSw; (try dsimp only at hSw); obtain ⟨hR1, hR2⟩ := hSw; obtain ⟨e0, e1, e2, e3, e4, e5⟩ := rws_cells hR1 hlt HX.out; obtain ⟨g0, g1, g2, g3, g4, g5⟩ := rws_cells hR2 hlt HX.out; have hq := HQ.out w; go_simp; try with_reducible rfl
          (try simp only [Act.put, List.setIfInBounds_toArray, List.set_cons_zero, List.set_cons_succ])
          refine wpAnyH_take (i := 8) (oi := { dst := some 74, op := Op.binOp BinOp.neq 24 (Operand.tmp 69) (Operand.tmp 73) 24, type := 4, pos := "law.go:42", after := #[{ on := 3, ground := Ground.data }, { on := 7, ground := Ground.data }], guard := none }) (v := ?_) rfl (by kernel_rfl) (by kernel_rfl) (by kernel_rfl) (fun _ _ _ h => h) (Or.inl ⟨by rfl, ?_⟩) (by assumption) ?_
          rotate_left
          · intro w hSw; (try dsimp only at hSw); obtain ⟨hR1, hR2⟩ := hSw; obtain ⟨e0, e1, e2, e3, e4, e5⟩ := rws_cells hR1 hlt HX.out; obtain ⟨g0, g1, g2, g3, g4, g5⟩ := rws_cells hR2 hlt HX.out; have hq := HQ.out w; go_simp; try with_reducible rfl
          (try simp only [Act.put, List.setIfInBounds_toArray, List.set_cons_zero, List.set_cons_succ])
          refine wpAnyH_done (by kernel_rfl) ?_ _
          clear hHeld HQ HX
          go_wp2
          go_roundw
          case rel => exact ⟨k + 1, by omega, by go_num, B9.out⟩
          case measure => simp [intOf]; omega
        · go_wp2_with fail
          refine (lives15_any _).mono ?_
          rintro ev w9 ⟨rfl, nb⟩
          have B9 := Lib.hid (H2.out.below.trans ((B8.out.trans (nb.mono B8.out.size)).mono H2.out.below.size))
          clear nb B8
          go_wp2
          go_ret
          exact ⟨rfl, B9.out⟩
end Go.Proofs.Ytjjpfpgjpmedmaa
namespace Go.Proofs.Ytjjpfpgjpmedmaa
open Go.RowKit
attribute [local go_sem] Oper.semAt_some
theorem list_some {s : List Int} (h : 1 ≤ cntB s) : listB s ≠ [] := by
  intro e
  unfold cntB at h
  unfold listB at e
  split at h
  · rename_i h1
    rw [if_pos h1] at e
    split at h
    · rename_i h2
      rw [if_pos h2] at e
      have h3 := MB.row_length s 6 (MB.P s 6)
      rw [e] at h3
      have := MB.P_pos s 6
      simp at h3
      omega
    · omega
  · omega
set_option maxRecDepth 100000 in
set_option maxHeartbeats 8000000 in
theorem demandsetOptimal_walk (A : Option Addr) (n c : Nat) (l : List MF.Of) (q0 q1 q2 q3 q4 q5 p0 p1 p2 p3 p4 p5 : Int) (w : World) (hl : LstIn ofE w A n c l) : Calls Try.prog 6 #[.slice A n c, .agg #[.int .i64 q0, .int .i64 q1, .int .i64 q2, .int .i64 q3, .int .i64 q4, .int .i64 q5], .agg #[.int .i64 p0, .int .i64 p1, .int .i64 p2, .int .i64 p3, .int .i64 p4, .int .i64 p5]] w (Gives (.bool true) w) := by
  have H2 := Lib.hid (Two2.start w 24 39 q0 q1 q2 q3 q4 q5 p0 p1 p2 p3 p4 p5)
  have HL := Lib.hid (hl.lst.keep H2.out.below)
  have hmo : Try.prog.follows .mixedOrders = true := by kernel_rfl
  have HCn := Lib.hid (fun w' => rcount_any q0 q1 q2 q3 q4 q5 w')
  have HPr := Lib.hid (fun w' => rprices_any p0 p1 p2 p3 p4 p5 w')
  have HLS := Lib.hid (fun w' => list_any q0 q1 q2 q3 q4 q5 w')
  have HNE := Lib.hid (list_some (s := [q0, q1, q2, q3, q4, q5]))
  clear hl
  generalize cntB [q0, q1, q2, q3, q4, q5] = cn at *
  go_enter Try.func6, Try.ntmps6
  go_upto_region 1 with (fail)
  generalize (w.alloc (.cells #[.int .i64 q0, .int .i64 q1, .int .i64 q2, .int .i64 q3, .int .i64 q4, .int .i64 q5] 24)).alloc (.cells #[.int .i64 p0, .int .i64 p1, .int .i64 p2, .int .i64 p3, .int .i64 p4, .int .i64 p5] 39) = w1 at *
  by_cases h3 : 60 < n
  · have d3 : decide ((60 : Int) < n) = true := decide_eq_true (by omega)
    go_wp2_with fail
    refine (lives15_any _).mono ?_
    rintro ev w2 ⟨rfl, nb⟩
    have B2 := Lib.hid (H2.out.below.trans (nb.mono H2.out.below.size))
    clear nb H2 HL
    go_wp2
    go_ret
    exact ⟨rfl, B2.out⟩
  · have d3 : decide ((60 : Int) < n) = false := decide_eq_false (by omega)
    obtain ⟨r0, r1, r2, r3, r4, r5⟩ := cells6 H2.out.y
    cases hpr : MD.prB [p0, p1, p2, p3, p4, p5] with
    | false =>
      rw [hpr] at HPr
      go_wp2_with fail
      refine (HPr.out _).mono ?_
      rintro ev w2 ⟨rfl, nb⟩
      replace H2 := Lib.hid (H2.out.keep nb)
      replace HL := Lib.hid (HL.out.keep nb)
      clear nb
      clear r0 r1 r2 r3 r4 r5 d3
      go_wp2_with fail
      refine (lives15_any _).mono ?_
      rintro ev w3 ⟨rfl, nb⟩
      have B2 := Lib.hid (H2.out.below.trans (nb.mono H2.out.below.size))
      clear nb H2 HL
      go_wp2
      go_ret
      exact ⟨rfl, B2.out⟩
    | true =>
      have hop := fun hne => MD.optimal (L := l) (s := [q0, q1, q2, q3, q4, q5]) (p := [p0, p1, p2, p3, p4, p5]) rfl rfl hpr hne
      rw [hpr] at HPr
      clear hpr
      go_wp2_with fail
      refine (HPr.out _).mono ?_
      rintro ev w2 ⟨rfl, nb⟩
      replace H2 := Lib.hid (H2.out.keep nb)
      replace HL := Lib.hid (HL.out.keep nb)
      clear nb
      clear r0 r1 r2 r3 r4 r5 d3
      obtain ⟨r0, r1, r2, r3, r4, r5⟩ := cells6 H2.out.x
      go_wp2_with fail
      refine (HCn.out _).mono ?_
      rintro ev w3 ⟨rfl, nb⟩
      replace H2 := Lib.hid (H2.out.keep nb)
      replace HL := Lib.hid (HL.out.keep nb)
      clear nb
      clear r0 r1 r2 r3 r4 r5
      by_cases h4 : cn < 1
      · have d4 : decide (cn < 1) = true := decide_eq_true h4
        go_wp2_with fail
        refine (lives15_any _).mono ?_
        rintro ev w4 ⟨rfl, nb⟩
        have B2 := Lib.hid (H2.out.below.trans (nb.mono H2.out.below.size))
        clear nb H2 HL
        go_wp2
        go_ret
        exact ⟨rfl, B2.out⟩
      · have d4 : decide (cn < 1) = false := decide_eq_false h4
        obtain ⟨ho1, ho2, ho3, ho4⟩ := hop (HNE.out (by omega))
        obtain ⟨r0, r1, r2, r3, r4, r5⟩ := cells6 H2.out.x
        go_wp2_with fail
        refine (HCn.out _).mono ?_
        rintro ev w4 ⟨rfl, nb⟩
        replace H2 := Lib.hid (H2.out.keep nb)
        replace HL := Lib.hid (HL.out.keep nb)
        clear nb
        clear r0 r1 r2 r3 r4 r5 d4 hop
        by_cases h5 : 200 < cn
        · have d5 : decide (200 < cn) = true := decide_eq_true h5
          go_wp2_with fail
          refine (lives15_any _).mono ?_
          rintro ev w5 ⟨rfl, nb⟩
          have B2 := Lib.hid (H2.out.below.trans (nb.mono H2.out.below.size))
          clear nb H2 HL
          go_wp2
          go_ret
          exact ⟨rfl, B2.out⟩
        · have d5 : decide (200 < cn) = false := decide_eq_false h5
          have hb6 : (MD.bestE l [q0, q1, q2, q3, q4, q5] [p0, p1, p2, p3, p4, p5]).1.length = 6 := (MD.best_in rfl).1
          have HB1 := Lib.hid (fun X (h : Lst ofE X A n c l) => best_any A n c l (by omega) q0 q1 q2 q3 q4 q5 p0 p1 p2 p3 p4 p5 X h)
          have HU0 := Lib.hid (fun x0 x1 x2 x3 x4 x5 X (h : Lst ofE X A n c l) => utility_any A n c l (by omega) p0 p1 p2 p3 p4 p5 x0 x1 x2 x3 x4 x5 X h)
          generalize MD.bestE l [q0, q1, q2, q3, q4, q5] [p0, p1, p2, p3, p4, p5] = E at *
          obtain ⟨eb, mv⟩ := E
          obtain ⟨m0, m1, m2, m3, m4, m5, rfl⟩ := six hb6
          dsimp only at HB1 ho1 ho2 ho3 ho4
          rw [aggB_lit] at HB1
          have HUb := Lib.hid (fun X (h : Lst ofE X A n c l) => show Calls Try.prog _ _ X (Gives (.int .i64 mv) X) from by have h0 := HU0.out m0 m1 m2 m3 m4 m5 X h; rw [ho2] at h0; exact h0)
          have HWi := Lib.hid (fun X => show Calls Try.prog _ _ X (Gives (.bool true) X) from by have h0 := within_any m0 m1 m2 m3 m4 m5 q0 q1 q2 q3 q4 q5 X; rw [show MB.withinB [m0, m1, m2, m3, m4, m5] [q0, q1, q2, q3, q4, q5] 6 = true from VV.leB_iff.2 ho3] at h0; exact h0)
          have HO4 := Lib.hid ho4
          have hmv2 : (mv != mv) = false := by simp
          have hd0 : decide (mv < 0) = false := decide_eq_false (by omega)
          clear hb6 h3 h4 h5 ho1 ho2 ho3 ho4 HCn HPr HNE
          obtain ⟨r0, r1, r2, r3, r4, r5⟩ := cells6 H2.out.x
          obtain ⟨s0, s1, s2, s3, s4, s5⟩ := cells6 H2.out.y
          go_wp2_with fail
          refine (HB1.out _ HL.out).mono ?_
          rintro ev w5 ⟨rfl, nb⟩
          replace H2 := Lib.hid (H2.out.keep nb)
          replace HL := Lib.hid (HL.out.keep nb)
          clear nb
          go_upto_region 4 with (fail)
          have nb := below_new w5 (.cells #[.int .i64 m0, .int .i64 m1, .int .i64 m2, .int .i64 m3, .int .i64 m4, .int .i64 m5] 24)
          have X1 := Lib.hid (BB.new w5 24 m0 m1 m2 m3 m4 m5)
          replace H2 := Lib.hid (H2.out.keep nb)
          replace HL := Lib.hid (HL.out.keep nb)
          clear nb
          generalize w5.alloc (.cells #[.int .i64 m0, .int .i64 m1, .int .i64 m2, .int .i64 m3, .int .i64 m4, .int .i64 m5] 24) = w6 at *
          clear r0 r1 r2 r3 r4 r5 s0 s1 s2 s3 s4 s5 HB1 d5
          generalize w5.heap.size = g5 at *
          obtain ⟨r0, r1, r2, r3, r4, r5⟩ := cells6 H2.out.x
          obtain ⟨s0, s1, s2, s3, s4, s5⟩ := cells6 H2.out.y
          obtain ⟨t0, t1, t2, t3, t4, t5⟩ := cells6 X1.out
          go_wp2_with fail
          refine (HUb.out _ HL.out).mono ?_
          rintro ev w7 ⟨rfl, nb⟩
          replace X1 := Lib.hid (X1.out.keep nb X1.out.lt)
          replace H2 := Lib.hid (H2.out.keep nb)
          replace HL := Lib.hid (HL.out.keep nb)
          clear nb
          clear r0 r1 r2 r3 r4 r5 s0 s1 s2 s3 s4 s5 t0 t1 t2 t3 t4 t5 hd0 HUb
          obtain ⟨r0, r1, r2, r3, r4, r5⟩ := cells6 H2.out.x
          obtain ⟨t0, t1, t2, t3, t4, t5⟩ := cells6 X1.out
          go_wp2_with fail
          refine (HWi.out _).mono ?_
          rintro ev w8 ⟨rfl, nb⟩
          replace H2 := Lib.hid (H2.out.keep nb)
          replace HL := Lib.hid (HL.out.keep nb)
          clear nb
          clear r0 r1 r2 r3 r4 r5 t0 t1 t2 t3 t4 t5 hmv2 X1 HWi
          obtain ⟨r0, r1, r2, r3, r4, r5⟩ := cells6 H2.out.x
          go_wp2_with fail
          refine (HLS.out _).mono ?_
          rintro ev w9 ⟨A5, n5, c5, rfl, hr5, nb⟩
          replace H2 := Lib.hid (H2.out.keep nb)
          replace HL := Lib.hid (HL.out.keep nb)
          clear nb
          clear r0 r1 r2 r3 r4 r5 HLS
          have R5 := Lib.hid hr5
          have P5 := Lib.hid (fun X (h : Below w9.heap.size w9 X) => H2.out.y.keep h H2.out.y.lt)
          have HL5 := Lib.hid HL.out
          have B5 := Lib.hid H2.out.below
          have hf5 := hr5.few
          clear hr5 HL
          generalize listB [q0, q1, q2, q3, q4, q5] = rs at *
          go_wp2_with fail
          go_loopw [10] (fun i wr => ∃ k : Nat, k ≤ n5 ∧ i = .int .i64 k ∧ Below w9.heap.size w9 wr) (fun i _ => n5 - (intOf i).toNat)
          case atStart => exact ⟨0, Nat.zero_le _, rfl, Below.refl _ _⟩
          case round =>
            obtain ⟨k, hk, rfl, hbw⟩ := hrel
            have B8 := Lib.hid hbw
            clear hbw
            by_cases hlt : k < n5
            · obtain ⟨ad, x0, x1, x2, x3, x4, x5, rfl, hx1, _, _⟩ := R5.out.at_ hlt
              have HX := Lib.hid hx1
              have HU := Lib.hid (HU0.out x0 x1 x2 x3 x4 x5)
              have hle := HO4.out _ (List.mem_of_getElem? hx1)
              generalize MD.utE l [p0, p1, p2, p3, p4, p5] [x0, x1, x2, x3, x4, x5] = u at *
              have hd9 : decide (mv < u) = false := decide_eq_false (by omega)
              clear hx1 hle
              go_upto_region 10 with (fail)
              have B9 := Lib.hid (B8.out.trans ((below_drawn wr).mono B8.out.size))
              clear B8
              refine wp_region_held_drew (S := fun w' => BB w' (w.heap.size + 1) 39 [p0, p1, p2, p3, p4, p5] ∧ Rws w' (some ad) n5 c5 rs) hmo ⟨P5.out _ B9.out, R5.out.keep B9.out⟩ (fun hHeld => ?_)
              generalize wr.drew = Y at *
              refine wpAnyH_take (i := 0) (oi := { dst := some 61, op := Op.move (Operand.tmp 0), type := 22, pos := "law.go:60", after := #[], guard := none }) (v := ?_) rfl (by kernel_rfl) (by kernel_rfl) (by kernel_rfl) (fun _ _ _ h => h) (Or.inl ⟨by rfl, ?_⟩) (by assumption) ?_
              rotate_left
              · intro w hSw; (try dsimp only at hSw); obtain ⟨hP, hR⟩ := hSw; obtain ⟨r0, r1, r2, r3, r4, r5⟩ := cells6 hP; obtain ⟨e0, e1, e2, e3, e4, e5⟩ := rws_cells hR hlt HX.out; go_simp; try with_reducible rfl
              (try simp only [Act.put, List.setIfInBounds_toArray, List.set_cons_zero, List.set_cons_succ])
              refine wpAnyH_take (i := 1) (oi := { dst := some 62, op := Op.load 39 (Operand.tmp 5), type := 39, pos := "law.go:60", after := #[], guard := none }) (v := ?_) rfl (by kernel_rfl) (by kernel_rfl) (by kernel_rfl) (fun _ _ _ h => h) (Or.inl ⟨by rfl, ?_⟩) (by assumption) ?_
              rotate_left
              · intro w hSw; (try dsimp only at hSw); obtain ⟨hP, hR⟩ := hSw; obtain ⟨r0, r1, r2, r3, r4, r5⟩ := cells6 hP; obtain ⟨e0, e1, e2, e3, e4, e5⟩ := rws_cells hR hlt HX.out; go_simp; try with_reducible rfl
              (try simp only [Act.put, List.setIfInBounds_toArray, List.set_cons_zero, List.set_cons_succ])
              refine wpAnyH_take (i := 2) (oi := { dst := some 63, op := Op.move (Operand.tmp 9), type := 45, pos := "law.go:60", after := #[], guard := none }) (v := ?_) rfl (by kernel_rfl) (by kernel_rfl) (by kernel_rfl) (fun _ _ _ h => h) (Or.inl ⟨by rfl, ?_⟩) (by assumption) ?_
              rotate_left
              · intro w hSw; (try dsimp only at hSw); obtain ⟨hP, hR⟩ := hSw; obtain ⟨r0, r1, r2, r3, r4, r5⟩ := cells6 hP; obtain ⟨e0, e1, e2, e3, e4, e5⟩ := rws_cells hR hlt HX.out; go_simp; try with_reducible rfl
              (try simp only [Act.put, List.setIfInBounds_toArray, List.set_cons_zero, List.set_cons_succ])
              refine wpAnyH_take (i := 3) (oi := { dst := some 64, op := Op.move (Operand.tmp 10), type := 3, pos := "law.go:60", after := #[], guard := none }) (v := ?_) rfl (by kernel_rfl) (by kernel_rfl) (by kernel_rfl) (fun _ _ _ h => h) (Or.inl ⟨by rfl, ?_⟩) (by assumption) ?_
              rotate_left
              · intro w hSw; (try dsimp only at hSw); obtain ⟨hP, hR⟩ := hSw; obtain ⟨r0, r1, r2, r3, r4, r5⟩ := cells6 hP; obtain ⟨e0, e1, e2, e3, e4, e5⟩ := rws_cells hR hlt HX.out; go_simp; try with_reducible rfl
              (try simp only [Act.put, List.setIfInBounds_toArray, List.set_cons_zero, List.set_cons_succ])
              refine wpAnyH_take (i := 4) (oi := { dst := some 65, op := Op.indexAddr 45 (Operand.tmp 63) (Operand.tmp 64), type := 0, pos := "law.go:60", after := #[{ on := 2, ground := Ground.data }, { on := 3, ground := Ground.data }], guard := none }) (v := ?_) rfl (by kernel_rfl) (by kernel_rfl) (by kernel_rfl) (fun _ _ _ h => h) (Or.inl ⟨by rfl, ?_⟩) (by assumption) ?_
              rotate_left
              · intro w hSw; (try dsimp only at hSw); obtain ⟨hP, hR⟩ := hSw; obtain ⟨r0, r1, r2, r3, r4, r5⟩ := cells6 hP; obtain ⟨e0, e1, e2, e3, e4, e5⟩ := rws_cells hR hlt HX.out; go_simp; try with_reducible rfl
              (try simp only [Act.put, List.setIfInBounds_toArray, List.set_cons_zero, List.set_cons_succ])
              refine wpAnyH_take (i := 5) (oi := { dst := some 66, op := Op.load 24 (Operand.tmp 65), type := 24, pos := "law.go:60", after := #[{ on := 4, ground := Ground.data }], guard := none }) (v := ?_) rfl (by kernel_rfl) (by kernel_rfl) (by kernel_rfl) (fun _ _ _ h => h) (Or.inl ⟨by rfl, ?_⟩) (by assumption) ?_
              rotate_left
              · intro w hSw; (try dsimp only at hSw); obtain ⟨hP, hR⟩ := hSw; obtain ⟨r0, r1, r2, r3, r4, r5⟩ := cells6 hP; obtain ⟨e0, e1, e2, e3, e4, e5⟩ := rws_cells hR hlt HX.out; go_simp; try with_reducible rfl
              (try simp only [Act.put, List.setIfInBounds_toArray, List.set_cons_zero, List.set_cons_succ])
              refine wpAnyH_take (i := 7) (oi := { dst := some 68, op := Op.move (Operand.tmp 8), type := 2, pos := "law.go:60", after := #[], guard := none }) (v := ?_) rfl (by kernel_rfl) (by kernel_rfl) (by kernel_rfl) (fun _ _ _ h => h) (Or.inl ⟨by rfl, ?_⟩) (by assumption) ?_
              rotate_left
              · intro w hSw; (try dsimp only at hSw); obtain ⟨hP, hR⟩ := hSw; obtain ⟨r0, r1, r2, r3, r4, r5⟩ := cells6 hP; obtain ⟨e0, e1, e2, e3, e4, e5⟩ := rws_cells hR hlt HX.out; go_simp; try with_reducible rfl
              (try simp only [Act.put, List.setIfInBounds_toArray, List.set_cons_zero, List.set_cons_succ])
              refine wpAnyH_ready (rs := [6]) (by kernel_rfl) (by simp) ?_
              refine AllReadyH.cons (o := { dst := some 67, op := Op.call { callee := Callee.value (Operand.func 18), args := #[Operand.tmp 61, Operand.tmp 62, Operand.tmp 66], argTypes := #[22, 39, 24] }, type := 2, pos := "law.go:60", after := #[{ on := 0, ground := Ground.data }, { on := 1, ground := Ground.data }, { on := 5, ground := Ground.data }], guard := none }) rfl (fun K hK => ?_) AllReadyH.nil
              go_simp
              refine (HU.out Y (HL5.out.keep B9.out)).mono ?_
              rintro ev v1 ⟨rfl, nb⟩
              replace B9 := Lib.hid (B9.out.trans (nb.mono B9.out.size))
              clear nb
              refine hK.out _ _ ?_ (fun hHeld => ?_)
              · exact ⟨P5.out _ B9.out, R5.out.keep B9.out⟩
              clear hK K
              (try simp only [Act.put, List.setIfInBounds_toArray, List.set_cons_zero, List.set_cons_succ])
              refine wpAnyH_take (i := 8) (oi := { dst := some 69, op := Op.binOp BinOp.gtr 2 (Operand.tmp 67) (Operand.tmp 68) 2, type := 4, pos := "law.go:60", after := #[{ on := 6, ground := Ground.data }, { on := 7, ground := Ground.data }], guard := none }) (v := ?_) rfl (by kernel_rfl) (by kernel_rfl) (by kernel_rfl) (fun _ _ _ h => h) (Or.inl ⟨by rfl, ?_⟩) (by assumption) ?_
              rotate_left
              · intro w hSw; (try dsimp only at hSw); obtain ⟨hP, hR⟩ := hSw; obtain ⟨r0, r1, r2, r3, r4, r5⟩ := cells6 hP; obtain ⟨e0, e1, e2, e3, e4, e5⟩ := rws_cells hR hlt HX.out; go_simp; try with_reducible rfl
              (try simp only [Act.put, List.setIfInBounds_toArray, List.set_cons_zero, List.set_cons_succ])
              refine wpAnyH_done (by kernel_rfl) ?_ _
              clear hHeld HX HU
              go_wp2
              go_roundw
              case rel => exact ⟨k + 1, by omega, by go_num, B9.out⟩
              case measure => simp [intOf]; omega
            · go_wp2_with fail
              refine (lives15_any _).mono ?_
              rintro ev wL ⟨rfl, nb⟩
              have B9 := Lib.hid (B5.out.trans ((B8.out.trans (nb.mono B8.out.size)).mono B5.out.size))
              clear nb B8
              go_wp2
              go_ret
              exact ⟨rfl, B9.out⟩
end Go.Proofs.Ytjjpfpgjpmedmaa
namespace Go.Proofs.Ytjjpfpgjpmedmaa
open Go.RowKit
attribute [local go_sem] Oper.semAt_some
theorem ppart_int (v : Array Value) (k : Nat) (x : Int) (h : v[k]? = some (.int .i64 x)) (w : World) : (part 2 v (k * 1)).run Try.prog w = .ok (.int .i64 x) w := by
  exact run_part_plain w (by kernel_rfl) (by simpa using h)
theorem pitems_eq (u v : Array Value) (xs ys : List Int) (hx : ∀ k, k < 6 → u[k]? = some (.int .i64 (MB.at_ xs k))) (hy : ∀ k, k < 6 → v[k]? = some (.int .i64 (MB.at_ ys k))) (w : World) :
    ∀ ks : List Nat, (∀ k ∈ ks, k < 6) → (Op.eqItems 9999 2 1 u v ks).run Try.prog w = .ok (ks.all fun k => MB.at_ xs k == MB.at_ ys k) w
  | [], _ => by simp [Op.eqItems]
  | k :: ks, h => by
    have ih := pitems_eq u v xs ys hx hy w ks fun j hj => h j (List.mem_cons_of_mem _ hj)
    have e := run_equalIn_int (P := Try.prog) w 9998 2 .i64 .i64 (MB.at_ xs k) (MB.at_ ys k) Try.underlying2
    simp only [Op.eqItems, Sem.run_bind, ppart_int u k _ (hx k (h k List.mem_cons_self)), ppart_int v k _ (hy k (h k List.mem_cons_self)), e, Result.andThen_ok]
    by_cases hq : MB.at_ xs k = MB.at_ ys k
    · simp [hq, ih]
    · simp [hq]
set_option maxRecDepth 100000 in
theorem prun_same (xs ys : List Int) (hx : xs.length = 6) (hy : ys.length = 6) (w : World) :
    (Op.equalIn 10000 39 (.agg (cellsB xs)) (.agg (cellsB ys))).run Try.prog w = .ok (decide (xs = ys)) w := by
  obtain ⟨i, hi⟩ : ∃ i, Try.prog.info? 2 = some i := ⟨_, by rfl⟩
  have hc : Try.prog.cellsOf 2 = 1 := by kernel_rfl
  rw [run_equalIn_array w 9999 (cellsB xs) (cellsB ys) Try.underlying39 hi, hc,
    pitems_eq _ _ xs ys (fun k hk => cellsB_at (by omega)) (fun k hk => cellsB_at (by omega)) w _ (fun k hk => by simpa using hk)]
  congr 1
  rw [Bool.eq_iff_iff]
  simp only [List.all_eq_true, List.mem_range, beq_iff_eq, decide_eq_true_eq]
  exact ⟨fun h => MB.ext6 hx hy h, fun h k _ => by rw [h]⟩
theorem set_same {p : List Int} {i : Nat} (h : i < p.length) : p.set i (MB.at_ p i) = p := by
  apply List.ext_getElem?
  intro j
  rw [List.getElem?_set]
  by_cases e : i = j
  · subst e
    rw [if_pos rfl, if_pos h]
    unfold MB.at_
    rw [List.getD_eq_getElem?_getD, List.getElem?_eq_getElem h]; rfl
  · rw [if_neg e]
set_option maxRecDepth 100000 in
set_option maxHeartbeats 8000000 in
theorem demandsetLaw_walk (A : Option Addr) (n c : Nat) (l : List MF.Of) (q0 q1 q2 q3 q4 q5 p0 p1 p2 p3 p4 p5 a3 a4 : Int) (w : World) (hl : LstIn ofE w A n c l) (ha3 : 0 ≤ a3 ∧ a3 ≤ 255) (ha4 : 0 ≤ a4 ∧ a4 ≤ 4294967295) : Calls Try.prog 7 #[.slice A n c, .agg #[.int .i64 q0, .int .i64 q1, .int .i64 q2, .int .i64 q3, .int .i64 q4, .int .i64 q5], .agg #[.int .i64 p0, .int .i64 p1, .int .i64 p2, .int .i64 p3, .int .i64 p4, .int .i64 p5], .int .u8 a3, .int .u32 a4] w (Gives (.bool true) w) := by
  have H2 := Lib.hid (Two2.start w 24 39 q0 q1 q2 q3 q4 q5 p0 p1 p2 p3 p4 p5)
  have HL := Lib.hid (hl.lst.keep H2.out.below)
  have HL0 := Lib.hid hl.lst
  have HA4 := Lib.hid ha4
  have HA3 := Lib.hid ha3
  have hmo : Try.prog.follows .mixedOrders = true := by kernel_rfl
  have HCn := Lib.hid (fun w' => rcount_any q0 q1 q2 q3 q4 q5 w')
  have HPr := Lib.hid (fun w' => rprices_any p0 p1 p2 p3 p4 p5 w')
  clear hl
  generalize cntB [q0, q1, q2, q3, q4, q5] = cn at *
  go_enter Try.func7, Try.ntmps7
  go_upto_region 1 with (fail)
  generalize (w.alloc (.cells #[.int .i64 q0, .int .i64 q1, .int .i64 q2, .int .i64 q3, .int .i64 q4, .int .i64 q5] 24)).alloc (.cells #[.int .i64 p0, .int .i64 p1, .int .i64 p2, .int .i64 p3, .int .i64 p4, .int .i64 p5] 39) = w1 at *
  by_cases h3 : 60 < n
  · have d3 : decide ((60 : Int) < n) = true := decide_eq_true (by omega)
    go_wp2_with fail
    refine (lives15_any _).mono ?_
    rintro ev w2 ⟨rfl, nb⟩
    have B2 := Lib.hid (H2.out.below.trans (nb.mono H2.out.below.size))
    clear nb H2 HL
    go_wp2
    go_ret
    exact ⟨rfl, B2.out⟩
  · have d3 : decide ((60 : Int) < n) = false := decide_eq_false (by omega)
    obtain ⟨r0, r1, r2, r3, r4, r5⟩ := cells6 H2.out.y
    cases hpr : MD.prB [p0, p1, p2, p3, p4, p5] with
    | false =>
      rw [hpr] at HPr
      go_wp2_with fail
      refine (HPr.out _).mono ?_
      rintro ev w2 ⟨rfl, nb⟩
      replace H2 := Lib.hid (H2.out.keep nb)
      replace HL := Lib.hid (HL.out.keep nb)
      clear nb
      clear r0 r1 r2 r3 r4 r5 d3
      go_wp2_with fail
      refine (lives15_any _).mono ?_
      rintro ev w3 ⟨rfl, nb⟩
      have B2 := Lib.hid (H2.out.below.trans (nb.mono H2.out.below.size))
      clear nb H2 HL
      go_wp2
      go_ret
      exact ⟨rfl, B2.out⟩
    | true =>
      have HPT := Lib.hid hpr
      rw [hpr] at HPr
      clear hpr
      go_wp2_with fail
      refine (HPr.out _).mono ?_
      rintro ev w2 ⟨rfl, nb⟩
      replace H2 := Lib.hid (H2.out.keep nb)
      replace HL := Lib.hid (HL.out.keep nb)
      clear nb
      clear r0 r1 r2 r3 r4 r5 d3
      obtain ⟨r0, r1, r2, r3, r4, r5⟩ := cells6 H2.out.x
      go_wp2_with fail
      refine (HCn.out _).mono ?_
      rintro ev w3 ⟨rfl, nb⟩
      replace H2 := Lib.hid (H2.out.keep nb)
      replace HL := Lib.hid (HL.out.keep nb)
      clear nb
      clear r0 r1 r2 r3 r4 r5
      by_cases h4 : 200 < cn
      · have d4 : decide (200 < cn) = true := decide_eq_true h4
        go_wp2_with fail
        refine (lives15_any _).mono ?_
        rintro ev w4 ⟨rfl, nb⟩
        have B2 := Lib.hid (H2.out.below.trans (nb.mono H2.out.below.size))
        clear nb H2 HL
        go_wp2
        go_ret
        exact ⟨rfl, B2.out⟩
      · have d4 : decide (200 < cn) = false := decide_eq_false h4
        clear h4 HCn HPr
        obtain ⟨r0, r1, r2, r3, r4, r5⟩ := cells6 H2.out.y
        go_upto_region 5 with (fail)
        obtain ⟨i, hi, hie⟩ : ∃ i : Nat, i < 6 ∧ a3 % 6 = (i : Int) := ⟨(a3 % 6).toNat, by have := HA3.out; omega, by have := HA3.out; omega⟩
        rw [hie]
        clear hie
        have hgq : w.heap.size + 2 ≤ w3.heap.size := by have := H2.out.y.lt; omega
        have nb := below_new w3 (.cells #[.int .i64 p0, .int .i64 p1, .int .i64 p2, .int .i64 p3, .int .i64 p4, .int .i64 p5] 39)
        have XQ := Lib.hid (BB.new w3 39 p0 p1 p2 p3 p4 p5)
        replace H2 := Lib.hid (H2.out.keep nb)
        replace HL := Lib.hid (HL.out.keep nb)
        clear nb
        generalize w3.alloc (.cells #[.int .i64 p0, .int .i64 p1, .int .i64 p2, .int .i64 p3, .int .i64 p4, .int .i64 p5] 39) = w4 at *
        clear r0 r1 r2 r3 r4 r5 d4
        generalize w3.heap.size = gq at *
        have hpi := MD.prB_at HPT.out hi rfl
        have HV := Lib.hid (show ∀ v, v = MB.at_ [p0, p1, p2, p3, p4, p5] i → ([p0, p1, p2, p3, p4, p5] : List Int).set i v = [p0, p1, p2, p3, p4, p5] from fun v hv => by rw [hv]; exact set_same hi)
        have HLW := Lib.hid (fun v hq hv => MD.law (L := l) (s := [q0, q1, q2, q3, q4, q5]) (p := [p0, p1, p2, p3, p4, p5]) (i := i) (v := v) rfl rfl HPT.out hq hi hv)
        have hra : 0 ≤ a4 % 100000 ∧ a4 % 100000 < 100000 := by have := HA4.out; omega
        obtain ⟨r, hr⟩ : ∃ r, r = a4 % 100000 := ⟨_, rfl⟩
        rw [← hr] at hra
        have HR := Lib.hid hr
        clear hr
        have cq := XQ.out.cell hi
        have fq := XQ.out.free i
        have XQ2 := Lib.hid (XQ.out.set i (MB.at_ [p0, p1, p2, p3, p4, p5] i + r))
        have hlen6 : (([p0, p1, p2, p3, p4, p5] : List Int).set i (MB.at_ [p0, p1, p2, p3, p4, p5] i + r)).length = 6 := by rw [List.length_set]; rfl
        have HV2 := Lib.hid (fun (h : r = 0) => HV.out (MB.at_ [p0, p1, p2, p3, p4, p5] i + r) (by omega))
        have HLW2 := Lib.hid (fun (h : 0 < r) hq => HLW.out (MB.at_ [p0, p1, p2, p3, p4, p5] i + r) hq (by omega))
        have HNE := Lib.hid (show 0 < r → [p0, p1, p2, p3, p4, p5] ≠ ([p0, p1, p2, p3, p4, p5] : List Int).set i (MB.at_ [p0, p1, p2, p3, p4, p5] i + r) from fun h e => by
          have h1 := MD.at_set (p := [p0, p1, p2, p3, p4, p5]) (i := i) (k := i) (v := MB.at_ [p0, p1, p2, p3, p4, p5] i + r) hi
          rw [← e, if_pos rfl] at h1
          omega)
        clear HV HLW
        obtain ⟨zs, hzs⟩ : ∃ zs, zs = ([p0, p1, p2, p3, p4, p5] : List Int).set i (MB.at_ [p0, p1, p2, p3, p4, p5] i + r) := ⟨_, rfl⟩
        rw [← hzs] at XQ2 hlen6 HV2 HLW2 HNE
        clear hzs
        generalize MB.at_ [p0, p1, p2, p3, p4, p5] i = v at *
        have H3 := Lib.hid (show Two2 w 24 39 [q0, q1, q2, q3, q4, q5] [p0, p1, p2, p3, p4, p5] (w4.setCell ⟨gq, i, none⟩ (.int .i64 (v + r))) from ⟨H2.out.below.setCell (p := ⟨gq, i, none⟩) (by show w.heap.size ≤ gq; omega) _, H2.out.x.other _ (by omega), H2.out.y.other _ (by omega)⟩)
        have HRA := Lib.hid hra
        rw [HR.out] at XQ2 H3 hra
        go_upto_region 6 with (fail)
        rw [← HR.out] at *
        generalize w4.setCell ⟨gq, i, none⟩ (.int .i64 (v + r)) = w5 at *
        clear cq fq XQ HR H2 HL hpi
        have H2 := Lib.hid H3.out
        have XQ := Lib.hid XQ2.out
        clear H3 XQ2
        have HL := Lib.hid (HL0.out.keep H2.out.below)
        obtain ⟨z0, z1, z2, z3, z4, z5, rfl⟩ := six hlen6
        clear hlen6 ha3 ha4 HA3 HA4
        have HP2 := Lib.hid (fun w' => rprices_any z0 z1 z2 z3 z4 z5 w')
        obtain ⟨r0, r1, r2, r3, r4, r5⟩ := cells6 XQ.out
        cases hpz : MD.prB [z0, z1, z2, z3, z4, z5] with
        | false =>
          rw [hpz] at HP2
          go_wp2_with fail
          refine (HP2.out _).mono ?_
          rintro ev w6 ⟨rfl, nb⟩
          replace H2 := Lib.hid (H2.out.keep nb)
          replace HL := Lib.hid (HL.out.keep nb)
          clear nb
          clear r0 r1 r2 r3 r4 r5
          go_wp2_with fail
          refine (lives15_any _).mono ?_
          rintro ev w7 ⟨rfl, nb⟩
          have B2 := Lib.hid (H2.out.below.trans (nb.mono H2.out.below.size))
          clear nb H2 HL
          go_wp2
          go_ret
          exact ⟨rfl, B2.out⟩
        | true =>
          rw [hpz] at HP2
          go_wp2_with fail
          refine (HP2.out _).mono ?_
          rintro ev w6 ⟨rfl, nb⟩
          replace H2 := Lib.hid (H2.out.keep nb)
          replace HL := Lib.hid (HL.out.keep nb)
          replace XQ := Lib.hid (XQ.out.keep nb XQ.out.lt)
          clear nb
          clear r0 r1 r2 r3 r4 r5 HP2
          have hb6 : (MD.bestE l [q0, q1, q2, q3, q4, q5] [p0, p1, p2, p3, p4, p5]).1.length = 6 := (MD.best_in rfl).1
          have hc6 : (MD.bestE l [q0, q1, q2, q3, q4, q5] [z0, z1, z2, z3, z4, z5]).1.length = 6 := (MD.best_in rfl).1
          have HB1 := Lib.hid (fun X (h : Lst ofE X A n c l) => best_any A n c l (by omega) q0 q1 q2 q3 q4 q5 p0 p1 p2 p3 p4 p5 X h)
          have HB2 := Lib.hid (fun X (h : Lst ofE X A n c l) => best_any A n c l (by omega) q0 q1 q2 q3 q4 q5 z0 z1 z2 z3 z4 z5 X h)
          have HLW3 := Lib.hid (fun h => HLW2.out h hpz)
          have HV3 := Lib.hid (fun (h : [p0, p1, p2, p3, p4, p5] = [z0, z1, z2, z3, z4, z5]) => (by rw [h] : MD.bestE l [q0, q1, q2, q3, q4, q5] [p0, p1, p2, p3, p4, p5] = MD.bestE l [q0, q1, q2, q3, q4, q5] [z0, z1, z2, z3, z4, z5]))
          clear hpz HLW2
          obtain ⟨E1, hE1⟩ : ∃ E, E = MD.bestE l [q0, q1, q2, q3, q4, q5] [p0, p1, p2, p3, p4, p5] := ⟨_, rfl⟩
          obtain ⟨E2, hE2⟩ : ∃ E, E = MD.bestE l [q0, q1, q2, q3, q4, q5] [z0, z1, z2, z3, z4, z5] := ⟨_, rfl⟩
          rw [← hE1] at hb6 HB1 HLW3 HV3
          rw [← hE2] at hc6 HB2 HLW3 HV3
          clear hE1 hE2
          obtain ⟨eb, mv⟩ := E1
          obtain ⟨m0, m1, m2, m3, m4, m5, rfl⟩ := six hb6
          obtain ⟨ec, nv⟩ := E2
          obtain ⟨n0, n1, n2, n3, n4, n5, rfl⟩ := six hc6
          dsimp only at HB1 HB2 HLW3
          rw [aggB_lit] at HB1 HB2
          clear hb6 hc6 HV3
          obtain ⟨r0, r1, r2, r3, r4, r5⟩ := cells6 H2.out.x
          obtain ⟨s0, s1, s2, s3, s4, s5⟩ := cells6 H2.out.y
          go_wp2_with fail
          refine (HB1.out _ HL.out).mono ?_
          rintro ev w7 ⟨rfl, nb⟩
          replace H2 := Lib.hid (H2.out.keep nb)
          replace HL := Lib.hid (HL.out.keep nb)
          replace XQ := Lib.hid (XQ.out.keep nb XQ.out.lt)
          clear nb
          go_upto_region 9 with (fail)
          have nb := below_new w7 (.cells #[.int .i64 m0, .int .i64 m1, .int .i64 m2, .int .i64 m3, .int .i64 m4, .int .i64 m5] 24)
          have X1 := Lib.hid (BB.new w7 24 m0 m1 m2 m3 m4 m5)
          replace H2 := Lib.hid (H2.out.keep nb)
          replace HL := Lib.hid (HL.out.keep nb)
          replace XQ := Lib.hid (XQ.out.keep nb XQ.out.lt)
          clear nb
          generalize w7.alloc (.cells #[.int .i64 m0, .int .i64 m1, .int .i64 m2, .int .i64 m3, .int .i64 m4, .int .i64 m5] 24) = w8 at *
          clear r0 r1 r2 r3 r4 r5 s0 s1 s2 s3 s4 s5 HB1
          generalize w7.heap.size = g5 at *
          obtain ⟨r0, r1, r2, r3, r4, r5⟩ := cells6 H2.out.x
          obtain ⟨s0, s1, s2, s3, s4, s5⟩ := cells6 XQ.out
          go_wp2_with fail
          refine (HB2.out _ HL.out).mono ?_
          rintro ev w9 ⟨rfl, nb⟩
          replace H2 := Lib.hid (H2.out.keep nb)
          replace HL := Lib.hid (HL.out.keep nb)
          replace XQ := Lib.hid (XQ.out.keep nb XQ.out.lt)
          replace X1 := Lib.hid (X1.out.keep nb X1.out.lt)
          clear nb
          go_upto_region 10 with (fail)
          have nb := below_new w9 (.cells #[.int .i64 n0, .int .i64 n1, .int .i64 n2, .int .i64 n3, .int .i64 n4, .int .i64 n5] 24)
          have X2 := Lib.hid (BB.new w9 24 n0 n1 n2 n3 n4 n5)
          replace H2 := Lib.hid (H2.out.keep nb)
          replace HL := Lib.hid (HL.out.keep nb)
          replace XQ := Lib.hid (XQ.out.keep nb XQ.out.lt)
          replace X1 := Lib.hid (X1.out.keep nb X1.out.lt)
          clear nb
          generalize w9.alloc (.cells #[.int .i64 n0, .int .i64 n1, .int .i64 n2, .int .i64 n3, .int .i64 n4, .int .i64 n5] 24) = w10 at *
          clear r0 r1 r2 r3 r4 r5 s0 s1 s2 s3 s4 s5 HB2
          generalize w9.heap.size = g7 at *
          have HPQ := Lib.hid (prun_same [p0, p1, p2, p3, p4, p5] [z0, z1, z2, z3, z4, z5] rfl rfl)
          replace H2 := Lib.hid (H2.out.keep (below_drawn w10))
          replace HL := Lib.hid (HL.out.keep (below_drawn w10))
          replace XQ := Lib.hid (XQ.out.keep (below_drawn w10) XQ.out.lt)
          replace X1 := Lib.hid (X1.out.keep (below_drawn w10) X1.out.lt)
          replace X2 := Lib.hid (X2.out.keep (below_drawn w10) X2.out.lt)
          by_cases hr0 : 0 < r
          · have hne := HNE.out hr0
            have hle := HLW3.out hr0
            have HQ := Lib.hid (show ∀ w, (Op.equalIn 10000 39 (.agg #[.int .i64 p0, .int .i64 p1, .int .i64 p2, .int .i64 p3, .int .i64 p4, .int .i64 p5]) (.agg #[.int .i64 z0, .int .i64 z1, .int .i64 z2, .int .i64 z3, .int .i64 z4, .int .i64 z5])).run Try.prog w = .ok false w from fun w => by have := HPQ.out w; rw [decide_eq_false hne] at this; exact this)
            have hd : decide (MB.at_ [n0, n1, n2, n3, n4, n5] i ≤ MB.at_ [m0, m1, m2, m3, m4, m5] i) = true := decide_eq_true hle
            clear hne hle HNE HLW3 HPQ HV2 hr0 hra
            refine wp_region_held_drew (S := fun w' => BB w' (w.heap.size + 1) 39 [p0, p1, p2, p3, p4, p5] ∧ BB w' gq 39 [z0, z1, z2, z3, z4, z5] ∧ BB w' g5 24 [m0, m1, m2, m3, m4, m5] ∧ BB w' g7 24 [n0, n1, n2, n3, n4, n5]) hmo ⟨H2.out.y, XQ.out, X1.out, X2.out⟩ (fun hHeld => ?_)
            generalize w10.drew = Y at *
            refine wpAnyH_take (i := 0) (oi := { dst := some 62, op := Op.load 39 (Operand.tmp 7), type := 39, pos := "law.go:80", after := #[], guard := none }) (v := ?_) rfl (by kernel_rfl) (by kernel_rfl) (by kernel_rfl) (fun _ _ _ h => h) (Or.inl ⟨by rfl, ?_⟩) (by assumption) ?_
            rotate_left
            · intro w hSw; (try dsimp only at hSw); obtain ⟨hP, hQ, hM, hN⟩ := hSw; obtain ⟨r0, r1, r2, r3, r4, r5⟩ := cells6 hP; obtain ⟨s0, s1, s2, s3, s4, s5⟩ := cells6 hQ; have hi6 : (i : Int) < 6 := (by omega); have cm := hM.cell hi; have cn := hN.cell hi; have hq := HQ.out w; go_simp; try with_reducible rfl
            (try simp only [Act.put, List.setIfInBounds_toArray, List.set_cons_zero, List.set_cons_succ])
            refine wpAnyH_take (i := 1) (oi := { dst := some 63, op := Op.load 39 (Operand.tmp 12), type := 39, pos := "law.go:80", after := #[], guard := none }) (v := ?_) rfl (by kernel_rfl) (by kernel_rfl) (by kernel_rfl) (fun _ _ _ h => h) (Or.inl ⟨by rfl, ?_⟩) (by assumption) ?_
            rotate_left
            · intro w hSw; (try dsimp only at hSw); obtain ⟨hP, hQ, hM, hN⟩ := hSw; obtain ⟨r0, r1, r2, r3, r4, r5⟩ := cells6 hP; obtain ⟨s0, s1, s2, s3, s4, s5⟩ := cells6 hQ; have hi6 : (i : Int) < 6 := (by omega); have cm := hM.cell hi; have cn := hN.cell hi; have hq := HQ.out w; go_simp; try with_reducible rfl
            (try simp only [Act.put, List.setIfInBounds_toArray, List.set_cons_zero, List.set_cons_succ])
            refine wpAnyH_take (i := 2) (oi := { dst := some 64, op := Op.binOp BinOp.eql 39 (Operand.tmp 62) (Operand.tmp 63) 39, type := 4, pos := "law.go:80", after := #[{ on := 0, ground := Ground.data }, { on := 1, ground := Ground.data }], guard := none }) (v := ?_) rfl (by kernel_rfl) (by kernel_rfl) (by kernel_rfl) (fun _ _ _ h => h) (Or.inl ⟨by rfl, ?_⟩) (by assumption) ?_
            rotate_left
            · intro w hSw; (try dsimp only at hSw); obtain ⟨hP, hQ, hM, hN⟩ := hSw; obtain ⟨r0, r1, r2, r3, r4, r5⟩ := cells6 hP; obtain ⟨s0, s1, s2, s3, s4, s5⟩ := cells6 hQ; have hi6 : (i : Int) < 6 := (by omega); have cm := hM.cell hi; have cn := hN.cell hi; have hq := HQ.out w; go_simp; try with_reducible rfl
            (try simp only [Act.put, List.setIfInBounds_toArray, List.set_cons_zero, List.set_cons_succ])
            refine wpAnyH_take (i := 3) (oi := { dst := some 65, op := Op.move (Operand.tmp 64), type := 4, pos := "law.go:80", after := #[{ on := 2, ground := Ground.data }], guard := none }) (v := ?_) rfl (by kernel_rfl) (by kernel_rfl) (by kernel_rfl) (fun _ _ _ h => h) (Or.inl ⟨by rfl, ?_⟩) (by assumption) ?_
            rotate_left
            · intro w hSw; (try dsimp only at hSw); obtain ⟨hP, hQ, hM, hN⟩ := hSw; obtain ⟨r0, r1, r2, r3, r4, r5⟩ := cells6 hP; obtain ⟨s0, s1, s2, s3, s4, s5⟩ := cells6 hQ; have hi6 : (i : Int) < 6 := (by omega); have cm := hM.cell hi; have cn := hN.cell hi; have hq := HQ.out w; go_simp; try with_reducible rfl
            (try simp only [Act.put, List.setIfInBounds_toArray, List.set_cons_zero, List.set_cons_succ])
            refine wpAnyH_take (i := 4) (oi := { dst := some 66, op := Op.move (Operand.tmp 11), type := 3, pos := "law.go:80", after := #[{ on := 3, ground := Ground.guard }], guard := some (3, false) }) (v := ?_) rfl (by kernel_rfl) (by kernel_rfl) (by kernel_rfl) (fun _ _ _ h => h) (Or.inl ⟨by rfl, ?_⟩) (by assumption) ?_
            rotate_left
            · intro w hSw; (try dsimp only at hSw); obtain ⟨hP, hQ, hM, hN⟩ := hSw; obtain ⟨r0, r1, r2, r3, r4, r5⟩ := cells6 hP; obtain ⟨s0, s1, s2, s3, s4, s5⟩ := cells6 hQ; have hi6 : (i : Int) < 6 := (by omega); have cm := hM.cell hi; have cn := hN.cell hi; have hq := HQ.out w; go_simp; try with_reducible rfl
            (try simp only [Act.put, List.setIfInBounds_toArray, List.set_cons_zero, List.set_cons_succ])
            refine wpAnyH_take (i := 5) (oi := { dst := some 67, op := Op.indexAddr 24 (Operand.tmp 15) (Operand.tmp 66), type := 0, pos := "law.go:80", after := #[{ on := 4, ground := Ground.data }, { on := 3, ground := Ground.guard }], guard := some (3, false) }) (v := ?_) rfl (by kernel_rfl) (by kernel_rfl) (by kernel_rfl) (fun _ _ _ h => h) (Or.inl ⟨by rfl, ?_⟩) (by assumption) ?_
            rotate_left
            · intro w hSw; (try dsimp only at hSw); obtain ⟨hP, hQ, hM, hN⟩ := hSw; obtain ⟨r0, r1, r2, r3, r4, r5⟩ := cells6 hP; obtain ⟨s0, s1, s2, s3, s4, s5⟩ := cells6 hQ; have hi6 : (i : Int) < 6 := (by omega); have cm := hM.cell hi; have cn := hN.cell hi; have hq := HQ.out w; go_simp; try with_reducible rfl
            (try simp only [Act.put, List.setIfInBounds_toArray, List.set_cons_zero, List.set_cons_succ])
            refine wpAnyH_take (i := 6) (oi := { dst := some 68, op := Op.load 3 (Operand.tmp 67), type := 3, pos := "law.go:80", after := #[{ on := 5, ground := Ground.data }, { on := 3, ground := Ground.guard }], guard := some (3, false) }) (v := ?_) rfl (by kernel_rfl) (by kernel_rfl) (by kernel_rfl) (fun _ _ _ h => h) (Or.inl ⟨by rfl, ?_⟩) (by assumption) ?_
            rotate_left
            · intro w hSw; (try dsimp only at hSw); obtain ⟨hP, hQ, hM, hN⟩ := hSw; obtain ⟨r0, r1, r2, r3, r4, r5⟩ := cells6 hP; obtain ⟨s0, s1, s2, s3, s4, s5⟩ := cells6 hQ; have hi6 : (i : Int) < 6 := (by omega); have cm := hM.cell hi; have cn := hN.cell hi; have hq := HQ.out w; go_simp; try with_reducible rfl
            (try simp only [Act.put, List.setIfInBounds_toArray, List.set_cons_zero, List.set_cons_succ])
            refine wpAnyH_take (i := 7) (oi := { dst := some 69, op := Op.move (Operand.tmp 11), type := 3, pos := "law.go:80", after := #[{ on := 3, ground := Ground.guard }], guard := some (3, false) }) (v := ?_) rfl (by kernel_rfl) (by kernel_rfl) (by kernel_rfl) (fun _ _ _ h => h) (Or.inl ⟨by rfl, ?_⟩) (by assumption) ?_
            rotate_left
            · intro w hSw; (try dsimp only at hSw); obtain ⟨hP, hQ, hM, hN⟩ := hSw; obtain ⟨r0, r1, r2, r3, r4, r5⟩ := cells6 hP; obtain ⟨s0, s1, s2, s3, s4, s5⟩ := cells6 hQ; have hi6 : (i : Int) < 6 := (by omega); have cm := hM.cell hi; have cn := hN.cell hi; have hq := HQ.out w; go_simp; try with_reducible rfl
            (try simp only [Act.put, List.setIfInBounds_toArray, List.set_cons_zero, List.set_cons_succ])
            refine wpAnyH_take (i := 8) (oi := { dst := some 70, op := Op.indexAddr 24 (Operand.tmp 13) (Operand.tmp 69), type := 0, pos := "law.go:80", after := #[{ on := 7, ground := Ground.data }, { on := 3, ground := Ground.guard }], guard := some (3, false) }) (v := ?_) rfl (by kernel_rfl) (by kernel_rfl) (by kernel_rfl) (fun _ _ _ h => h) (Or.inl ⟨by rfl, ?_⟩) (by assumption) ?_
            rotate_left
            · intro w hSw; (try dsimp only at hSw); obtain ⟨hP, hQ, hM, hN⟩ := hSw; obtain ⟨r0, r1, r2, r3, r4, r5⟩ := cells6 hP; obtain ⟨s0, s1, s2, s3, s4, s5⟩ := cells6 hQ; have hi6 : (i : Int) < 6 := (by omega); have cm := hM.cell hi; have cn := hN.cell hi; have hq := HQ.out w; go_simp; try with_reducible rfl
            (try simp only [Act.put, List.setIfInBounds_toArray, List.set_cons_zero, List.set_cons_succ])
            refine wpAnyH_take (i := 9) (oi := { dst := some 71, op := Op.load 3 (Operand.tmp 70), type := 3, pos := "law.go:80", after := #[{ on := 8, ground := Ground.data }, { on := 3, ground := Ground.guard }], guard := some (3, false) }) (v := ?_) rfl (by kernel_rfl) (by kernel_rfl) (by kernel_rfl) (fun _ _ _ h => h) (Or.inl ⟨by rfl, ?_⟩) (by assumption) ?_
            rotate_left
            · intro w hSw; (try dsimp only at hSw); obtain ⟨hP, hQ, hM, hN⟩ := hSw; obtain ⟨r0, r1, r2, r3, r4, r5⟩ := cells6 hP; obtain ⟨s0, s1, s2, s3, s4, s5⟩ := cells6 hQ; have hi6 : (i : Int) < 6 := (by omega); have cm := hM.cell hi; have cn := hN.cell hi; have hq := HQ.out w; go_simp; try with_reducible rfl
            (try simp only [Act.put, List.setIfInBounds_toArray, List.set_cons_zero, List.set_cons_succ])
            refine wpAnyH_take (i := 10) (oi := { dst := some 72, op := Op.binOp BinOp.leq 3 (Operand.tmp 68) (Operand.tmp 71) 3, type := 4, pos := "law.go:80", after := #[{ on := 6, ground := Ground.data }, { on := 9, ground := Ground.data }, { on := 3, ground := Ground.guard }], guard := some (3, false) }) (v := ?_) rfl (by kernel_rfl) (by kernel_rfl) (by kernel_rfl) (fun _ _ _ h => h) (Or.inl ⟨by rfl, ?_⟩) (by assumption) ?_
            rotate_left
            · intro w hSw; (try dsimp only at hSw); obtain ⟨hP, hQ, hM, hN⟩ := hSw; obtain ⟨r0, r1, r2, r3, r4, r5⟩ := cells6 hP; obtain ⟨s0, s1, s2, s3, s4, s5⟩ := cells6 hQ; have hi6 : (i : Int) < 6 := (by omega); have cm := hM.cell hi; have cn := hN.cell hi; have hq := HQ.out w; go_simp; try with_reducible rfl
            (try simp only [Act.put, List.setIfInBounds_toArray, List.set_cons_zero, List.set_cons_succ])
            refine wpAnyH_take (i := 11) (oi := { dst := some 73, op := Op.pick (Operand.tmp 65) (Operand.const (Value.bool true)) (Operand.tmp 72), type := 4, pos := "law.go:80", after := #[{ on := 3, ground := Ground.data }, { on := 10, ground := Ground.data }], guard := none }) (v := ?_) rfl (by kernel_rfl) (by kernel_rfl) (by kernel_rfl) (fun _ _ _ h => h) (Or.inl ⟨by rfl, ?_⟩) (by assumption) ?_
            rotate_left
            · intro w hSw; (try dsimp only at hSw); obtain ⟨hP, hQ, hM, hN⟩ := hSw; obtain ⟨r0, r1, r2, r3, r4, r5⟩ := cells6 hP; obtain ⟨s0, s1, s2, s3, s4, s5⟩ := cells6 hQ; have hi6 : (i : Int) < 6 := (by omega); have cm := hM.cell hi; have cn := hN.cell hi; have hq := HQ.out w; go_simp; try with_reducible rfl
            (try simp only [Act.put, List.setIfInBounds_toArray, List.set_cons_zero, List.set_cons_succ])
            refine wpAnyH_take (i := 12) (oi := { dst := some 74, op := Op.move (Operand.tmp 73), type := 4, pos := "law.go:80", after := #[{ on := 11, ground := Ground.data }, { on := 3, ground := Ground.chain }], guard := none }) (v := ?_) rfl (by kernel_rfl) (by kernel_rfl) (by kernel_rfl) (fun _ _ _ h => h) (Or.inl ⟨by rfl, ?_⟩) (by assumption) ?_
            rotate_left
            · intro w hSw; (try dsimp only at hSw); obtain ⟨hP, hQ, hM, hN⟩ := hSw; obtain ⟨r0, r1, r2, r3, r4, r5⟩ := cells6 hP; obtain ⟨s0, s1, s2, s3, s4, s5⟩ := cells6 hQ; have hi6 : (i : Int) < 6 := (by omega); have cm := hM.cell hi; have cn := hN.cell hi; have hq := HQ.out w; go_simp; try with_reducible rfl
            (try simp only [Act.put, List.setIfInBounds_toArray, List.set_cons_zero, List.set_cons_succ])
            refine wpAnyH_ready (rs := [13]) (by kernel_rfl) (by simp) ?_
            refine AllReadyH.cons (o := { dst := some 75, op := Op.call { callee := Callee.value (Operand.func 17), args := #[], argTypes := #[] }, type := 4, pos := "law.go:80", after := #[{ on := 12, ground := Ground.chain }, { on := 12, ground := Ground.guard }], guard := some (12, true) }) rfl (fun K hK => ?_) AllReadyH.nil
            go_simp
            refine (lives15_any Y).mono ?_
            rintro ev v1 ⟨rfl, nb⟩
            replace H2 := Lib.hid (H2.out.keep nb)
            replace HL := Lib.hid (HL.out.keep nb)
            replace XQ := Lib.hid (XQ.out.keep nb XQ.out.lt)
            replace X1 := Lib.hid (X1.out.keep nb X1.out.lt)
            replace X2 := Lib.hid (X2.out.keep nb X2.out.lt)
            clear nb
            refine hK.out _ _ ?_ (fun hHeld => ?_)
            · exact ⟨H2.out.y, XQ.out, X1.out, X2.out⟩
            clear hK K
            (try simp only [Act.put, List.setIfInBounds_toArray, List.set_cons_zero, List.set_cons_succ])
            refine wpAnyH_take (i := 14) (oi := { dst := some 76, op := Op.pick (Operand.tmp 74) (Operand.tmp 75) (Operand.const (Value.bool false)), type := 4, pos := "law.go:80", after := #[{ on := 12, ground := Ground.data }, { on := 13, ground := Ground.data }], guard := none }) (v := ?_) rfl (by kernel_rfl) (by kernel_rfl) (by kernel_rfl) (fun _ _ _ h => h) (Or.inl ⟨by rfl, ?_⟩) (by assumption) ?_
            rotate_left
            · intro w hSw; (try dsimp only at hSw); obtain ⟨hP, hQ, hM, hN⟩ := hSw; obtain ⟨r0, r1, r2, r3, r4, r5⟩ := cells6 hP; obtain ⟨s0, s1, s2, s3, s4, s5⟩ := cells6 hQ; have hi6 : (i : Int) < 6 := (by omega); have cm := hM.cell hi; have cn := hN.cell hi; have hq := HQ.out w; go_simp; try with_reducible rfl
            (try simp only [Act.put, List.setIfInBounds_toArray, List.set_cons_zero, List.set_cons_succ])
            refine wpAnyH_take (i := 15) (oi := { dst := some 10, op := Op.assign (Operand.tmp 76), type := 4, pos := "law.go:80", after := #[{ on := 14, ground := Ground.data }, { on := 13, ground := Ground.chain }, { on := 0, ground := Ground.phase }, { on := 1, ground := Ground.phase }, { on := 2, ground := Ground.phase }, { on := 3, ground := Ground.phase }, { on := 4, ground := Ground.phase }, { on := 5, ground := Ground.phase }, { on := 6, ground := Ground.phase }, { on := 7, ground := Ground.phase }, { on := 8, ground := Ground.phase }, { on := 9, ground := Ground.phase }, { on := 10, ground := Ground.phase }, { on := 11, ground := Ground.phase }, { on := 12, ground := Ground.phase }, { on := 13, ground := Ground.phase }, { on := 14, ground := Ground.phase }], guard := none }) (v := ?_) rfl (by kernel_rfl) (by kernel_rfl) (by kernel_rfl) (fun _ _ _ h => h) (Or.inl ⟨by rfl, ?_⟩) (by assumption) ?_
            rotate_left
            · intro w hSw; (try dsimp only at hSw); obtain ⟨hP, hQ, hM, hN⟩ := hSw; obtain ⟨r0, r1, r2, r3, r4, r5⟩ := cells6 hP; obtain ⟨s0, s1, s2, s3, s4, s5⟩ := cells6 hQ; have hi6 : (i : Int) < 6 := (by omega); have cm := hM.cell hi; have cn := hN.cell hi; have hq := HQ.out w; go_simp; try with_reducible rfl
            (try simp only [Act.put, List.setIfInBounds_toArray, List.set_cons_zero, List.set_cons_succ])
            refine wpAnyH_done (by kernel_rfl) ?_ _
            clear hHeld
            go_wp2
            go_ret
            exact ⟨rfl, H2.out.below⟩
          · have heq := HV2.out (by have := HRA.out; omega)
            have HQ := Lib.hid (show ∀ w, (Op.equalIn 10000 39 (.agg #[.int .i64 p0, .int .i64 p1, .int .i64 p2, .int .i64 p3, .int .i64 p4, .int .i64 p5]) (.agg #[.int .i64 z0, .int .i64 z1, .int .i64 z2, .int .i64 z3, .int .i64 z4, .int .i64 z5])).run Try.prog w = .ok true w from fun w => by have := HPQ.out w; rw [decide_eq_true heq.symm] at this; exact this)
            clear heq HNE HLW3 HPQ HV2 hr0 hra
            refine wp_region_held_drew (S := fun w' => BB w' (w.heap.size + 1) 39 [p0, p1, p2, p3, p4, p5] ∧ BB w' gq 39 [z0, z1, z2, z3, z4, z5] ∧ BB w' g5 24 [m0, m1, m2, m3, m4, m5] ∧ BB w' g7 24 [n0, n1, n2, n3, n4, n5]) hmo ⟨H2.out.y, XQ.out, X1.out, X2.out⟩ (fun hHeld => ?_)
            generalize w10.drew = Y at *
            refine wpAnyH_take (i := 0) (oi := { dst := some 62, op := Op.load 39 (Operand.tmp 7), type := 39, pos := "law.go:80", after := #[], guard := none }) (v := ?_) rfl (by kernel_rfl) (by kernel_rfl) (by kernel_rfl) (fun _ _ _ h => h) (Or.inl ⟨by rfl, ?_⟩) (by assumption) ?_
            rotate_left
            · intro w hSw; (try dsimp only at hSw); obtain ⟨hP, hQ, hM, hN⟩ := hSw; obtain ⟨r0, r1, r2, r3, r4, r5⟩ := cells6 hP; obtain ⟨s0, s1, s2, s3, s4, s5⟩ := cells6 hQ; have hi6 : (i : Int) < 6 := (by omega); have cm := hM.cell hi; have cn := hN.cell hi; have hq := HQ.out w; go_simp; try with_reducible rfl
            (try simp only [Act.put, List.setIfInBounds_toArray, List.set_cons_zero, List.set_cons_succ])
            refine wpAnyH_take (i := 1) (oi := { dst := some 63, op := Op.load 39 (Operand.tmp 12), type := 39, pos := "law.go:80", after := #[], guard := none }) (v := ?_) rfl (by kernel_rfl) (by kernel_rfl) (by kernel_rfl) (fun _ _ _ h => h) (Or.inl ⟨by rfl, ?_⟩) (by assumption) ?_
            rotate_left
            · intro w hSw; (try dsimp only at hSw); obtain ⟨hP, hQ, hM, hN⟩ := hSw; obtain ⟨r0, r1, r2, r3, r4, r5⟩ := cells6 hP; obtain ⟨s0, s1, s2, s3, s4, s5⟩ := cells6 hQ; have hi6 : (i : Int) < 6 := (by omega); have cm := hM.cell hi; have cn := hN.cell hi; have hq := HQ.out w; go_simp; try with_reducible rfl
            (try simp only [Act.put, List.setIfInBounds_toArray, List.set_cons_zero, List.set_cons_succ])
            refine wpAnyH_take (i := 2) (oi := { dst := some 64, op := Op.binOp BinOp.eql 39 (Operand.tmp 62) (Operand.tmp 63) 39, type := 4, pos := "law.go:80", after := #[{ on := 0, ground := Ground.data }, { on := 1, ground := Ground.data }], guard := none }) (v := ?_) rfl (by kernel_rfl) (by kernel_rfl) (by kernel_rfl) (fun _ _ _ h => h) (Or.inl ⟨by rfl, ?_⟩) (by assumption) ?_
            rotate_left
            · intro w hSw; (try dsimp only at hSw); obtain ⟨hP, hQ, hM, hN⟩ := hSw; obtain ⟨r0, r1, r2, r3, r4, r5⟩ := cells6 hP; obtain ⟨s0, s1, s2, s3, s4, s5⟩ := cells6 hQ; have hi6 : (i : Int) < 6 := (by omega); have cm := hM.cell hi; have cn := hN.cell hi; have hq := HQ.out w; go_simp; try with_reducible rfl
            (try simp only [Act.put, List.setIfInBounds_toArray, List.set_cons_zero, List.set_cons_succ])
            refine wpAnyH_take (i := 3) (oi := { dst := some 65, op := Op.move (Operand.tmp 64), type := 4, pos := "law.go:80", after := #[{ on := 2, ground := Ground.data }], guard := none }) (v := ?_) rfl (by kernel_rfl) (by kernel_rfl) (by kernel_rfl) (fun _ _ _ h => h) (Or.inl ⟨by rfl, ?_⟩) (by assumption) ?_
            rotate_left
            · intro w hSw; (try dsimp only at hSw); obtain ⟨hP, hQ, hM, hN⟩ := hSw; obtain ⟨r0, r1, r2, r3, r4, r5⟩ := cells6 hP; obtain ⟨s0, s1, s2, s3, s4, s5⟩ := cells6 hQ; have hi6 : (i : Int) < 6 := (by omega); have cm := hM.cell hi; have cn := hN.cell hi; have hq := HQ.out w; go_simp; try with_reducible rfl
            (try simp only [Act.put, List.setIfInBounds_toArray, List.set_cons_zero, List.set_cons_succ])
            refine wpAnyH_take (i := 4) (oi := { dst := some 66, op := Op.move (Operand.tmp 11), type := 3, pos := "law.go:80", after := #[{ on := 3, ground := Ground.guard }], guard := some (3, false) }) (v := undef) rfl (by kernel_rfl) (by kernel_rfl) (by kernel_rfl) (fun _ _ _ h => h) (Or.inr ⟨by rfl, rfl⟩) (by assumption) ?_
            (try simp only [Act.put, List.setIfInBounds_toArray, List.set_cons_zero, List.set_cons_succ])
            refine wpAnyH_take (i := 5) (oi := { dst := some 67, op := Op.indexAddr 24 (Operand.tmp 15) (Operand.tmp 66), type := 0, pos := "law.go:80", after := #[{ on := 4, ground := Ground.data }, { on := 3, ground := Ground.guard }], guard := some (3, false) }) (v := undef) rfl (by kernel_rfl) (by kernel_rfl) (by kernel_rfl) (fun _ _ _ h => h) (Or.inr ⟨by rfl, rfl⟩) (by assumption) ?_
            (try simp only [Act.put, List.setIfInBounds_toArray, List.set_cons_zero, List.set_cons_succ])
            refine wpAnyH_take (i := 6) (oi := { dst := some 68, op := Op.load 3 (Operand.tmp 67), type := 3, pos := "law.go:80", after := #[{ on := 5, ground := Ground.data }, { on := 3, ground := Ground.guard }], guard := some (3, false) }) (v := undef) rfl (by kernel_rfl) (by kernel_rfl) (by kernel_rfl) (fun _ _ _ h => h) (Or.inr ⟨by rfl, rfl⟩) (by assumption) ?_
            (try simp only [Act.put, List.setIfInBounds_toArray, List.set_cons_zero, List.set_cons_succ])
            refine wpAnyH_take (i := 7) (oi := { dst := some 69, op := Op.move (Operand.tmp 11), type := 3, pos := "law.go:80", after := #[{ on := 3, ground := Ground.guard }], guard := some (3, false) }) (v := undef) rfl (by kernel_rfl) (by kernel_rfl) (by kernel_rfl) (fun _ _ _ h => h) (Or.inr ⟨by rfl, rfl⟩) (by assumption) ?_
            (try simp only [Act.put, List.setIfInBounds_toArray, List.set_cons_zero, List.set_cons_succ])
            refine wpAnyH_take (i := 8) (oi := { dst := some 70, op := Op.indexAddr 24 (Operand.tmp 13) (Operand.tmp 69), type := 0, pos := "law.go:80", after := #[{ on := 7, ground := Ground.data }, { on := 3, ground := Ground.guard }], guard := some (3, false) }) (v := undef) rfl (by kernel_rfl) (by kernel_rfl) (by kernel_rfl) (fun _ _ _ h => h) (Or.inr ⟨by rfl, rfl⟩) (by assumption) ?_
            (try simp only [Act.put, List.setIfInBounds_toArray, List.set_cons_zero, List.set_cons_succ])
            refine wpAnyH_take (i := 9) (oi := { dst := some 71, op := Op.load 3 (Operand.tmp 70), type := 3, pos := "law.go:80", after := #[{ on := 8, ground := Ground.data }, { on := 3, ground := Ground.guard }], guard := some (3, false) }) (v := undef) rfl (by kernel_rfl) (by kernel_rfl) (by kernel_rfl) (fun _ _ _ h => h) (Or.inr ⟨by rfl, rfl⟩) (by assumption) ?_
            (try simp only [Act.put, List.setIfInBounds_toArray, List.set_cons_zero, List.set_cons_succ])
            refine wpAnyH_take (i := 10) (oi := { dst := some 72, op := Op.binOp BinOp.leq 3 (Operand.tmp 68) (Operand.tmp 71) 3, type := 4, pos := "law.go:80", after := #[{ on := 6, ground := Ground.data }, { on := 9, ground := Ground.data }, { on := 3, ground := Ground.guard }], guard := some (3, false) }) (v := undef) rfl (by kernel_rfl) (by kernel_rfl) (by kernel_rfl) (fun _ _ _ h => h) (Or.inr ⟨by rfl, rfl⟩) (by assumption) ?_
            (try simp only [Act.put, List.setIfInBounds_toArray, List.set_cons_zero, List.set_cons_succ])
            refine wpAnyH_take (i := 11) (oi := { dst := some 73, op := Op.pick (Operand.tmp 65) (Operand.const (Value.bool true)) (Operand.tmp 72), type := 4, pos := "law.go:80", after := #[{ on := 3, ground := Ground.data }, { on := 10, ground := Ground.data }], guard := none }) (v := ?_) rfl (by kernel_rfl) (by kernel_rfl) (by kernel_rfl) (fun _ _ _ h => h) (Or.inl ⟨by rfl, ?_⟩) (by assumption) ?_
            rotate_left
            · intro w hSw; (try dsimp only at hSw); obtain ⟨hP, hQ, hM, hN⟩ := hSw; obtain ⟨r0, r1, r2, r3, r4, r5⟩ := cells6 hP; obtain ⟨s0, s1, s2, s3, s4, s5⟩ := cells6 hQ; have hi6 : (i : Int) < 6 := (by omega); have cm := hM.cell hi; have cn := hN.cell hi; have hq := HQ.out w; go_simp; try with_reducible rfl
            (try simp only [Act.put, List.setIfInBounds_toArray, List.set_cons_zero, List.set_cons_succ])
            refine wpAnyH_take (i := 12) (oi := { dst := some 74, op := Op.move (Operand.tmp 73), type := 4, pos := "law.go:80", after := #[{ on := 11, ground := Ground.data }, { on := 3, ground := Ground.chain }], guard := none }) (v := ?_) rfl (by kernel_rfl) (by kernel_rfl) (by kernel_rfl) (fun _ _ _ h => h) (Or.inl ⟨by rfl, ?_⟩) (by assumption) ?_
            rotate_left
            · intro w hSw; (try dsimp only at hSw); obtain ⟨hP, hQ, hM, hN⟩ := hSw; obtain ⟨r0, r1, r2, r3, r4, r5⟩ := cells6 hP; obtain ⟨s0, s1, s2, s3, s4, s5⟩ := cells6 hQ; have hi6 : (i : Int) < 6 := (by omega); have cm := hM.cell hi; have cn := hN.cell hi; have hq := HQ.out w; go_simp; try with_reducible rfl
            (try simp only [Act.put, List.setIfInBounds_toArray, List.set_cons_zero, List.set_cons_succ])
            refine wpAnyH_ready (rs := [13]) (by kernel_rfl) (by simp) ?_
            refine AllReadyH.cons (o := { dst := some 75, op := Op.call { callee := Callee.value (Operand.func 17), args := #[], argTypes := #[] }, type := 4, pos := "law.go:80", after := #[{ on := 12, ground := Ground.chain }, { on := 12, ground := Ground.guard }], guard := some (12, true) }) rfl (fun K hK => ?_) AllReadyH.nil
            go_simp
            refine (lives15_any Y).mono ?_
            rintro ev v1 ⟨rfl, nb⟩
            replace H2 := Lib.hid (H2.out.keep nb)
            replace HL := Lib.hid (HL.out.keep nb)
            replace XQ := Lib.hid (XQ.out.keep nb XQ.out.lt)
            replace X1 := Lib.hid (X1.out.keep nb X1.out.lt)
            replace X2 := Lib.hid (X2.out.keep nb X2.out.lt)
            clear nb
            refine hK.out _ _ ?_ (fun hHeld => ?_)
            · exact ⟨H2.out.y, XQ.out, X1.out, X2.out⟩
            clear hK K
            (try simp only [Act.put, List.setIfInBounds_toArray, List.set_cons_zero, List.set_cons_succ])
            refine wpAnyH_take (i := 14) (oi := { dst := some 76, op := Op.pick (Operand.tmp 74) (Operand.tmp 75) (Operand.const (Value.bool false)), type := 4, pos := "law.go:80", after := #[{ on := 12, ground := Ground.data }, { on := 13, ground := Ground.data }], guard := none }) (v := ?_) rfl (by kernel_rfl) (by kernel_rfl) (by kernel_rfl) (fun _ _ _ h => h) (Or.inl ⟨by rfl, ?_⟩) (by assumption) ?_
            rotate_left
            · intro w hSw; (try dsimp only at hSw); obtain ⟨hP, hQ, hM, hN⟩ := hSw; obtain ⟨r0, r1, r2, r3, r4, r5⟩ := cells6 hP; obtain ⟨s0, s1, s2, s3, s4, s5⟩ := cells6 hQ; have hi6 : (i : Int) < 6 := (by omega); have cm := hM.cell hi; have cn := hN.cell hi; have hq := HQ.out w; go_simp; try with_reducible rfl
            (try simp only [Act.put, List.setIfInBounds_toArray, List.set_cons_zero, List.set_cons_succ])
            refine wpAnyH_take (i := 15) (oi := { dst := some 10, op := Op.assign (Operand.tmp 76), type := 4, pos := "law.go:80", after := #[{ on := 14, ground := Ground.data }, { on := 13, ground := Ground.chain }, { on := 0, ground := Ground.phase }, { on := 1, ground := Ground.phase }, { on := 2, ground := Ground.phase }, { on := 3, ground := Ground.phase }, { on := 4, ground := Ground.phase }, { on := 5, ground := Ground.phase }, { on := 6, ground := Ground.phase }, { on := 7, ground := Ground.phase }, { on := 8, ground := Ground.phase }, { on := 9, ground := Ground.phase }, { on := 10, ground := Ground.phase }, { on := 11, ground := Ground.phase }, { on := 12, ground := Ground.phase }, { on := 13, ground := Ground.phase }, { on := 14, ground := Ground.phase }], guard := none }) (v := ?_) rfl (by kernel_rfl) (by kernel_rfl) (by kernel_rfl) (fun _ _ _ h => h) (Or.inl ⟨by rfl, ?_⟩) (by assumption) ?_
            rotate_left
            · intro w hSw; (try dsimp only at hSw); obtain ⟨hP, hQ, hM, hN⟩ := hSw; obtain ⟨r0, r1, r2, r3, r4, r5⟩ := cells6 hP; obtain ⟨s0, s1, s2, s3, s4, s5⟩ := cells6 hQ; have hi6 : (i : Int) < 6 := (by omega); have cm := hM.cell hi; have cn := hN.cell hi; have hq := HQ.out w; go_simp; try with_reducible rfl
            (try simp only [Act.put, List.setIfInBounds_toArray, List.set_cons_zero, List.set_cons_succ])
            refine wpAnyH_done (by kernel_rfl) ?_ _
            clear hHeld
            go_wp2
            go_ret
            exact ⟨rfl, H2.out.below⟩
end Go.Proofs.Ytjjpfpgjpmedmaa
namespace Go.Proofs.Ytjjpfpgjpmedmaa
open Go.RowKit
attribute [local go_sem] Oper.semAt_some
theorem pitems9 (u v : Array Value) (xs ys : List Int) (hx : ∀ k, k < 6 → u[k]? = some (.int .i64 (MB.at_ xs k))) (hy : ∀ k, k < 6 → v[k]? = some (.int .i64 (MB.at_ ys k))) (w : World) :
    ∀ ks : List Nat, (∀ k ∈ ks, k < 6) → (Op.eqItems 9998 2 1 u v ks).run Try.prog w = .ok (ks.all fun k => MB.at_ xs k == MB.at_ ys k) w
  | [], _ => by simp [Op.eqItems]
  | k :: ks, h => by
    have ih := pitems9 u v xs ys hx hy w ks fun j hj => h j (List.mem_cons_of_mem _ hj)
    have e := run_equalIn_int (P := Try.prog) w 9997 2 .i64 .i64 (MB.at_ xs k) (MB.at_ ys k) Try.underlying2
    simp only [Op.eqItems, Sem.run_bind, ppart_int u k _ (hx k (h k List.mem_cons_self)), ppart_int v k _ (hy k (h k List.mem_cons_self)), e, Result.andThen_ok]
    by_cases hq : MB.at_ xs k = MB.at_ ys k
    · simp [hq, ih]
    · simp [hq]
set_option maxRecDepth 99990 in
theorem prun9 (xs ys : List Int) (hx : xs.length = 6) (hy : ys.length = 6) (w : World) :
    (Op.equalIn 9999 39 (.agg (cellsB xs)) (.agg (cellsB ys))).run Try.prog w = .ok (decide (xs = ys)) w := by
  obtain ⟨i, hi⟩ : ∃ i, Try.prog.info? 2 = some i := ⟨_, by rfl⟩
  have hc : Try.prog.cellsOf 2 = 1 := by kernel_rfl
  rw [run_equalIn_array w 9998 (cellsB xs) (cellsB ys) Try.underlying39 hi, hc,
    pitems9 _ _ xs ys (fun k hk => cellsB_at (by omega)) (fun k hk => cellsB_at (by omega)) w _ (fun k hk => by simpa using hk)]
  congr 1
  rw [Bool.eq_iff_iff]
  simp only [List.all_eq_true, List.mem_range, beq_iff_eq, decide_eq_true_eq]
  exact ⟨fun h => MB.ext6 hx hy h, fun h k _ => by rw [h]⟩
theorem bitems9 (u v : Array Value) (xs ys : List Int) (hx : ∀ k, k < 6 → u[k]? = some (.int .i64 (MB.at_ xs k))) (hy : ∀ k, k < 6 → v[k]? = some (.int .i64 (MB.at_ ys k))) (w : World) :
    ∀ ks : List Nat, (∀ k ∈ ks, k < 6) → (Op.eqItems 9998 3 1 u v ks).run Try.prog w = .ok (ks.all fun k => MB.at_ xs k == MB.at_ ys k) w
  | [], _ => by simp [Op.eqItems]
  | k :: ks, h => by
    have ih := bitems9 u v xs ys hx hy w ks fun j hj => h j (List.mem_cons_of_mem _ hj)
    have e := run_equalIn_int (P := Try.prog) w 9997 3 .i64 .i64 (MB.at_ xs k) (MB.at_ ys k) Try.underlying3
    simp only [Op.eqItems, Sem.run_bind, part_int u k _ (hx k (h k List.mem_cons_self)), part_int v k _ (hy k (h k List.mem_cons_self)), e, Result.andThen_ok]
    by_cases hq : MB.at_ xs k = MB.at_ ys k
    · simp [hq, ih]
    · simp [hq]
set_option maxRecDepth 99990 in
theorem brun9 (xs ys : List Int) (hx : xs.length = 6) (hy : ys.length = 6) (w : World) :
    (Op.equalIn 9999 24 (.agg (cellsB xs)) (.agg (cellsB ys))).run Try.prog w = .ok (decide (xs = ys)) w := by
  obtain ⟨i, hi⟩ : ∃ i, Try.prog.info? 3 = some i := ⟨_, by rfl⟩
  have hc : Try.prog.cellsOf 3 = 1 := by kernel_rfl
  rw [run_equalIn_array w 9998 (cellsB xs) (cellsB ys) Try.underlying24 hi, hc,
    bitems9 _ _ xs ys (fun k hk => cellsB_at (by omega)) (fun k hk => cellsB_at (by omega)) w _ (fun k hk => by simpa using hk)]
  congr 1
  rw [Bool.eq_iff_iff]
  simp only [List.all_eq_true, List.mem_range, beq_iff_eq, decide_eq_true_eq]
  exact ⟨fun h => MB.ext6 hx hy h, fun h k _ => by rw [h]⟩
theorem p9_same (x0 x1 x2 x3 x4 x5 : Int) (w : World) : (Op.equalIn 9999 39 (.agg #[.int .i64 x0, .int .i64 x1, .int .i64 x2, .int .i64 x3, .int .i64 x4, .int .i64 x5]) (.agg #[.int .i64 x0, .int .i64 x1, .int .i64 x2, .int .i64 x3, .int .i64 x4, .int .i64 x5])).run Try.prog w = .ok true w := by
  have h := prun9 [x0, x1, x2, x3, x4, x5] [x0, x1, x2, x3, x4, x5] rfl rfl w
  rw [decide_eq_true rfl] at h
  exact h
theorem b9_same (x0 x1 x2 x3 x4 x5 : Int) (w : World) : (Op.equalIn 9999 24 (.agg #[.int .i64 x0, .int .i64 x1, .int .i64 x2, .int .i64 x3, .int .i64 x4, .int .i64 x5]) (.agg #[.int .i64 x0, .int .i64 x1, .int .i64 x2, .int .i64 x3, .int .i64 x4, .int .i64 x5])).run Try.prog w = .ok true w := by
  have h := brun9 [x0, x1, x2, x3, x4, x5] [x0, x1, x2, x3, x4, x5] rfl rfl w
  rw [decide_eq_true rfl] at h
  exact h
theorem c12_cells {w : World} {ad : Addr} {n c k : Nat} {l : List C12} (h : Lst c12E w (some ad) n c l) (hk : k < n) {p : C12} (hp : l[k]? = some p) :
    w.cell? (ad.add (k * 12)) = some (.int .i64 p.p0) ∧ w.cell? (⟨(ad.add (k * 12)).block, (ad.add (k * 12)).off + 1, none⟩) = some (.int .i64 p.p1) ∧ w.cell? (⟨(ad.add (k * 12)).block, (ad.add (k * 12)).off + 2, none⟩) = some (.int .i64 p.p2) ∧ w.cell? (⟨(ad.add (k * 12)).block, (ad.add (k * 12)).off + 3, none⟩) = some (.int .i64 p.p3) ∧ w.cell? (⟨(ad.add (k * 12)).block, (ad.add (k * 12)).off + 4, none⟩) = some (.int .i64 p.p4) ∧ w.cell? (⟨(ad.add (k * 12)).block, (ad.add (k * 12)).off + 5, none⟩) = some (.int .i64 p.p5) ∧ w.cell? (⟨(ad.add (k * 12)).block, (ad.add (k * 12)).off + 6, none⟩) = some (.int .i64 p.b0) ∧ w.cell? (⟨(ad.add (k * 12)).block, (ad.add (k * 12)).off + 7, none⟩) = some (.int .i64 p.b1) ∧ w.cell? (⟨(ad.add (k * 12)).block, (ad.add (k * 12)).off + 8, none⟩) = some (.int .i64 p.b2) ∧ w.cell? (⟨(ad.add (k * 12)).block, (ad.add (k * 12)).off + 9, none⟩) = some (.int .i64 p.b3) ∧ w.cell? (⟨(ad.add (k * 12)).block, (ad.add (k * 12)).off + 10, none⟩) = some (.int .i64 p.b4) ∧ w.cell? (⟨(ad.add (k * 12)).block, (ad.add (k * 12)).off + 11, none⟩) = some (.int .i64 p.b5) := by
  obtain ⟨ad', p', e, hp', _, _, h0⟩ := c12_at h hk
  injection e with e
  rw [hp] at hp'
  injection hp' with hp'
  subst e hp'
  exact h0
set_option maxRecDepth 100000 in
set_option maxHeartbeats 8000000 in
theorem demandsetPath_walk (A : Option Addr) (n c : Nat) (l : List MF.Of) (q0 q1 q2 q3 q4 q5 : Int) (A2 : Option Addr) (n2' c2' : Nat) (ps : List (List Int)) (w : World) (hl : LstIn ofE w A n c l) (hps : LstIn prE w A2 n2' c2' ps) : Calls Try.prog 8 #[.slice A n c, .agg #[.int .i64 q0, .int .i64 q1, .int .i64 q2, .int .i64 q3, .int .i64 q4, .int .i64 q5], .slice A2 n2' c2'] w (Gives (.bool true) w) := by
  have nb0 := below_new w (.cells #[.int .i64 q0, .int .i64 q1, .int .i64 q2, .int .i64 q3, .int .i64 q4, .int .i64 q5] 24)
  have HB := Lib.hid nb0
  have HS := Lib.hid (BB.new w 24 q0 q1 q2 q3 q4 q5)
  have HL0 := Lib.hid hl.lst
  have HP0 := Lib.hid hps.lst
  have hfp := hps.lst.few
  have hmo : Try.prog.follows .mixedOrders = true := by kernel_rfl
  have HCn := Lib.hid (fun w' => rcount_any q0 q1 q2 q3 q4 q5 w')
  clear hl hps nb0
  generalize cntB [q0, q1, q2, q3, q4, q5] = cn at *
  go_enter Try.func8, Try.ntmps8
  go_upto_region 1 with (fail)
  generalize w.alloc (.cells #[.int .i64 q0, .int .i64 q1, .int .i64 q2, .int .i64 q3, .int .i64 q4, .int .i64 q5] 24) = w1 at *
  by_cases h3 : 40 < n
  · have d3 : decide ((40 : Int) < n) = true := decide_eq_true (by omega)
    go_wp2_with fail
    refine (lives15_any _).mono ?_
    rintro ev w2 ⟨rfl, nb⟩
    have B2 := Lib.hid (HB.out.trans (nb.mono HB.out.size))
    clear nb HB HS
    go_wp2
    go_ret
    exact ⟨rfl, B2.out⟩
  · have d3 : decide ((40 : Int) < n) = false := decide_eq_false (by omega)
    by_cases h4 : 8 < n2'
    · have d4 : decide ((8 : Int) < n2') = true := decide_eq_true (by omega)
      go_wp2_with fail
      refine (lives15_any _).mono ?_
      rintro ev w2 ⟨rfl, nb⟩
      have B2 := Lib.hid (HB.out.trans (nb.mono HB.out.size))
      clear nb HB HS
      go_wp2
      go_ret
      exact ⟨rfl, B2.out⟩
    · have d4 : decide ((8 : Int) < n2') = false := decide_eq_false (by omega)
      obtain ⟨r0, r1, r2, r3, r4, r5⟩ := cells6 HS.out
      go_wp2_with fail
      refine (HCn.out _).mono ?_
      rintro ev w2 ⟨rfl, nb⟩
      replace HS := Lib.hid (HS.out.keep nb HS.out.lt)
      replace HB := Lib.hid (HB.out.trans (nb.mono HB.out.size))
      clear nb r0 r1 r2 r3 r4 r5 d3 d4
      by_cases h5 : 100 < cn
      · have d5 : decide (100 < cn) = true := decide_eq_true h5
        go_wp2_with fail
        refine (lives15_any _).mono ?_
        rintro ev w3 ⟨rfl, nb⟩
        have B2 := Lib.hid (HB.out.trans (nb.mono HB.out.size))
        clear nb HB HS
        go_wp2
        go_ret
        exact ⟨rfl, B2.out⟩
      · have d5 : decide (100 < cn) = false := decide_eq_false h5
        have HP1 := Lib.hid (fun X (h : Below w.heap.size w X) => path_any A n c l (by omega) q0 q1 q2 q3 q4 q5 A2 n2' c2' ps (by omega) X (HL0.out.keep h) (HP0.out.keep h))
        have HP2 := Lib.hid (fun X (h : Below w.heap.size w X) => rpath_any A n c l (by omega) q0 q1 q2 q3 q4 q5 A2 n2' c2' ps (by omega) X (HL0.out.keep h) (HP0.out.keep h))
        generalize pathE l [q0, q1, q2, q3, q4, q5] ps = D at *
        clear h3 h4 h5 HCn
        go_upto_region 3 with (fail)
        replace HS := Lib.hid (HS.out.keep (below_drawn w2) HS.out.lt)
        replace HB := Lib.hid (HB.out.trans ((below_drawn w2).mono HB.out.size))
        refine wp_region_held_drew (S := fun w' => BB w' w.heap.size 24 [q0, q1, q2, q3, q4, q5]) hmo HS.out (fun hHeld => ?_)
        generalize w2.drew = Y at *
        refine wpAnyH_take (i := 0) (oi := { dst := some 24, op := Op.move (Operand.tmp 0), type := 22, pos := "law.go:88", after := #[], guard := none }) (v := ?_) rfl (by kernel_rfl) (by kernel_rfl) (by kernel_rfl) (fun _ _ _ h => h) (Or.inl ⟨by rfl, ?_⟩) (by assumption) ?_
        rotate_left
        · intro w hSw; (try dsimp only at hSw); obtain ⟨r0, r1, r2, r3, r4, r5⟩ := cells6 hSw; go_simp; try with_reducible rfl
        (try simp only [Act.put, List.setIfInBounds_toArray, List.set_cons_zero, List.set_cons_succ])
        refine wpAnyH_take (i := 1) (oi := { dst := some 25, op := Op.load 24 (Operand.tmp 4), type := 24, pos := "law.go:88", after := #[], guard := none }) (v := ?_) rfl (by kernel_rfl) (by kernel_rfl) (by kernel_rfl) (fun _ _ _ h => h) (Or.inl ⟨by rfl, ?_⟩) (by assumption) ?_
        rotate_left
        · intro w hSw; (try dsimp only at hSw); obtain ⟨r0, r1, r2, r3, r4, r5⟩ := cells6 hSw; go_simp; try with_reducible rfl
        (try simp only [Act.put, List.setIfInBounds_toArray, List.set_cons_zero, List.set_cons_succ])
        refine wpAnyH_take (i := 2) (oi := { dst := some 26, op := Op.move (Operand.tmp 2), type := 53, pos := "law.go:88", after := #[], guard := none }) (v := ?_) rfl (by kernel_rfl) (by kernel_rfl) (by kernel_rfl) (fun _ _ _ h => h) (Or.inl ⟨by rfl, ?_⟩) (by assumption) ?_
        rotate_left
        · intro w hSw; (try dsimp only at hSw); obtain ⟨r0, r1, r2, r3, r4, r5⟩ := cells6 hSw; go_simp; try with_reducible rfl
        (try simp only [Act.put, List.setIfInBounds_toArray, List.set_cons_zero, List.set_cons_succ])
        refine wpAnyH_take (i := 4) (oi := { dst := some 28, op := Op.move (Operand.tmp 0), type := 22, pos := "law.go:88", after := #[], guard := none }) (v := ?_) rfl (by kernel_rfl) (by kernel_rfl) (by kernel_rfl) (fun _ _ _ h => h) (Or.inl ⟨by rfl, ?_⟩) (by assumption) ?_
        rotate_left
        · intro w hSw; (try dsimp only at hSw); obtain ⟨r0, r1, r2, r3, r4, r5⟩ := cells6 hSw; go_simp; try with_reducible rfl
        (try simp only [Act.put, List.setIfInBounds_toArray, List.set_cons_zero, List.set_cons_succ])
        refine wpAnyH_take (i := 5) (oi := { dst := some 29, op := Op.load 24 (Operand.tmp 4), type := 24, pos := "law.go:88", after := #[], guard := none }) (v := ?_) rfl (by kernel_rfl) (by kernel_rfl) (by kernel_rfl) (fun _ _ _ h => h) (Or.inl ⟨by rfl, ?_⟩) (by assumption) ?_
        rotate_left
        · intro w hSw; (try dsimp only at hSw); obtain ⟨r0, r1, r2, r3, r4, r5⟩ := cells6 hSw; go_simp; try with_reducible rfl
        (try simp only [Act.put, List.setIfInBounds_toArray, List.set_cons_zero, List.set_cons_succ])
        refine wpAnyH_take (i := 6) (oi := { dst := some 30, op := Op.move (Operand.tmp 2), type := 53, pos := "law.go:88", after := #[], guard := none }) (v := ?_) rfl (by kernel_rfl) (by kernel_rfl) (by kernel_rfl) (fun _ _ _ h => h) (Or.inl ⟨by rfl, ?_⟩) (by assumption) ?_
        rotate_left
        · intro w hSw; (try dsimp only at hSw); obtain ⟨r0, r1, r2, r3, r4, r5⟩ := cells6 hSw; go_simp; try with_reducible rfl
        (try simp only [Act.put, List.setIfInBounds_toArray, List.set_cons_zero, List.set_cons_succ])
        refine wpAnyH_ready (rs := [3]) (by kernel_rfl) (by simp) ?_
        refine AllReadyH.cons (o := { dst := some 27, op := Op.call { callee := Callee.value (Operand.func 28), args := #[Operand.tmp 24, Operand.tmp 25, Operand.tmp 26], argTypes := #[22, 24, 53] }, type := 54, pos := "law.go:88", after := #[{ on := 0, ground := Ground.data }, { on := 1, ground := Ground.data }, { on := 2, ground := Ground.data }], guard := none }) rfl (fun K hK => ?_) AllReadyH.nil
        go_simp
        refine (HP1.out Y HB.out).mono ?_
        rintro ev v1 ⟨A1, n1, c1, rfl, hd1, nb⟩
        replace HS := Lib.hid (HS.out.keep nb HS.out.lt)
        replace HB := Lib.hid (HB.out.trans (nb.mono HB.out.size))
        have D1 := Lib.hid hd1
        clear nb hd1
        refine hK.out _ _ ?_ (fun hHeld => ?_)
        · exact HS.out
        clear hK K
        (try simp only [Act.put, List.setIfInBounds_toArray, List.set_cons_zero, List.set_cons_succ])
        refine wpAnyH_ready (rs := [7]) (by kernel_rfl) (by simp) ?_
        refine AllReadyH.cons (o := { dst := some 31, op := Op.call { callee := Callee.value (Operand.func 29), args := #[Operand.tmp 28, Operand.tmp 29, Operand.tmp 30], argTypes := #[22, 24, 53] }, type := 54, pos := "law.go:88", after := #[{ on := 4, ground := Ground.data }, { on := 5, ground := Ground.data }, { on := 6, ground := Ground.data }, { on := 3, ground := Ground.chain }], guard := none }) rfl (fun K hK => ?_) AllReadyH.nil
        go_simp
        refine (HP2.out v1 HB.out).mono ?_
        rintro ev v2 ⟨A2, n2, c2, rfl, hd2, nb⟩
        replace HS := Lib.hid (HS.out.keep nb HS.out.lt)
        replace HB := Lib.hid (HB.out.trans (nb.mono HB.out.size))
        replace D1 := Lib.hid (D1.out.keep nb)
        have D2 := Lib.hid hd2
        clear nb hd2
        refine hK.out _ _ ?_ (fun hHeld => ?_)
        · exact HS.out
        clear hK K
        (try simp only [Act.put, List.setIfInBounds_toArray, List.set_cons_zero, List.set_cons_succ])
        refine wpAnyH_take (i := 8) (oi := { dst := some 7, op := Op.assign (Operand.tmp 27), type := 54, pos := "law.go:88", after := #[{ on := 3, ground := Ground.data }, { on := 7, ground := Ground.chain }, { on := 0, ground := Ground.phase }, { on := 1, ground := Ground.phase }, { on := 2, ground := Ground.phase }, { on := 3, ground := Ground.phase }, { on := 4, ground := Ground.textOnly Departure.lateStores }, { on := 5, ground := Ground.textOnly Departure.lateStores }, { on := 6, ground := Ground.textOnly Departure.lateStores }, { on := 7, ground := Ground.textOnly Departure.lateStoresUnsure }], guard := none }) (v := ?_) rfl (by kernel_rfl) (by kernel_rfl) (by kernel_rfl) (fun _ _ _ h => h) (Or.inl ⟨by rfl, ?_⟩) (by assumption) ?_
        rotate_left
        · intro w hSw; (try dsimp only at hSw); obtain ⟨r0, r1, r2, r3, r4, r5⟩ := cells6 hSw; go_simp; try with_reducible rfl
        (try simp only [Act.put, List.setIfInBounds_toArray, List.set_cons_zero, List.set_cons_succ])
        refine wpAnyH_take (i := 9) (oi := { dst := some 8, op := Op.assign (Operand.tmp 31), type := 54, pos := "law.go:88", after := #[{ on := 7, ground := Ground.data }, { on := 8, ground := Ground.chain }, { on := 0, ground := Ground.phase }, { on := 1, ground := Ground.phase }, { on := 2, ground := Ground.phase }, { on := 3, ground := Ground.phase }, { on := 4, ground := Ground.phase }, { on := 5, ground := Ground.phase }, { on := 6, ground := Ground.phase }, { on := 7, ground := Ground.phase }, { on := 8, ground := Ground.phase }], guard := none }) (v := ?_) rfl (by kernel_rfl) (by kernel_rfl) (by kernel_rfl) (fun _ _ _ h => h) (Or.inl ⟨by rfl, ?_⟩) (by assumption) ?_
        rotate_left
        · intro w hSw; (try dsimp only at hSw); obtain ⟨r0, r1, r2, r3, r4, r5⟩ := cells6 hSw; go_simp; try with_reducible rfl
        (try simp only [Act.put, List.setIfInBounds_toArray, List.set_cons_zero, List.set_cons_succ])
        refine wpAnyH_done (by kernel_rfl) ?_ _
        clear hHeld
        obtain ⟨W, hW⟩ : ∃ W, W = v2 := ⟨_, rfl⟩
        rw [← hW] at HS HB D1 D2 ⊢
        clear hW
        have HN1 := Lib.hid D1.out.len
        obtain rfl : n1 = n2 := HN1.out.symm.trans D2.out.len
        have hf1 := D1.out.few
        go_wp2_with fail
        go_loopw [9] (fun i wr => ∃ k : Nat, k ≤ n1 ∧ i = .int .i64 k ∧ Below W.heap.size W wr) (fun i _ => n1 - (intOf i).toNat)
        case atStart => exact ⟨0, Nat.zero_le _, rfl, Below.refl _ _⟩
        case round =>
          obtain ⟨k, hk, rfl, hbw⟩ := hrel
          have B8 := Lib.hid hbw
          clear hbw
          by_cases hlt : k < n1
          · obtain ⟨ad1, z, rfl, hx1, _⟩ := c12_at D1.out hlt
            obtain ⟨ad2, _, rfl, _⟩ := c12_at D2.out hlt
            obtain ⟨x0, x1, x2, x3, x4, x5, y0, y1, y2, y3, y4, y5⟩ := z
            have HX := Lib.hid hx1
            have HQ := Lib.hid (p9_same x0 x1 x2 x3 x4 x5)
            have HQ2 := Lib.hid (b9_same y0 y1 y2 y3 y4 y5)
            clear hx1
            go_upto_region 9 with (fail)
            have B9 := Lib.hid (B8.out.trans ((below_drawn wr).mono B8.out.size))
            clear B8
            refine wp_region_held_drew (S := fun w' => Lst c12E w' (some ad1) n1 c1 D ∧ Lst c12E w' (some ad2) n1 c2 D) hmo ⟨D1.out.keep B9.out, D2.out.keep B9.out⟩ (fun hHeld => ?_)
            generalize wr.drew = Y2 at *
            refine wpAnyH_take (i := 0) (oi := { dst := some 43, op := Op.move (Operand.tmp 7), type := 54, pos := "law.go:93", after := #[], guard := none }) (v := ?_) rfl (by kernel_rfl) (by kernel_rfl) (by kernel_rfl) (fun _ _ _ h => h) (Or.inl ⟨by rfl, ?_⟩) (by assumption) ?_
            rotate_left
            · intro w hSw; (try dsimp only at hSw); obtain ⟨hR1, hR2⟩ := hSw; obtain ⟨e0, e1, e2, e3, e4, e5, e6, e7, e8, e9, e10, e11⟩ := c12_cells hR1 hlt HX.out; obtain ⟨g0, g1, g2, g3, g4, g5, g6, g7, g8, g9, g10, g11⟩ := c12_cells hR2 hlt HX.out; dsimp only at e0 g0 e1 g1 e2 g2 e3 g3 e4 g4 e5 g5 e6 g6 e7 g7 e8 g8 e9 g9 e10 g10 e11 g11; have hq := HQ.out w; have hq2 := HQ2.out w; go_simp; try with_reducible rfl
            (try simp only [Act.put, List.setIfInBounds_toArray, List.set_cons_zero, List.set_cons_succ])
            refine wpAnyH_take (i := 1) (oi := { dst := some 44, op := Op.move (Operand.tmp 9), type := 3, pos := "law.go:93", after := #[], guard := none }) (v := ?_) rfl (by kernel_rfl) (by kernel_rfl) (by kernel_rfl) (fun _ _ _ h => h) (Or.inl ⟨by rfl, ?_⟩) (by assumption) ?_
            rotate_left
            · intro w hSw; (try dsimp only at hSw); obtain ⟨hR1, hR2⟩ := hSw; obtain ⟨e0, e1, e2, e3, e4, e5, e6, e7, e8, e9, e10, e11⟩ := c12_cells hR1 hlt HX.out; obtain ⟨g0, g1, g2, g3, g4, g5, g6, g7, g8, g9, g10, g11⟩ := c12_cells hR2 hlt HX.out; dsimp only at e0 g0 e1 g1 e2 g2 e3 g3 e4 g4 e5 g5 e6 g6 e7 g7 e8 g8 e9 g9 e10 g10 e11 g11; have hq := HQ.out w; have hq2 := HQ2.out w; go_simp; try with_reducible rfl
            (try simp only [Act.put, List.setIfInBounds_toArray, List.set_cons_zero, List.set_cons_succ])
            refine wpAnyH_take (i := 2) (oi := { dst := some 45, op := Op.indexAddr 54 (Operand.tmp 43) (Operand.tmp 44), type := 0, pos := "law.go:93", after := #[{ on := 0, ground := Ground.data }, { on := 1, ground := Ground.data }], guard := none }) (v := ?_) rfl (by kernel_rfl) (by kernel_rfl) (by kernel_rfl) (fun _ _ _ h => h) (Or.inl ⟨by rfl, ?_⟩) (by assumption) ?_
            rotate_left
            · intro w hSw; (try dsimp only at hSw); obtain ⟨hR1, hR2⟩ := hSw; obtain ⟨e0, e1, e2, e3, e4, e5, e6, e7, e8, e9, e10, e11⟩ := c12_cells hR1 hlt HX.out; obtain ⟨g0, g1, g2, g3, g4, g5, g6, g7, g8, g9, g10, g11⟩ := c12_cells hR2 hlt HX.out; dsimp only at e0 g0 e1 g1 e2 g2 e3 g3 e4 g4 e5 g5 e6 g6 e7 g7 e8 g8 e9 g9 e10 g10 e11 g11; have hq := HQ.out w; have hq2 := HQ2.out w; go_simp; try with_reducible rfl
            (try simp only [Act.put, List.setIfInBounds_toArray, List.set_cons_zero, List.set_cons_succ])
            refine wpAnyH_take (i := 3) (oi := { dst := some 46, op := Op.load 57 (Operand.tmp 45), type := 57, pos := "law.go:93", after := #[{ on := 2, ground := Ground.data }], guard := none }) (v := ?_) rfl (by kernel_rfl) (by kernel_rfl) (by kernel_rfl) (fun _ _ _ h => h) (Or.inl ⟨by rfl, ?_⟩) (by assumption) ?_
            rotate_left
            · intro w hSw; (try dsimp only at hSw); obtain ⟨hR1, hR2⟩ := hSw; obtain ⟨e0, e1, e2, e3, e4, e5, e6, e7, e8, e9, e10, e11⟩ := c12_cells hR1 hlt HX.out; obtain ⟨g0, g1, g2, g3, g4, g5, g6, g7, g8, g9, g10, g11⟩ := c12_cells hR2 hlt HX.out; dsimp only at e0 g0 e1 g1 e2 g2 e3 g3 e4 g4 e5 g5 e6 g6 e7 g7 e8 g8 e9 g9 e10 g10 e11 g11; have hq := HQ.out w; have hq2 := HQ2.out w; go_simp; try with_reducible rfl
            (try simp only [Act.put, List.setIfInBounds_toArray, List.set_cons_zero, List.set_cons_succ])
            refine wpAnyH_take (i := 4) (oi := { dst := some 47, op := Op.move (Operand.tmp 8), type := 54, pos := "law.go:93", after := #[], guard := none }) (v := ?_) rfl (by kernel_rfl) (by kernel_rfl) (by kernel_rfl) (fun _ _ _ h => h) (Or.inl ⟨by rfl, ?_⟩) (by assumption) ?_
            rotate_left
            · intro w hSw; (try dsimp only at hSw); obtain ⟨hR1, hR2⟩ := hSw; obtain ⟨e0, e1, e2, e3, e4, e5, e6, e7, e8, e9, e10, e11⟩ := c12_cells hR1 hlt HX.out; obtain ⟨g0, g1, g2, g3, g4, g5, g6, g7, g8, g9, g10, g11⟩ := c12_cells hR2 hlt HX.out; dsimp only at e0 g0 e1 g1 e2 g2 e3 g3 e4 g4 e5 g5 e6 g6 e7 g7 e8 g8 e9 g9 e10 g10 e11 g11; have hq := HQ.out w; have hq2 := HQ2.out w; go_simp; try with_reducible rfl
            (try simp only [Act.put, List.setIfInBounds_toArray, List.set_cons_zero, List.set_cons_succ])
            refine wpAnyH_take (i := 5) (oi := { dst := some 48, op := Op.move (Operand.tmp 9), type := 3, pos := "law.go:93", after := #[], guard := none }) (v := ?_) rfl (by kernel_rfl) (by kernel_rfl) (by kernel_rfl) (fun _ _ _ h => h) (Or.inl ⟨by rfl, ?_⟩) (by assumption) ?_
            rotate_left
            · intro w hSw; (try dsimp only at hSw); obtain ⟨hR1, hR2⟩ := hSw; obtain ⟨e0, e1, e2, e3, e4, e5, e6, e7, e8, e9, e10, e11⟩ := c12_cells hR1 hlt HX.out; obtain ⟨g0, g1, g2, g3, g4, g5, g6, g7, g8, g9, g10, g11⟩ := c12_cells hR2 hlt HX.out; dsimp only at e0 g0 e1 g1 e2 g2 e3 g3 e4 g4 e5 g5 e6 g6 e7 g7 e8 g8 e9 g9 e10 g10 e11 g11; have hq := HQ.out w; have hq2 := HQ2.out w; go_simp; try with_reducible rfl
            (try simp only [Act.put, List.setIfInBounds_toArray, List.set_cons_zero, List.set_cons_succ])
            refine wpAnyH_take (i := 6) (oi := { dst := some 49, op := Op.indexAddr 54 (Operand.tmp 47) (Operand.tmp 48), type := 0, pos := "law.go:93", after := #[{ on := 4, ground := Ground.data }, { on := 5, ground := Ground.data }], guard := none }) (v := ?_) rfl (by kernel_rfl) (by kernel_rfl) (by kernel_rfl) (fun _ _ _ h => h) (Or.inl ⟨by rfl, ?_⟩) (by assumption) ?_
            rotate_left
            · intro w hSw; (try dsimp only at hSw); obtain ⟨hR1, hR2⟩ := hSw; obtain ⟨e0, e1, e2, e3, e4, e5, e6, e7, e8, e9, e10, e11⟩ := c12_cells hR1 hlt HX.out; obtain ⟨g0, g1, g2, g3, g4, g5, g6, g7, g8, g9, g10, g11⟩ := c12_cells hR2 hlt HX.out; dsimp only at e0 g0 e1 g1 e2 g2 e3 g3 e4 g4 e5 g5 e6 g6 e7 g7 e8 g8 e9 g9 e10 g10 e11 g11; have hq := HQ.out w; have hq2 := HQ2.out w; go_simp; try with_reducible rfl
            (try simp only [Act.put, List.setIfInBounds_toArray, List.set_cons_zero, List.set_cons_succ])
            refine wpAnyH_take (i := 7) (oi := { dst := some 50, op := Op.load 57 (Operand.tmp 49), type := 57, pos := "law.go:93", after := #[{ on := 6, ground := Ground.data }], guard := none }) (v := ?_) rfl (by kernel_rfl) (by kernel_rfl) (by kernel_rfl) (fun _ _ _ h => h) (Or.inl ⟨by rfl, ?_⟩) (by assumption) ?_
            rotate_left
            · intro w hSw; (try dsimp only at hSw); obtain ⟨hR1, hR2⟩ := hSw; obtain ⟨e0, e1, e2, e3, e4, e5, e6, e7, e8, e9, e10, e11⟩ := c12_cells hR1 hlt HX.out; obtain ⟨g0, g1, g2, g3, g4, g5, g6, g7, g8, g9, g10, g11⟩ := c12_cells hR2 hlt HX.out; dsimp only at e0 g0 e1 g1 e2 g2 e3 g3 e4 g4 e5 g5 e6 g6 e7 g7 e8 g8 e9 g9 e10 g10 e11 g11; have hq := HQ.out w; have hq2 := HQ2.out w; go_simp; try with_reducible rfl
            (try simp only [Act.put, List.setIfInBounds_toArray, List.set_cons_zero, List.set_cons_succ])
            refine wpAnyH_take (i := 8) (oi := { dst := some 51, op := Op.binOp BinOp.neq 57 (Operand.tmp 46) (Operand.tmp 50) 57, type := 4, pos := "law.go:93", after := #[{ on := 3, ground := Ground.data }, { on := 7, ground := Ground.data }], guard := none }) (v := ?_) rfl (by kernel_rfl) (by kernel_rfl) (by kernel_rfl) (fun _ _ _ h => h) (Or.inl ⟨by rfl, ?_⟩) (by assumption) ?_
            rotate_left
            · intro w hSw; (try dsimp only at hSw); obtain ⟨hR1, hR2⟩ := hSw; obtain ⟨e0, e1, e2, e3, e4, e5, e6, e7, e8, e9, e10, e11⟩ := c12_cells hR1 hlt HX.out; obtain ⟨g0, g1, g2, g3, g4, g5, g6, g7, g8, g9, g10, g11⟩ := c12_cells hR2 hlt HX.out; dsimp only at e0 g0 e1 g1 e2 g2 e3 g3 e4 g4 e5 g5 e6 g6 e7 g7 e8 g8 e9 g9 e10 g10 e11 g11; have hq := HQ.out w; have hq2 := HQ2.out w; go_simp; try with_reducible rfl
            (try simp only [Act.put, List.setIfInBounds_toArray, List.set_cons_zero, List.set_cons_succ])
            refine wpAnyH_done (by kernel_rfl) ?_ _
            clear hHeld HQ HQ2 HX
            go_wp2
            go_roundw
            case rel => exact ⟨k + 1, by omega, by go_num, B9.out⟩
            case measure => simp [intOf]; omega
          · go_wp2_with fail
            refine (lives15_any _).mono ?_
            rintro ev w9 ⟨rfl, nb⟩
            have B9 := Lib.hid (HB.out.trans ((B8.out.trans (nb.mono B8.out.size)).mono HB.out.size))
            clear nb B8
            go_wp2
            go_ret
            exact ⟨rfl, B9.out⟩
end Go.Proofs.Ytjjpfpgjpmedmaa
namespace Go.Proofs.Ytjjpfpgjpmedmaa
open Go.RowKit
attribute [local go_sem] Oper.semAt_some
set_option maxRecDepth 100000 in
set_option maxHeartbeats 8000000 in
theorem demandsetUtility_walk (A : Option Addr) (n c : Nat) (l : List MF.Of) (p0 p1 p2 p3 p4 p5 b0 b1 b2 b3 b4 b5 : Int) (w : World) (hl : LstIn ofE w A n c l) : Calls Try.prog 4 #[.slice A n c, .agg #[.int .i64 p0, .int .i64 p1, .int .i64 p2, .int .i64 p3, .int .i64 p4, .int .i64 p5], .agg #[.int .i64 b0, .int .i64 b1, .int .i64 b2, .int .i64 b3, .int .i64 b4, .int .i64 b5]] w (Gives (.bool true) w) := by
  have S0 := Lib.hid (Two2.start w 39 24 p0 p1 p2 p3 p4 p5 b0 b1 b2 b3 b4 b5)
  have L0 := Lib.hid (hl.lst.keep S0.out.below)
  have hmo : Try.prog.follows .mixedOrders = true := by kernel_rfl
  clear hl
  go_enter Try.func4, Try.ntmps4
  go_upto_region 1 with (fail)
  generalize (w.alloc (.cells #[.int .i64 p0, .int .i64 p1, .int .i64 p2, .int .i64 p3, .int .i64 p4, .int .i64 p5] 39)).alloc (.cells #[.int .i64 b0, .int .i64 b1, .int .i64 b2, .int .i64 b3, .int .i64 b4, .int .i64 b5] 24) = w1 at *
  by_cases h3 : 60 < n
  · have d3 : decide ((60 : Int) < n) = true := decide_eq_true (by omega)
    go_wp2_with fail
    refine (lives15_any _).mono ?_
    rintro ev w2 ⟨rfl, nb⟩
    have B2 := Lib.hid (S0.out.below.trans (nb.mono S0.out.below.size))
    clear nb S0 L0
    go_wp2
    go_ret
    exact ⟨rfl, B2.out⟩
  · have d3 : decide ((60 : Int) < n) = false := decide_eq_false (by omega)
    have HU := Lib.hid (fun X (h : Lst ofE X A n c l) => utility_any A n c l (by omega) p0 p1 p2 p3 p4 p5 b0 b1 b2 b3 b4 b5 X h)
    have HR := Lib.hid (fun X (h : Lst ofE X A n c l) => rutility_any A n c l (by omega) p0 p1 p2 p3 p4 p5 b0 b1 b2 b3 b4 b5 X h)
    generalize MD.utE l [p0, p1, p2, p3, p4, p5] [b0, b1, b2, b3, b4, b5] = u at *
    have hu : (u == u) = true := beq_self_eq_true u
    have H2 := Lib.hid (S0.out.keep (below_drawn w1))
    have HL := Lib.hid (L0.out.keep (below_drawn w1))
    clear S0 L0
    go_upto_region 3 with (fail)
    refine wp_region_held_drew (S := fun w' => BB w' w.heap.size 39 [p0, p1, p2, p3, p4, p5] ∧ BB w' (w.heap.size + 1) 24 [b0, b1, b2, b3, b4, b5]) hmo ⟨H2.out.x, H2.out.y⟩ (fun hHeld => ?_)
    generalize w1.drew = Y at *
    refine wpAnyH_take (i := 0) (oi := { dst := some 11, op := Op.move (Operand.tmp 0), type := 22, pos := "law.go:27", after := #[], guard := none }) (v := ?_) rfl (by kernel_rfl) (by kernel_rfl) (by kernel_rfl) (fun _ _ _ h => h) (Or.inl ⟨by rfl, ?_⟩) (by assumption) ?_
    rotate_left
    · intro w hSw; (try dsimp only at hSw); obtain ⟨hP, hB⟩ := hSw; obtain ⟨r0, r1, r2, r3, r4, r5⟩ := cells6 hP; obtain ⟨s0, s1, s2, s3, s4, s5⟩ := cells6 hB; go_simp; try with_reducible rfl
    (try simp only [Act.put, List.setIfInBounds_toArray, List.set_cons_zero, List.set_cons_succ])
    refine wpAnyH_take (i := 1) (oi := { dst := some 12, op := Op.load 39 (Operand.tmp 4), type := 39, pos := "law.go:27", after := #[], guard := none }) (v := ?_) rfl (by kernel_rfl) (by kernel_rfl) (by kernel_rfl) (fun _ _ _ h => h) (Or.inl ⟨by rfl, ?_⟩) (by assumption) ?_
    rotate_left
    · intro w hSw; (try dsimp only at hSw); obtain ⟨hP, hB⟩ := hSw; obtain ⟨r0, r1, r2, r3, r4, r5⟩ := cells6 hP; obtain ⟨s0, s1, s2, s3, s4, s5⟩ := cells6 hB; go_simp; try with_reducible rfl
    (try simp only [Act.put, List.setIfInBounds_toArray, List.set_cons_zero, List.set_cons_succ])
    refine wpAnyH_take (i := 2) (oi := { dst := some 13, op := Op.load 24 (Operand.tmp 5), type := 24, pos := "law.go:27", after := #[], guard := none }) (v := ?_) rfl (by kernel_rfl) (by kernel_rfl) (by kernel_rfl) (fun _ _ _ h => h) (Or.inl ⟨by rfl, ?_⟩) (by assumption) ?_
    rotate_left
    · intro w hSw; (try dsimp only at hSw); obtain ⟨hP, hB⟩ := hSw; obtain ⟨r0, r1, r2, r3, r4, r5⟩ := cells6 hP; obtain ⟨s0, s1, s2, s3, s4, s5⟩ := cells6 hB; go_simp; try with_reducible rfl
    (try simp only [Act.put, List.setIfInBounds_toArray, List.set_cons_zero, List.set_cons_succ])
    refine wpAnyH_take (i := 4) (oi := { dst := some 15, op := Op.move (Operand.tmp 0), type := 22, pos := "law.go:27", after := #[], guard := none }) (v := ?_) rfl (by kernel_rfl) (by kernel_rfl) (by kernel_rfl) (fun _ _ _ h => h) (Or.inl ⟨by rfl, ?_⟩) (by assumption) ?_
    rotate_left
    · intro w hSw; (try dsimp only at hSw); obtain ⟨hP, hB⟩ := hSw; obtain ⟨r0, r1, r2, r3, r4, r5⟩ := cells6 hP; obtain ⟨s0, s1, s2, s3, s4, s5⟩ := cells6 hB; go_simp; try with_reducible rfl
    (try simp only [Act.put, List.setIfInBounds_toArray, List.set_cons_zero, List.set_cons_succ])
    refine wpAnyH_take (i := 5) (oi := { dst := some 16, op := Op.load 39 (Operand.tmp 4), type := 39, pos := "law.go:27", after := #[], guard := none }) (v := ?_) rfl (by kernel_rfl) (by kernel_rfl) (by kernel_rfl) (fun _ _ _ h => h) (Or.inl ⟨by rfl, ?_⟩) (by assumption) ?_
    rotate_left
    · intro w hSw; (try dsimp only at hSw); obtain ⟨hP, hB⟩ := hSw; obtain ⟨r0, r1, r2, r3, r4, r5⟩ := cells6 hP; obtain ⟨s0, s1, s2, s3, s4, s5⟩ := cells6 hB; go_simp; try with_reducible rfl
    (try simp only [Act.put, List.setIfInBounds_toArray, List.set_cons_zero, List.set_cons_succ])
    refine wpAnyH_take (i := 6) (oi := { dst := some 17, op := Op.load 24 (Operand.tmp 5), type := 24, pos := "law.go:27", after := #[], guard := none }) (v := ?_) rfl (by kernel_rfl) (by kernel_rfl) (by kernel_rfl) (fun _ _ _ h => h) (Or.inl ⟨by rfl, ?_⟩) (by assumption) ?_
    rotate_left
    · intro w hSw; (try dsimp only at hSw); obtain ⟨hP, hB⟩ := hSw; obtain ⟨r0, r1, r2, r3, r4, r5⟩ := cells6 hP; obtain ⟨s0, s1, s2, s3, s4, s5⟩ := cells6 hB; go_simp; try with_reducible rfl
    (try simp only [Act.put, List.setIfInBounds_toArray, List.set_cons_zero, List.set_cons_succ])
    refine wpAnyH_ready (rs := [3]) (by kernel_rfl) (by simp) ?_
    refine AllReadyH.cons (o := { dst := some 14, op := Op.call { callee := Callee.value (Operand.func 18), args := #[Operand.tmp 11, Operand.tmp 12, Operand.tmp 13], argTypes := #[22, 39, 24] }, type := 2, pos := "law.go:27", after := #[{ on := 0, ground := Ground.data }, { on := 1, ground := Ground.data }, { on := 2, ground := Ground.data }], guard := none }) rfl (fun K hK => ?_) AllReadyH.nil
    go_simp
    refine (HU.out Y HL.out).mono ?_
    rintro ev v1 ⟨rfl, nb⟩
    replace H2 := Lib.hid (H2.out.keep nb)
    replace HL := Lib.hid (HL.out.keep nb)
    clear nb
    refine hK.out _ _ ?_ (fun hHeld => ?_)
    · exact ⟨H2.out.x, H2.out.y⟩
    clear hK K
    (try simp only [Act.put, List.setIfInBounds_toArray, List.set_cons_zero, List.set_cons_succ])
    refine wpAnyH_ready (rs := [7]) (by kernel_rfl) (by simp) ?_
    refine AllReadyH.cons (o := { dst := some 18, op := Op.call { callee := Callee.value (Operand.func 19), args := #[Operand.tmp 15, Operand.tmp 16, Operand.tmp 17], argTypes := #[22, 39, 24] }, type := 2, pos := "law.go:27", after := #[{ on := 4, ground := Ground.data }, { on := 5, ground := Ground.data }, { on := 6, ground := Ground.data }, { on := 3, ground := Ground.chain }], guard := none }) rfl (fun K hK => ?_) AllReadyH.nil
    go_simp
    refine (HR.out v1 HL.out).mono ?_
    rintro ev v2 ⟨rfl, nb⟩
    replace H2 := Lib.hid (H2.out.keep nb)
    replace HL := Lib.hid (HL.out.keep nb)
    clear nb
    refine hK.out _ _ ?_ (fun hHeld => ?_)
    · exact ⟨H2.out.x, H2.out.y⟩
    clear hK K
    (try simp only [Act.put, List.setIfInBounds_toArray, List.set_cons_zero, List.set_cons_succ])
    refine wpAnyH_take (i := 8) (oi := { dst := some 19, op := Op.binOp BinOp.eql 2 (Operand.tmp 14) (Operand.tmp 18) 2, type := 4, pos := "law.go:27", after := #[{ on := 3, ground := Ground.data }, { on := 7, ground := Ground.data }], guard := none }) (v := ?_) rfl (by kernel_rfl) (by kernel_rfl) (by kernel_rfl) (fun _ _ _ h => h) (Or.inl ⟨by rfl, ?_⟩) (by assumption) ?_
    rotate_left
    · intro w hSw; (try dsimp only at hSw); obtain ⟨hP, hB⟩ := hSw; obtain ⟨r0, r1, r2, r3, r4, r5⟩ := cells6 hP; obtain ⟨s0, s1, s2, s3, s4, s5⟩ := cells6 hB; go_simp; try with_reducible rfl
    (try simp only [Act.put, List.setIfInBounds_toArray, List.set_cons_zero, List.set_cons_succ])
    refine wpAnyH_take (i := 9) (oi := { dst := some 20, op := Op.move (Operand.tmp 19), type := 4, pos := "law.go:27", after := #[{ on := 8, ground := Ground.data }, { on := 7, ground := Ground.chain }], guard := none }) (v := ?_) rfl (by kernel_rfl) (by kernel_rfl) (by kernel_rfl) (fun _ _ _ h => h) (Or.inl ⟨by rfl, ?_⟩) (by assumption) ?_
    rotate_left
    · intro w hSw; (try dsimp only at hSw); obtain ⟨hP, hB⟩ := hSw; obtain ⟨r0, r1, r2, r3, r4, r5⟩ := cells6 hP; obtain ⟨s0, s1, s2, s3, s4, s5⟩ := cells6 hB; go_simp; try with_reducible rfl
    (try simp only [Act.put, List.setIfInBounds_toArray, List.set_cons_zero, List.set_cons_succ])
    refine wpAnyH_ready (rs := [10]) (by kernel_rfl) (by simp) ?_
    refine AllReadyH.cons (o := { dst := some 21, op := Op.call { callee := Callee.value (Operand.func 17), args := #[], argTypes := #[] }, type := 4, pos := "law.go:27", after := #[{ on := 9, ground := Ground.chain }, { on := 9, ground := Ground.guard }], guard := some (9, true) }) rfl (fun K hK => ?_) AllReadyH.nil
    go_simp
    refine (lives15_any v2).mono ?_
    rintro ev v3 ⟨rfl, nb⟩
    replace H2 := Lib.hid (H2.out.keep nb)
    replace HL := Lib.hid (HL.out.keep nb)
    clear nb
    refine hK.out _ _ ?_ (fun hHeld => ?_)
    · exact ⟨H2.out.x, H2.out.y⟩
    clear hK K
    (try simp only [Act.put, List.setIfInBounds_toArray, List.set_cons_zero, List.set_cons_succ])
    refine wpAnyH_take (i := 11) (oi := { dst := some 22, op := Op.pick (Operand.tmp 20) (Operand.tmp 21) (Operand.const (Value.bool false)), type := 4, pos := "law.go:27", after := #[{ on := 9, ground := Ground.data }, { on := 10, ground := Ground.data }], guard := none }) (v := ?_) rfl (by kernel_rfl) (by kernel_rfl) (by kernel_rfl) (fun _ _ _ h => h) (Or.inl ⟨by rfl, ?_⟩) (by assumption) ?_
    rotate_left
    · intro w hSw; (try dsimp only at hSw); obtain ⟨hP, hB⟩ := hSw; obtain ⟨r0, r1, r2, r3, r4, r5⟩ := cells6 hP; obtain ⟨s0, s1, s2, s3, s4, s5⟩ := cells6 hB; go_simp; try with_reducible rfl
    (try simp only [Act.put, List.setIfInBounds_toArray, List.set_cons_zero, List.set_cons_succ])
    refine wpAnyH_take (i := 12) (oi := { dst := some 6, op := Op.assign (Operand.tmp 22), type := 4, pos := "law.go:27", after := #[{ on := 11, ground := Ground.data }, { on := 10, ground := Ground.chain }, { on := 0, ground := Ground.phase }, { on := 1, ground := Ground.phase }, { on := 2, ground := Ground.phase }, { on := 3, ground := Ground.phase }, { on := 4, ground := Ground.phase }, { on := 5, ground := Ground.phase }, { on := 6, ground := Ground.phase }, { on := 7, ground := Ground.phase }, { on := 8, ground := Ground.phase }, { on := 9, ground := Ground.phase }, { on := 10, ground := Ground.phase }, { on := 11, ground := Ground.phase }], guard := none }) (v := ?_) rfl (by kernel_rfl) (by kernel_rfl) (by kernel_rfl) (fun _ _ _ h => h) (Or.inl ⟨by rfl, ?_⟩) (by assumption) ?_
    rotate_left
    · intro w hSw; (try dsimp only at hSw); obtain ⟨hP, hB⟩ := hSw; obtain ⟨r0, r1, r2, r3, r4, r5⟩ := cells6 hP; obtain ⟨s0, s1, s2, s3, s4, s5⟩ := cells6 hB; go_simp; try with_reducible rfl
    (try simp only [Act.put, List.setIfInBounds_toArray, List.set_cons_zero, List.set_cons_succ])
    refine wpAnyH_done (by kernel_rfl) ?_ _
    clear hHeld
    go_wp2
    go_ret
    exact ⟨rfl, H2.out.below⟩
end Go.Proofs.Ytjjpfpgjpmedmaa
