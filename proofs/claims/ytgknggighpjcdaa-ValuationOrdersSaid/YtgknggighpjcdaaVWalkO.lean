/- The walk of ValuationOrders. No claim of its own. -/
import Derived.Test.YtgknggighpjcdaaVAwake
import Derived.Test.YtgknggighpjcdaaVRMono
namespace Go.Proofs.Ytgknggighpjcdaa
open Go.RowKit
attribute [local go_sem] Oper.semAt_some
set_option maxRecDepth 100000 in
set_option maxHeartbeats 8000000 in
theorem valuationOrders_walk (A : Option Addr) (n c : Nat) (L : List Int) (q0 q1 q2 q3 q4 q5 : Int) (w : World) (h : LstIn intE w A n c L) : Calls Try.prog 6 #[.slice A n c, .agg #[.int .i64 q0, .int .i64 q1, .int .i64 q2, .int .i64 q3, .int .i64 q4, .int .i64 q5]] w (Gives (.bool true) w) := by
  have AW := Lib.hid (fun w' => awake13_any w')
  have CC := Lib.hid (fun w' => rcount_any q0 q1 q2 q3 q4 q5 w')
  have CM := Lib.hid (fun w' (hl : Lst intE w' A n c L) => monotone_any A n c L q0 q1 q2 q3 q4 q5 w' hl)
  have CR := Lib.hid (fun w' (hl : Lst intE w' A n c L) => rmono_any A n c L q0 q1 q2 q3 q4 q5 w' hl)
  have hn := h.lst.few
  have B0 := Lib.hid (below_new w (.cells #[.int .i64 q0, .int .i64 q1, .int .i64 q2, .int .i64 q3, .int .i64 q4, .int .i64 q5] 23))
  have S0 := Lib.hid (BB.new w 23 q0 q1 q2 q3 q4 q5)
  have L0 := Lib.hid (h.lst.keep B0.out)
  clear h
  generalize VV.monoB L [q0, q1, q2, q3, q4, q5] = mb at *
  have hcr : 0 ≤ cntB [q0, q1, q2, q3, q4, q5] ∧ cntB [q0, q1, q2, q3, q4, q5] ≤ 1024 := by
    unfold cntB
    split
    · split <;> omega
    · omega
  generalize cntB [q0, q1, q2, q3, q4, q5] = cn at *
  go_enter Try.func6, Try.ntmps6
  go_upto_region 1 with (fail)
  generalize w.alloc (.cells #[.int .i64 q0, .int .i64 q1, .int .i64 q2, .int .i64 q3, .int .i64 q4, .int .i64 q5] 23) = w1 at *
  obtain ⟨r0, r1, r2, r3, r4, r5⟩ := cells6 S0.out
  by_cases h1 : 110 < n
  · have d1 : decide ((110 : Int) < (n : Int)) = true := decide_eq_true (by omega)
    have d1' : decide (110 < n) = true := decide_eq_true h1
    go_wp2_with fail
    refine (AW.out _).mono ?_
    rintro ev w5 ⟨rfl, nb⟩
    have B5 := Lib.hid (B0.out.trans (nb.mono B0.out.size))
    clear nb B0 S0 L0 r0 r1 r2 r3 r4 r5
    go_wp2
    go_ret
    exact ⟨rfl, B5.out⟩
  · have d1 : decide ((110 : Int) < (n : Int)) = false := decide_eq_false (by omega)
    have d1' : decide (110 < n) = false := decide_eq_false h1
    by_cases h2 : 100 < cn
    · have d2 : decide (100 < cn) = true := decide_eq_true h2
      go_wp2_with fail
      refine (CC.out _).mono ?_
      rintro ev w4 ⟨rfl, nb⟩
      have B4 := Lib.hid (B0.out.trans (nb.mono B0.out.size))
      clear nb B0 S0 L0 r0 r1 r2 r3 r4 r5
      go_wp2_with fail
      refine (AW.out _).mono ?_
      rintro ev w5 ⟨rfl, nb⟩
      have B5 := Lib.hid (B4.out.trans (nb.mono B4.out.size))
      clear nb B4
      go_wp2
      go_ret
      exact ⟨rfl, B5.out⟩
    · have d2 : decide (100 < cn) = false := decide_eq_false h2
      go_wp2_with fail
      refine (CC.out _).mono ?_
      rintro ev w2 ⟨rfl, nb⟩
      have B2 := Lib.hid (B0.out.trans (nb.mono B0.out.size))
      have S2 := Lib.hid (S0.out.keep nb S0.out.lt)
      have L2 := Lib.hid (L0.out.keep nb)
      clear nb B0 S0 L0 r0 r1 r2 r3 r4 r5 CC
      go_upto_region 3 with (fail)
      have B3 := Lib.hid (B2.out.trans ((below_drawn w2).mono B2.out.size))
      have S3 := Lib.hid (S2.out.keep (below_drawn w2) S2.out.lt)
      have L3 := Lib.hid (L2.out.keep (below_drawn w2))
      clear B2 S2 L2
      refine wp_region_held_drew (S := fun w' => BB w' w.heap.size 23 [q0, q1, q2, q3, q4, q5]) (by kernel_rfl) S3.out (fun hHeld => ?_)
      generalize w2.drew = Y at *
      cases mb with
      | true =>
        refine wpAnyH_take (i := 0) (oi := { dst := some 14, op := Op.move (Operand.tmp 0), type := 37, pos := "law.go:79", after := #[], guard := none }) (v := ?_) rfl (by kernel_rfl) (by kernel_rfl) (by kernel_rfl) (fun _ _ _ h => h) (Or.inl ⟨by rfl, ?_⟩) (by assumption) ?_
        rotate_left
        · intro w hSw; (try dsimp only at hSw); obtain ⟨r0, r1, r2, r3, r4, r5⟩ := cells6 hSw; go_simp; try with_reducible rfl
        (try simp only [Act.put, List.setIfInBounds_toArray, List.set_cons_zero, List.set_cons_succ])
        refine wpAnyH_take (i := 1) (oi := { dst := some 15, op := Op.load 23 (Operand.tmp 3), type := 23, pos := "law.go:79", after := #[], guard := none }) (v := ?_) rfl (by kernel_rfl) (by kernel_rfl) (by kernel_rfl) (fun _ _ _ h => h) (Or.inl ⟨by rfl, ?_⟩) (by assumption) ?_
        rotate_left
        · intro w hSw; (try dsimp only at hSw); obtain ⟨r0, r1, r2, r3, r4, r5⟩ := cells6 hSw; go_simp; try with_reducible rfl
        (try simp only [Act.put, List.setIfInBounds_toArray, List.set_cons_zero, List.set_cons_succ])
        refine wpAnyH_take (i := 3) (oi := { dst := some 17, op := Op.move (Operand.tmp 0), type := 37, pos := "law.go:79", after := #[], guard := none }) (v := ?_) rfl (by kernel_rfl) (by kernel_rfl) (by kernel_rfl) (fun _ _ _ h => h) (Or.inl ⟨by rfl, ?_⟩) (by assumption) ?_
        rotate_left
        · intro w hSw; (try dsimp only at hSw); obtain ⟨r0, r1, r2, r3, r4, r5⟩ := cells6 hSw; go_simp; try with_reducible rfl
        (try simp only [Act.put, List.setIfInBounds_toArray, List.set_cons_zero, List.set_cons_succ])
        refine wpAnyH_take (i := 4) (oi := { dst := some 18, op := Op.load 23 (Operand.tmp 3), type := 23, pos := "law.go:79", after := #[], guard := none }) (v := ?_) rfl (by kernel_rfl) (by kernel_rfl) (by kernel_rfl) (fun _ _ _ h => h) (Or.inl ⟨by rfl, ?_⟩) (by assumption) ?_
        rotate_left
        · intro w hSw; (try dsimp only at hSw); obtain ⟨r0, r1, r2, r3, r4, r5⟩ := cells6 hSw; go_simp; try with_reducible rfl
        (try simp only [Act.put, List.setIfInBounds_toArray, List.set_cons_zero, List.set_cons_succ])
        refine wpAnyH_ready (rs := [2]) (by kernel_rfl) (by simp) ?_
        refine AllReadyH.cons (o := { dst := some 16, op := Op.call { callee := Callee.value (Operand.func 27), args := #[Operand.tmp 14, Operand.tmp 15], argTypes := #[37, 23] }, type := 4, pos := "law.go:79", after := #[{ on := 0, ground := Ground.data }, { on := 1, ground := Ground.data }], guard := none }) rfl (fun K hK => ?_) AllReadyH.nil
        go_simp
        refine (CM.out _ L3.out).mono ?_
        rintro ev w4 ⟨rfl, nb⟩
        have B4 := Lib.hid (B3.out.trans (nb.mono B3.out.size))
        have S4 := Lib.hid (S3.out.keep nb S3.out.lt)
        have L4 := Lib.hid (L3.out.keep nb)
        clear nb B3 S3 L3
        refine hK.out _ _ ?_ (fun hHeld => ?_)
        · exact S4.out
        clear hK K
        (try simp only [Act.put, List.setIfInBounds_toArray, List.set_cons_zero, List.set_cons_succ])
        refine wpAnyH_ready (rs := [5]) (by kernel_rfl) (by simp) ?_
        refine AllReadyH.cons (o := { dst := some 19, op := Op.call { callee := Callee.value (Operand.func 28), args := #[Operand.tmp 17, Operand.tmp 18], argTypes := #[37, 23] }, type := 4, pos := "law.go:79", after := #[{ on := 3, ground := Ground.data }, { on := 4, ground := Ground.data }, { on := 2, ground := Ground.chain }], guard := none }) rfl (fun K hK => ?_) AllReadyH.nil
        go_simp
        refine (CR.out _ L4.out).mono ?_
        rintro ev w5 ⟨rfl, nb⟩
        have B5 := Lib.hid (B4.out.trans (nb.mono B4.out.size))
        have S5 := Lib.hid (S4.out.keep nb S4.out.lt)
        have L5 := Lib.hid (L4.out.keep nb)
        clear nb B4 S4 L4
        refine hK.out _ _ ?_ (fun hHeld => ?_)
        · exact S5.out
        clear hK K
        (try simp only [Act.put, List.setIfInBounds_toArray, List.set_cons_zero, List.set_cons_succ])
        refine wpAnyH_take (i := 6) (oi := { dst := some 20, op := Op.binOp BinOp.eql 4 (Operand.tmp 16) (Operand.tmp 19) 4, type := 4, pos := "law.go:79", after := #[{ on := 2, ground := Ground.data }, { on := 5, ground := Ground.data }], guard := none }) (v := ?_) rfl (by kernel_rfl) (by kernel_rfl) (by kernel_rfl) (fun _ _ _ h => h) (Or.inl ⟨by rfl, ?_⟩) (by assumption) ?_
        rotate_left
        · intro w hSw; (try dsimp only at hSw); obtain ⟨r0, r1, r2, r3, r4, r5⟩ := cells6 hSw; go_simp; try with_reducible rfl
        (try simp only [Act.put, List.setIfInBounds_toArray, List.set_cons_zero, List.set_cons_succ])
        refine wpAnyH_take (i := 7) (oi := { dst := some 21, op := Op.move (Operand.tmp 20), type := 4, pos := "law.go:79", after := #[{ on := 6, ground := Ground.data }, { on := 5, ground := Ground.chain }], guard := none }) (v := ?_) rfl (by kernel_rfl) (by kernel_rfl) (by kernel_rfl) (fun _ _ _ h => h) (Or.inl ⟨by rfl, ?_⟩) (by assumption) ?_
        rotate_left
        · intro w hSw; (try dsimp only at hSw); obtain ⟨r0, r1, r2, r3, r4, r5⟩ := cells6 hSw; go_simp; try with_reducible rfl
        (try simp only [Act.put, List.setIfInBounds_toArray, List.set_cons_zero, List.set_cons_succ])
        refine wpAnyH_ready (rs := [8]) (by kernel_rfl) (by simp) ?_
        refine AllReadyH.cons (o := { dst := some 22, op := Op.call { callee := Callee.value (Operand.func 17), args := #[], argTypes := #[] }, type := 4, pos := "law.go:79", after := #[{ on := 7, ground := Ground.chain }, { on := 7, ground := Ground.guard }], guard := some (7, true) }) rfl (fun K hK => ?_) AllReadyH.nil
        go_simp
        refine (AW.out _).mono ?_
        rintro ev w6 ⟨rfl, nb⟩
        have B6 := Lib.hid (B5.out.trans (nb.mono B5.out.size))
        have S6 := Lib.hid (S5.out.keep nb S5.out.lt)
        have L6 := Lib.hid (L5.out.keep nb)
        clear nb B5 S5 L5
        refine hK.out _ _ ?_ (fun hHeld => ?_)
        · exact S6.out
        clear hK K
        (try simp only [Act.put, List.setIfInBounds_toArray, List.set_cons_zero, List.set_cons_succ])
        refine wpAnyH_take (i := 9) (oi := { dst := some 23, op := Op.pick (Operand.tmp 21) (Operand.tmp 22) (Operand.const (Value.bool false)), type := 4, pos := "law.go:79", after := #[{ on := 7, ground := Ground.data }, { on := 8, ground := Ground.data }], guard := none }) (v := ?_) rfl (by kernel_rfl) (by kernel_rfl) (by kernel_rfl) (fun _ _ _ h => h) (Or.inl ⟨by rfl, ?_⟩) (by assumption) ?_
        rotate_left
        · intro w hSw; (try dsimp only at hSw); obtain ⟨r0, r1, r2, r3, r4, r5⟩ := cells6 hSw; go_simp; try with_reducible rfl
        (try simp only [Act.put, List.setIfInBounds_toArray, List.set_cons_zero, List.set_cons_succ])
        refine wpAnyH_take (i := 10) (oi := { dst := some 4, op := Op.assign (Operand.tmp 23), type := 4, pos := "law.go:79", after := #[{ on := 9, ground := Ground.data }, { on := 8, ground := Ground.chain }, { on := 0, ground := Ground.phase }, { on := 1, ground := Ground.phase }, { on := 2, ground := Ground.phase }, { on := 3, ground := Ground.phase }, { on := 4, ground := Ground.phase }, { on := 5, ground := Ground.phase }, { on := 6, ground := Ground.phase }, { on := 7, ground := Ground.phase }, { on := 8, ground := Ground.phase }, { on := 9, ground := Ground.phase }], guard := none }) (v := ?_) rfl (by kernel_rfl) (by kernel_rfl) (by kernel_rfl) (fun _ _ _ h => h) (Or.inl ⟨by rfl, ?_⟩) (by assumption) ?_
        rotate_left
        · intro w hSw; (try dsimp only at hSw); obtain ⟨r0, r1, r2, r3, r4, r5⟩ := cells6 hSw; go_simp; try with_reducible rfl
        (try simp only [Act.put, List.setIfInBounds_toArray, List.set_cons_zero, List.set_cons_succ])
        refine wpAnyH_done (by kernel_rfl) ?_ _
        clear hHeld
        go_wp2
        go_ret
        exact ⟨rfl, B6.out⟩
      | false =>
        refine wpAnyH_take (i := 0) (oi := { dst := some 14, op := Op.move (Operand.tmp 0), type := 37, pos := "law.go:79", after := #[], guard := none }) (v := ?_) rfl (by kernel_rfl) (by kernel_rfl) (by kernel_rfl) (fun _ _ _ h => h) (Or.inl ⟨by rfl, ?_⟩) (by assumption) ?_
        rotate_left
        · intro w hSw; (try dsimp only at hSw); obtain ⟨r0, r1, r2, r3, r4, r5⟩ := cells6 hSw; go_simp; try with_reducible rfl
        (try simp only [Act.put, List.setIfInBounds_toArray, List.set_cons_zero, List.set_cons_succ])
        refine wpAnyH_take (i := 1) (oi := { dst := some 15, op := Op.load 23 (Operand.tmp 3), type := 23, pos := "law.go:79", after := #[], guard := none }) (v := ?_) rfl (by kernel_rfl) (by kernel_rfl) (by kernel_rfl) (fun _ _ _ h => h) (Or.inl ⟨by rfl, ?_⟩) (by assumption) ?_
        rotate_left
        · intro w hSw; (try dsimp only at hSw); obtain ⟨r0, r1, r2, r3, r4, r5⟩ := cells6 hSw; go_simp; try with_reducible rfl
        (try simp only [Act.put, List.setIfInBounds_toArray, List.set_cons_zero, List.set_cons_succ])
        refine wpAnyH_take (i := 3) (oi := { dst := some 17, op := Op.move (Operand.tmp 0), type := 37, pos := "law.go:79", after := #[], guard := none }) (v := ?_) rfl (by kernel_rfl) (by kernel_rfl) (by kernel_rfl) (fun _ _ _ h => h) (Or.inl ⟨by rfl, ?_⟩) (by assumption) ?_
        rotate_left
        · intro w hSw; (try dsimp only at hSw); obtain ⟨r0, r1, r2, r3, r4, r5⟩ := cells6 hSw; go_simp; try with_reducible rfl
        (try simp only [Act.put, List.setIfInBounds_toArray, List.set_cons_zero, List.set_cons_succ])
        refine wpAnyH_take (i := 4) (oi := { dst := some 18, op := Op.load 23 (Operand.tmp 3), type := 23, pos := "law.go:79", after := #[], guard := none }) (v := ?_) rfl (by kernel_rfl) (by kernel_rfl) (by kernel_rfl) (fun _ _ _ h => h) (Or.inl ⟨by rfl, ?_⟩) (by assumption) ?_
        rotate_left
        · intro w hSw; (try dsimp only at hSw); obtain ⟨r0, r1, r2, r3, r4, r5⟩ := cells6 hSw; go_simp; try with_reducible rfl
        (try simp only [Act.put, List.setIfInBounds_toArray, List.set_cons_zero, List.set_cons_succ])
        refine wpAnyH_ready (rs := [2]) (by kernel_rfl) (by simp) ?_
        refine AllReadyH.cons (o := { dst := some 16, op := Op.call { callee := Callee.value (Operand.func 27), args := #[Operand.tmp 14, Operand.tmp 15], argTypes := #[37, 23] }, type := 4, pos := "law.go:79", after := #[{ on := 0, ground := Ground.data }, { on := 1, ground := Ground.data }], guard := none }) rfl (fun K hK => ?_) AllReadyH.nil
        go_simp
        refine (CM.out _ L3.out).mono ?_
        rintro ev w4 ⟨rfl, nb⟩
        have B4 := Lib.hid (B3.out.trans (nb.mono B3.out.size))
        have S4 := Lib.hid (S3.out.keep nb S3.out.lt)
        have L4 := Lib.hid (L3.out.keep nb)
        clear nb B3 S3 L3
        refine hK.out _ _ ?_ (fun hHeld => ?_)
        · exact S4.out
        clear hK K
        (try simp only [Act.put, List.setIfInBounds_toArray, List.set_cons_zero, List.set_cons_succ])
        refine wpAnyH_ready (rs := [5]) (by kernel_rfl) (by simp) ?_
        refine AllReadyH.cons (o := { dst := some 19, op := Op.call { callee := Callee.value (Operand.func 28), args := #[Operand.tmp 17, Operand.tmp 18], argTypes := #[37, 23] }, type := 4, pos := "law.go:79", after := #[{ on := 3, ground := Ground.data }, { on := 4, ground := Ground.data }, { on := 2, ground := Ground.chain }], guard := none }) rfl (fun K hK => ?_) AllReadyH.nil
        go_simp
        refine (CR.out _ L4.out).mono ?_
        rintro ev w5 ⟨rfl, nb⟩
        have B5 := Lib.hid (B4.out.trans (nb.mono B4.out.size))
        have S5 := Lib.hid (S4.out.keep nb S4.out.lt)
        have L5 := Lib.hid (L4.out.keep nb)
        clear nb B4 S4 L4
        refine hK.out _ _ ?_ (fun hHeld => ?_)
        · exact S5.out
        clear hK K
        (try simp only [Act.put, List.setIfInBounds_toArray, List.set_cons_zero, List.set_cons_succ])
        refine wpAnyH_take (i := 6) (oi := { dst := some 20, op := Op.binOp BinOp.eql 4 (Operand.tmp 16) (Operand.tmp 19) 4, type := 4, pos := "law.go:79", after := #[{ on := 2, ground := Ground.data }, { on := 5, ground := Ground.data }], guard := none }) (v := ?_) rfl (by kernel_rfl) (by kernel_rfl) (by kernel_rfl) (fun _ _ _ h => h) (Or.inl ⟨by rfl, ?_⟩) (by assumption) ?_
        rotate_left
        · intro w hSw; (try dsimp only at hSw); obtain ⟨r0, r1, r2, r3, r4, r5⟩ := cells6 hSw; go_simp; try with_reducible rfl
        (try simp only [Act.put, List.setIfInBounds_toArray, List.set_cons_zero, List.set_cons_succ])
        refine wpAnyH_take (i := 7) (oi := { dst := some 21, op := Op.move (Operand.tmp 20), type := 4, pos := "law.go:79", after := #[{ on := 6, ground := Ground.data }, { on := 5, ground := Ground.chain }], guard := none }) (v := ?_) rfl (by kernel_rfl) (by kernel_rfl) (by kernel_rfl) (fun _ _ _ h => h) (Or.inl ⟨by rfl, ?_⟩) (by assumption) ?_
        rotate_left
        · intro w hSw; (try dsimp only at hSw); obtain ⟨r0, r1, r2, r3, r4, r5⟩ := cells6 hSw; go_simp; try with_reducible rfl
        (try simp only [Act.put, List.setIfInBounds_toArray, List.set_cons_zero, List.set_cons_succ])
        refine wpAnyH_ready (rs := [8]) (by kernel_rfl) (by simp) ?_
        refine AllReadyH.cons (o := { dst := some 22, op := Op.call { callee := Callee.value (Operand.func 17), args := #[], argTypes := #[] }, type := 4, pos := "law.go:79", after := #[{ on := 7, ground := Ground.chain }, { on := 7, ground := Ground.guard }], guard := some (7, true) }) rfl (fun K hK => ?_) AllReadyH.nil
        go_simp
        refine (AW.out _).mono ?_
        rintro ev w6 ⟨rfl, nb⟩
        have B6 := Lib.hid (B5.out.trans (nb.mono B5.out.size))
        have S6 := Lib.hid (S5.out.keep nb S5.out.lt)
        have L6 := Lib.hid (L5.out.keep nb)
        clear nb B5 S5 L5
        refine hK.out _ _ ?_ (fun hHeld => ?_)
        · exact S6.out
        clear hK K
        (try simp only [Act.put, List.setIfInBounds_toArray, List.set_cons_zero, List.set_cons_succ])
        refine wpAnyH_take (i := 9) (oi := { dst := some 23, op := Op.pick (Operand.tmp 21) (Operand.tmp 22) (Operand.const (Value.bool false)), type := 4, pos := "law.go:79", after := #[{ on := 7, ground := Ground.data }, { on := 8, ground := Ground.data }], guard := none }) (v := ?_) rfl (by kernel_rfl) (by kernel_rfl) (by kernel_rfl) (fun _ _ _ h => h) (Or.inl ⟨by rfl, ?_⟩) (by assumption) ?_
        rotate_left
        · intro w hSw; (try dsimp only at hSw); obtain ⟨r0, r1, r2, r3, r4, r5⟩ := cells6 hSw; go_simp; try with_reducible rfl
        (try simp only [Act.put, List.setIfInBounds_toArray, List.set_cons_zero, List.set_cons_succ])
        refine wpAnyH_take (i := 10) (oi := { dst := some 4, op := Op.assign (Operand.tmp 23), type := 4, pos := "law.go:79", after := #[{ on := 9, ground := Ground.data }, { on := 8, ground := Ground.chain }, { on := 0, ground := Ground.phase }, { on := 1, ground := Ground.phase }, { on := 2, ground := Ground.phase }, { on := 3, ground := Ground.phase }, { on := 4, ground := Ground.phase }, { on := 5, ground := Ground.phase }, { on := 6, ground := Ground.phase }, { on := 7, ground := Ground.phase }, { on := 8, ground := Ground.phase }, { on := 9, ground := Ground.phase }], guard := none }) (v := ?_) rfl (by kernel_rfl) (by kernel_rfl) (by kernel_rfl) (fun _ _ _ h => h) (Or.inl ⟨by rfl, ?_⟩) (by assumption) ?_
        rotate_left
        · intro w hSw; (try dsimp only at hSw); obtain ⟨r0, r1, r2, r3, r4, r5⟩ := cells6 hSw; go_simp; try with_reducible rfl
        (try simp only [Act.put, List.setIfInBounds_toArray, List.set_cons_zero, List.set_cons_succ])
        refine wpAnyH_done (by kernel_rfl) ?_ _
        clear hHeld
        go_wp2
        go_ret
        exact ⟨rfl, B6.out⟩
end Go.Proofs.Ytgknggighpjcdaa
