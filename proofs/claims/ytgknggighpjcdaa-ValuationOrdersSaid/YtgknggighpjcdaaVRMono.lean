/- The reference's Monotone. No claim of its own. -/
import Derived.Test.YtgknggighpjcdaaVRef0
import Derived.Test.YtgknggighpjcdaaVTab
import Derived.Test.YtgknggighpjcdaaVMono
import Derived.Test.YtgknggighpjcdaaMathVE
import Derived.Deep.RegionHeld3
import Derived.Deep.DeepCutAuto
namespace Go.Proofs.Ytgknggighpjcdaa
open Go.RowKit
theorem mono_row {L s : List Int} (h : cntB s ≠ 0) (h2 : (L.length : Int) = cntB s) {i j : Nat} (hi : i < VV.cnt s) (hj : j < VV.cnt s) (hr : VV.rowB L s i j = false) : VV.monoB L s = false := by
  rw [VV.monoB_yes h h2]
  by_cases e : VV.pairsB L s (VV.cnt s) = true
  · rw [VV.pairsB_iff.1 e i hi j hj] at hr; cases hr
  · simpa using e
theorem mono_all {L s : List Int} (h : cntB s ≠ 0) (h2 : (L.length : Int) = cntB s) (ha : ∀ i, i < VV.cnt s → ∀ j, j < VV.cnt s → VV.rowB L s i j = true) : VV.monoB L s = true := by
  rw [VV.monoB_yes h h2]; exact VV.pairsB_iff.2 ha
attribute [local go_sem] Oper.semAt_some
set_option maxRecDepth 100000 in
set_option maxHeartbeats 8000000 in
theorem rmono_any (A : Option Addr) (n c : Nat) (L : List Int) (q0 q1 q2 q3 q4 q5 : Int) (w : World) (hL : Lst intE w A n c L) : Calls Try.prog 28 #[.slice A n c, .agg #[.int .i64 q0, .int .i64 q1, .int .i64 q2, .int .i64 q3, .int .i64 q4, .int .i64 q5]] w (Gives (.bool (VV.monoB L [q0, q1, q2, q3, q4, q5])) w) := by
  have CC := Lib.hid (fun w' => rcount_any q0 q1 q2 q3 q4 q5 w')
  have HLL := Lib.hid hL.len
  have M1 := Lib.hid (VV.monoB_no1 (L := L) (s := [q0, q1, q2, q3, q4, q5]))
  have M2 := Lib.hid (VV.monoB_no2 (L := L) (s := [q0, q1, q2, q3, q4, q5]))
  have MA := Lib.hid (fun h h2 => mono_all (L := L) (s := [q0, q1, q2, q3, q4, q5]) h h2)
  have MR := Lib.hid (fun h h2 (i j : Nat) hi hj hr => mono_row (L := L) (s := [q0, q1, q2, q3, q4, q5]) h h2 (i := i) (j := j) hi hj hr)
  obtain ⟨R, hR⟩ : ∃ R, R = VV.monoB L [q0, q1, q2, q3, q4, q5] := ⟨_, rfl⟩
  rw [← hR] at M1 M2 MA MR ⊢
  clear hR
  have hn63 := hL.few
  have HB := Lib.hid (below_new w (.cells #[.int .i64 q0, .int .i64 q1, .int .i64 q2, .int .i64 q3, .int .i64 q4, .int .i64 q5] 23))
  have S0 := Lib.hid (BB.new w 23 q0 q1 q2 q3 q4 q5)
  have L0 := Lib.hid (hL.keep HB.out)
  clear hL
  go_enter Try.func28, Try.ntmps28
  go_upto_region 1 with (fail)
  generalize w.alloc (.cells #[.int .i64 q0, .int .i64 q1, .int .i64 q2, .int .i64 q3, .int .i64 q4, .int .i64 q5] 23) = w1 at *
  obtain ⟨r0, r1, r2, r3, r4, r5⟩ := cells6 S0.out
  by_cases hcn : cntB [q0, q1, q2, q3, q4, q5] = 0
  · have HE := Lib.hid (M1.out hcn)
    rw [hcn] at CC
    clear hcn
    go_wp2_with fail
    refine (CC.out _).mono ?_
    rintro ev w2 ⟨rfl, hb2⟩
    have B2 := Lib.hid (HB.out.trans (hb2.mono HB.out.size))
    clear hb2 r0 r1 r2 r3 r4 r5 HB S0 L0
    go_wp2
    go_ret
    exact ⟨by rw [HE.out]; try rfl, B2.out⟩
  · obtain ⟨m, hm, hm0, hm1, hmc, hok⟩ : ∃ m : Nat, cntB [q0, q1, q2, q3, q4, q5] = m ∧ 0 < m ∧ m ≤ 1024 ∧ m = VV.cnt [q0, q1, q2, q3, q4, q5] ∧ MB.okB [q0, q1, q2, q3, q4, q5] = true := by
      have hy := cnt_yes' hcn
      exact ⟨_, hy.2, MB.P_pos _ _, hy.1.2, rfl, hy.1.1⟩
    have HOK := Lib.hid hok
    have HMC := Lib.hid hmc
    have HM := Lib.hid hm
    have HCN := Lib.hid hcn
    rw [hm] at CC
    have hne3 : ((m : Int) == 0) = false := beq_eq_false_iff_ne.2 (by omega)
    have hd3 : decide ((m : Int) = 0) = false := decide_eq_false (by omega)
    clear hcn hm hmc hok M1
    by_cases hnm : n = m
    · subst hnm
      clear M2
      have MAn := Lib.hid (MA.out HCN.out (by rw [HLL.out, HM.out]))
      have MRn := Lib.hid (MR.out HCN.out (by rw [HLL.out, HM.out]))
      rw [← HMC.out] at MAn MRn
      clear MA MR
      go_wp2_with fail
      refine (CC.out _).mono ?_
      rintro ev w2 ⟨rfl, hb2⟩
      have B2 := Lib.hid (HB.out.trans (hb2.mono HB.out.size))
      have S2 := Lib.hid (S0.out.keep hb2 S0.out.lt)
      have L2 := Lib.hid (L0.out.keep hb2)
      clear hb2 r0 r1 r2 r3 r4 r5 HB S0 L0
      have HB := B2
      clear B2
      go_wp2_with fail
      go_loopw [6] (fun t wr => ∃ i : Nat, i ≤ n ∧ t = .int .i64 i ∧ Below w2.heap.size w2 wr ∧ BB wr w.heap.size 23 [q0, q1, q2, q3, q4, q5] ∧ ∀ i', i' < i → ∀ j, j < n → VV.rowB L [q0, q1, q2, q3, q4, q5] i' j = true) (fun t _ => n - (intOf t).toNat)
      case atStart => exact ⟨0, Nat.zero_le _, rfl, Below.refl _ _, S2.out, fun i' h => absurd h (Nat.not_lt_zero _)⟩
      case round =>
        obtain ⟨i, hi, rfl, hbw, hbb, hki⟩ := hrel
        have BI := Lib.hid hbw
        have GI := Lib.hid hbb
        have HKI := Lib.hid hki
        clear hbw hbb hki S2
        by_cases hi2 : i < n
        · obtain ⟨wo, hwo⟩ : ∃ wo, wo = wr := ⟨_, rfl⟩
          rw [← hwo] at BI GI ⊢
          clear hwo
          go_wp2_with fail
          go_loopw [7] (fun t wr => ∃ j : Nat, j ≤ n ∧ t = .int .i64 j ∧ Below w2.heap.size w2 wr ∧ BB wr w.heap.size 23 [q0, q1, q2, q3, q4, q5] ∧ ∀ j', j' < j → VV.rowB L [q0, q1, q2, q3, q4, q5] i j' = true) (fun t _ => n - (intOf t).toNat)
          case atStart => exact ⟨0, Nat.zero_le _, rfl, BI.out, GI.out, fun i' h => absurd h (Nat.not_lt_zero _)⟩
          case round =>
            obtain ⟨j, hj, rfl, hbw, hbb, hkj⟩ := hrel
            have BJ := Lib.hid hbw
            have GJ := Lib.hid hbb
            have HKJ := Lib.hid hkj
            clear hbw hbb hkj BI GI
            by_cases hj2 : j < n
            · have hlr := L2.out.keep BJ.out
              obtain ⟨ad, had, hxi, hadl, ci⟩ := int_getD hlr hi2
              obtain ⟨ad2, had2, hxj, hadl2, cj⟩ := int_getD hlr hj2
              have hAA : ad2 = ad := by rw [had] at had2; injection had2 with e; exact e.symm
              rw [hAA] at cj
              clear hAA had2 hadl2 hlr ad2
              have MB_ := MRn
              have hP : MB.P [q0, q1, q2, q3, q4, q5] 6 = n := HMC.out.symm
              have HA1 := Lib.hid (fun w' => at13_any q0 q1 q2 q3 q4 q5 i w' HOK.out (by rw [hP]; exact hi2))
              have HA2 := Lib.hid (fun w' => at13_any q0 q1 q2 q3 q4 q5 j w' HOK.out (by rw [hP]; exact hj2))
              have HR : Hid (VV.leB (VV.at6 [q0, q1, q2, q3, q4, q5] i) (VV.at6 [q0, q1, q2, q3, q4, q5] j) = true → VV.rowB L [q0, q1, q2, q3, q4, q5] i j = decide (L.getD i 0 ≤ L.getD j 0)) := Lib.hid (fun h => by unfold VV.rowB; rw [h]; rfl)
              have HR2 : Hid (VV.leB (VV.at6 [q0, q1, q2, q3, q4, q5] i) (VV.at6 [q0, q1, q2, q3, q4, q5] j) = false → VV.rowB L [q0, q1, q2, q3, q4, q5] i j = true) := Lib.hid (fun h => by unfold VV.rowB; rw [h]; rfl)
              rw [VV.at6_eq, VV.at6_eq] at HR HR2
              obtain ⟨y0, y1, y2, y3, y4, y5, hy⟩ := six (MB.D_length [q0, q1, q2, q3, q4, q5] 6 i)
              obtain ⟨z0, z1, z2, z3, z4, z5, hz⟩ := six (MB.D_length [q0, q1, q2, q3, q4, q5] 6 j)
              rw [hy, aggB_lit] at HA1
              rw [hz, aggB_lit] at HA2
              rw [hy, hz] at HR HR2
              have HW := Lib.hid (fun w' => rwithin13_any y0 y1 y2 y3 y4 y5 z0 z1 z2 z3 z4 z5 w')
              clear hy hz hP
              generalize L.getD i 0 = xi at *
              generalize L.getD j 0 = xj at *
              subst had
              have C3' := Lib.hid (And.intro ci cj)
              clear ci cj
              have hmo : Try.prog.follows .mixedOrders = true := by kernel_rfl
              go_wp2_with fail
              have B3 := Lib.hid (BJ.out.trans ((below_drawn wr).mono BJ.out.size))
              have G3 := Lib.hid (GJ.out.keep (below_drawn wr) GJ.out.lt)
              have C3 := Lib.hid (show wr.drew.cell? (ad.add i) = some (.int .i64 xi) ∧ wr.drew.cell? (ad.add j) = some (.int .i64 xj) from C3'.out)
              have had3 : ad.block < wr.drew.heap.size := hadl
              clear BJ GJ C3' hadl
              refine wp_region_held_drew (S := fun w' => BB w' w.heap.size 23 [q0, q1, q2, q3, q4, q5] ∧ w'.cell? (ad.add i) = some (.int .i64 xi) ∧ w'.cell? (ad.add j) = some (.int .i64 xj)) hmo ⟨G3.out, C3.out.1, C3.out.2⟩ (fun hHeld => ?_)
              generalize wr.drew = Y at *
              by_cases hw : MB.withinB [y0, y1, y2, y3, y4, y5] [z0, z1, z2, z3, z4, z5] 6 = true
              · rw [hw] at HW
                refine wpAnyH_take (i := 0) (oi := { dst := some 28, op := Op.load 23 (Operand.tmp 3), type := 23, pos := "ref.go:152", after := #[], guard := none }) (v := ?_) rfl (by kernel_rfl) (by kernel_rfl) (by kernel_rfl) (fun _ _ _ h => h) (Or.inl ⟨by rfl, ?_⟩) (by assumption) ?_
                rotate_left
                · intro w hSw; (try dsimp only at hSw); obtain ⟨hB, ci, cj⟩ := hSw; obtain ⟨r0, r1, r2, r3, r4, r5⟩ := cells6 hB; go_simp; try with_reducible rfl
                (try simp only [Act.put, List.setIfInBounds_toArray, List.set_cons_zero, List.set_cons_succ])
                refine wpAnyH_take (i := 1) (oi := { dst := some 29, op := Op.move (Operand.tmp 6), type := 3, pos := "ref.go:152", after := #[], guard := none }) (v := ?_) rfl (by kernel_rfl) (by kernel_rfl) (by kernel_rfl) (fun _ _ _ h => h) (Or.inl ⟨by rfl, ?_⟩) (by assumption) ?_
                rotate_left
                · intro w hSw; (try dsimp only at hSw); obtain ⟨hB, ci, cj⟩ := hSw; obtain ⟨r0, r1, r2, r3, r4, r5⟩ := cells6 hB; go_simp; try with_reducible rfl
                (try simp only [Act.put, List.setIfInBounds_toArray, List.set_cons_zero, List.set_cons_succ])
                refine wpAnyH_take (i := 3) (oi := { dst := some 31, op := Op.load 23 (Operand.tmp 3), type := 23, pos := "ref.go:152", after := #[], guard := none }) (v := ?_) rfl (by kernel_rfl) (by kernel_rfl) (by kernel_rfl) (fun _ _ _ h => h) (Or.inl ⟨by rfl, ?_⟩) (by assumption) ?_
                rotate_left
                · intro w hSw; (try dsimp only at hSw); obtain ⟨hB, ci, cj⟩ := hSw; obtain ⟨r0, r1, r2, r3, r4, r5⟩ := cells6 hB; go_simp; try with_reducible rfl
                (try simp only [Act.put, List.setIfInBounds_toArray, List.set_cons_zero, List.set_cons_succ])
                refine wpAnyH_take (i := 4) (oi := { dst := some 32, op := Op.move (Operand.tmp 7), type := 3, pos := "ref.go:152", after := #[], guard := none }) (v := ?_) rfl (by kernel_rfl) (by kernel_rfl) (by kernel_rfl) (fun _ _ _ h => h) (Or.inl ⟨by rfl, ?_⟩) (by assumption) ?_
                rotate_left
                · intro w hSw; (try dsimp only at hSw); obtain ⟨hB, ci, cj⟩ := hSw; obtain ⟨r0, r1, r2, r3, r4, r5⟩ := cells6 hB; go_simp; try with_reducible rfl
                (try simp only [Act.put, List.setIfInBounds_toArray, List.set_cons_zero, List.set_cons_succ])
                refine wpAnyH_ready (rs := [2]) (by kernel_rfl) (by simp) ?_
                refine AllReadyH.cons (o := { dst := some 30, op := Op.call { callee := Callee.value (Operand.func 57), args := #[Operand.tmp 28, Operand.tmp 29], argTypes := #[23, 3] }, type := 23, pos := "ref.go:152", after := #[{ on := 0, ground := Ground.data }, { on := 1, ground := Ground.data }], guard := none }) rfl (fun K hK => ?_) AllReadyH.nil
                go_simp
                refine (HA1.out _).mono ?_
                rintro ev w4 ⟨rfl, nb⟩
                have hz4 := nb.size
                have B4 := Lib.hid (B3.out.trans (nb.mono B3.out.size))
                have G4 := Lib.hid (G3.out.keep nb G3.out.lt)
                have C4 := Lib.hid (show w4.cell? (ad.add i) = some (.int .i64 xi) ∧ w4.cell? (ad.add j) = some (.int .i64 xj) from ⟨(nb.cell (p := ad.add i) (by rw [block_of_add]; exact had3)).trans C3.out.1, (nb.cell (p := ad.add j) (by rw [block_of_add]; exact had3)).trans C3.out.2⟩)
                have had4 : ad.block < w4.heap.size := Nat.lt_of_lt_of_le had3 nb.size
                clear nb B3 G3 C3 had3
                refine hK.out _ _ ?_ (fun hHeld => ?_)
                · exact ⟨G4.out, C4.out.1, C4.out.2⟩
                clear hK K
                (try simp only [Act.put, List.setIfInBounds_toArray, List.set_cons_zero, List.set_cons_succ])
                refine wpAnyH_ready (rs := [5]) (by kernel_rfl) (by simp) ?_
                refine AllReadyH.cons (o := { dst := some 33, op := Op.call { callee := Callee.value (Operand.func 57), args := #[Operand.tmp 31, Operand.tmp 32], argTypes := #[23, 3] }, type := 23, pos := "ref.go:152", after := #[{ on := 3, ground := Ground.data }, { on := 4, ground := Ground.data }, { on := 2, ground := Ground.chain }], guard := none }) rfl (fun K hK => ?_) AllReadyH.nil
                go_simp
                refine (HA2.out _).mono ?_
                rintro ev w5 ⟨rfl, nb⟩
                have hz5 := nb.size
                have B5 := Lib.hid (B4.out.trans (nb.mono B4.out.size))
                have G5 := Lib.hid (G4.out.keep nb G4.out.lt)
                have C5 := Lib.hid (show w5.cell? (ad.add i) = some (.int .i64 xi) ∧ w5.cell? (ad.add j) = some (.int .i64 xj) from ⟨(nb.cell (p := ad.add i) (by rw [block_of_add]; exact had4)).trans C4.out.1, (nb.cell (p := ad.add j) (by rw [block_of_add]; exact had4)).trans C4.out.2⟩)
                have had5 : ad.block < w5.heap.size := Nat.lt_of_lt_of_le had4 nb.size
                clear nb B4 G4 C4 had4
                refine hK.out _ _ ?_ (fun hHeld => ?_)
                · exact ⟨G5.out, C5.out.1, C5.out.2⟩
                clear hK K
                (try simp only [Act.put, List.setIfInBounds_toArray, List.set_cons_zero, List.set_cons_succ])
                refine wpAnyH_ready (rs := [6]) (by kernel_rfl) (by simp) ?_
                refine AllReadyH.cons (o := { dst := some 34, op := Op.call { callee := Callee.value (Operand.func 56), args := #[Operand.tmp 30, Operand.tmp 33], argTypes := #[23, 23] }, type := 4, pos := "ref.go:152", after := #[{ on := 2, ground := Ground.data }, { on := 5, ground := Ground.data }, { on := 5, ground := Ground.chain }], guard := none }) rfl (fun K hK => ?_) AllReadyH.nil
                go_simp
                refine (HW.out _).mono ?_
                rintro ev w6 ⟨rfl, nb⟩
                have hz6 := nb.size
                have B6 := Lib.hid (B5.out.trans (nb.mono B5.out.size))
                have G6 := Lib.hid (G5.out.keep nb G5.out.lt)
                have C6 := Lib.hid (show w6.cell? (ad.add i) = some (.int .i64 xi) ∧ w6.cell? (ad.add j) = some (.int .i64 xj) from ⟨(nb.cell (p := ad.add i) (by rw [block_of_add]; exact had5)).trans C5.out.1, (nb.cell (p := ad.add j) (by rw [block_of_add]; exact had5)).trans C5.out.2⟩)
                have had6 : ad.block < w6.heap.size := Nat.lt_of_lt_of_le had5 nb.size
                clear nb B5 G5 C5 had5
                refine hK.out _ _ ?_ (fun hHeld => ?_)
                · exact ⟨G6.out, C6.out.1, C6.out.2⟩
                clear hK K
                (try simp only [Act.put, List.setIfInBounds_toArray, List.set_cons_zero, List.set_cons_succ])
                refine wpAnyH_take (i := 7) (oi := { dst := some 35, op := Op.move (Operand.tmp 34), type := 4, pos := "ref.go:152", after := #[{ on := 6, ground := Ground.data }, { on := 6, ground := Ground.chain }], guard := none }) (v := ?_) rfl (by kernel_rfl) (by kernel_rfl) (by kernel_rfl) (fun _ _ _ h => h) (Or.inl ⟨by rfl, ?_⟩) (by assumption) ?_
                rotate_left
                · intro w hSw; (try dsimp only at hSw); obtain ⟨hB, ci, cj⟩ := hSw; obtain ⟨r0, r1, r2, r3, r4, r5⟩ := cells6 hB; go_simp; try with_reducible rfl
                (try simp only [Act.put, List.setIfInBounds_toArray, List.set_cons_zero, List.set_cons_succ])
                refine wpAnyH_take (i := 8) (oi := { dst := some 36, op := Op.move (Operand.tmp 0), type := 37, pos := "ref.go:152", after := #[{ on := 7, ground := Ground.guard }], guard := some (7, true) }) (v := ?_) rfl (by kernel_rfl) (by kernel_rfl) (by kernel_rfl) (fun _ _ _ h => h) (Or.inl ⟨by rfl, ?_⟩) (by assumption) ?_
                rotate_left
                · intro w hSw; (try dsimp only at hSw); obtain ⟨hB, ci, cj⟩ := hSw; obtain ⟨r0, r1, r2, r3, r4, r5⟩ := cells6 hB; go_simp; try with_reducible rfl
                (try simp only [Act.put, List.setIfInBounds_toArray, List.set_cons_zero, List.set_cons_succ])
                refine wpAnyH_take (i := 9) (oi := { dst := some 37, op := Op.move (Operand.tmp 6), type := 3, pos := "ref.go:152", after := #[{ on := 7, ground := Ground.guard }], guard := some (7, true) }) (v := ?_) rfl (by kernel_rfl) (by kernel_rfl) (by kernel_rfl) (fun _ _ _ h => h) (Or.inl ⟨by rfl, ?_⟩) (by assumption) ?_
                rotate_left
                · intro w hSw; (try dsimp only at hSw); obtain ⟨hB, ci, cj⟩ := hSw; obtain ⟨r0, r1, r2, r3, r4, r5⟩ := cells6 hB; go_simp; try with_reducible rfl
                (try simp only [Act.put, List.setIfInBounds_toArray, List.set_cons_zero, List.set_cons_succ])
                refine wpAnyH_take (i := 10) (oi := { dst := some 38, op := Op.indexAddr 37 (Operand.tmp 36) (Operand.tmp 37), type := 0, pos := "ref.go:152", after := #[{ on := 8, ground := Ground.data }, { on := 9, ground := Ground.data }, { on := 7, ground := Ground.guard }], guard := some (7, true) }) (v := ?_) rfl (by kernel_rfl) (by kernel_rfl) (by kernel_rfl) (fun _ _ _ h => h) (Or.inl ⟨by rfl, ?_⟩) (by assumption) ?_
                rotate_left
                · intro w hSw; (try dsimp only at hSw); obtain ⟨hB, ci, cj⟩ := hSw; obtain ⟨r0, r1, r2, r3, r4, r5⟩ := cells6 hB; go_simp; try with_reducible rfl
                (try simp only [Act.put, List.setIfInBounds_toArray, List.set_cons_zero, List.set_cons_succ])
                refine wpAnyH_take (i := 11) (oi := { dst := some 39, op := Op.load 2 (Operand.tmp 38), type := 2, pos := "ref.go:152", after := #[{ on := 10, ground := Ground.data }, { on := 7, ground := Ground.guard }], guard := some (7, true) }) (v := ?_) rfl (by kernel_rfl) (by kernel_rfl) (by kernel_rfl) (fun _ _ _ h => h) (Or.inl ⟨by rfl, ?_⟩) (by assumption) ?_
                rotate_left
                · intro w hSw; (try dsimp only at hSw); obtain ⟨hB, ci, cj⟩ := hSw; obtain ⟨r0, r1, r2, r3, r4, r5⟩ := cells6 hB; go_simp; try with_reducible rfl
                (try simp only [Act.put, List.setIfInBounds_toArray, List.set_cons_zero, List.set_cons_succ])
                refine wpAnyH_take (i := 12) (oi := { dst := some 40, op := Op.move (Operand.tmp 0), type := 37, pos := "ref.go:152", after := #[{ on := 7, ground := Ground.guard }], guard := some (7, true) }) (v := ?_) rfl (by kernel_rfl) (by kernel_rfl) (by kernel_rfl) (fun _ _ _ h => h) (Or.inl ⟨by rfl, ?_⟩) (by assumption) ?_
                rotate_left
                · intro w hSw; (try dsimp only at hSw); obtain ⟨hB, ci, cj⟩ := hSw; obtain ⟨r0, r1, r2, r3, r4, r5⟩ := cells6 hB; go_simp; try with_reducible rfl
                (try simp only [Act.put, List.setIfInBounds_toArray, List.set_cons_zero, List.set_cons_succ])
                refine wpAnyH_take (i := 13) (oi := { dst := some 41, op := Op.move (Operand.tmp 7), type := 3, pos := "ref.go:152", after := #[{ on := 7, ground := Ground.guard }], guard := some (7, true) }) (v := ?_) rfl (by kernel_rfl) (by kernel_rfl) (by kernel_rfl) (fun _ _ _ h => h) (Or.inl ⟨by rfl, ?_⟩) (by assumption) ?_
                rotate_left
                · intro w hSw; (try dsimp only at hSw); obtain ⟨hB, ci, cj⟩ := hSw; obtain ⟨r0, r1, r2, r3, r4, r5⟩ := cells6 hB; go_simp; try with_reducible rfl
                (try simp only [Act.put, List.setIfInBounds_toArray, List.set_cons_zero, List.set_cons_succ])
                refine wpAnyH_take (i := 14) (oi := { dst := some 42, op := Op.indexAddr 37 (Operand.tmp 40) (Operand.tmp 41), type := 0, pos := "ref.go:152", after := #[{ on := 12, ground := Ground.data }, { on := 13, ground := Ground.data }, { on := 7, ground := Ground.guard }], guard := some (7, true) }) (v := ?_) rfl (by kernel_rfl) (by kernel_rfl) (by kernel_rfl) (fun _ _ _ h => h) (Or.inl ⟨by rfl, ?_⟩) (by assumption) ?_
                rotate_left
                · intro w hSw; (try dsimp only at hSw); obtain ⟨hB, ci, cj⟩ := hSw; obtain ⟨r0, r1, r2, r3, r4, r5⟩ := cells6 hB; go_simp; try with_reducible rfl
                (try simp only [Act.put, List.setIfInBounds_toArray, List.set_cons_zero, List.set_cons_succ])
                refine wpAnyH_take (i := 15) (oi := { dst := some 43, op := Op.load 2 (Operand.tmp 42), type := 2, pos := "ref.go:152", after := #[{ on := 14, ground := Ground.data }, { on := 7, ground := Ground.guard }], guard := some (7, true) }) (v := ?_) rfl (by kernel_rfl) (by kernel_rfl) (by kernel_rfl) (fun _ _ _ h => h) (Or.inl ⟨by rfl, ?_⟩) (by assumption) ?_
                rotate_left
                · intro w hSw; (try dsimp only at hSw); obtain ⟨hB, ci, cj⟩ := hSw; obtain ⟨r0, r1, r2, r3, r4, r5⟩ := cells6 hB; go_simp; try with_reducible rfl
                (try simp only [Act.put, List.setIfInBounds_toArray, List.set_cons_zero, List.set_cons_succ])
                refine wpAnyH_take (i := 16) (oi := { dst := some 44, op := Op.binOp BinOp.gtr 2 (Operand.tmp 39) (Operand.tmp 43) 2, type := 4, pos := "ref.go:152", after := #[{ on := 11, ground := Ground.data }, { on := 15, ground := Ground.data }, { on := 7, ground := Ground.guard }], guard := some (7, true) }) (v := ?_) rfl (by kernel_rfl) (by kernel_rfl) (by kernel_rfl) (fun _ _ _ h => h) (Or.inl ⟨by rfl, ?_⟩) (by assumption) ?_
                rotate_left
                · intro w hSw; (try dsimp only at hSw); obtain ⟨hB, ci, cj⟩ := hSw; obtain ⟨r0, r1, r2, r3, r4, r5⟩ := cells6 hB; go_simp; try with_reducible rfl
                (try simp only [Act.put, List.setIfInBounds_toArray, List.set_cons_zero, List.set_cons_succ])
                refine wpAnyH_take (i := 17) (oi := { dst := some 45, op := Op.pick (Operand.tmp 35) (Operand.tmp 44) (Operand.const (Value.bool false)), type := 4, pos := "ref.go:152", after := #[{ on := 7, ground := Ground.data }, { on := 16, ground := Ground.data }], guard := none }) (v := ?_) rfl (by kernel_rfl) (by kernel_rfl) (by kernel_rfl) (fun _ _ _ h => h) (Or.inl ⟨by rfl, ?_⟩) (by assumption) ?_
                rotate_left
                · intro w hSw; (try dsimp only at hSw); obtain ⟨hB, ci, cj⟩ := hSw; obtain ⟨r0, r1, r2, r3, r4, r5⟩ := cells6 hB; go_simp; try with_reducible rfl
                (try simp only [Act.put, List.setIfInBounds_toArray, List.set_cons_zero, List.set_cons_succ])
                refine wpAnyH_done (by kernel_rfl) ?_ _
                clear hHeld
                by_cases hgt : xj < xi
                · have hdg : decide (xj < xi) = true := decide_eq_true hgt
                  have HF := Lib.hid (MB_.out i j hi2 hj2 (by rw [HR.out hw]; exact decide_eq_false (by omega)))
                  go_wp2
                  exact bodyPost_ret (v := .bool false) (by simp [results, Try.results28, go_sem]) rfl ⟨by rw [HF.out], HB.out.trans (B6.out.mono HB.out.size)⟩
                · have hdg : decide (xj < xi) = false := decide_eq_false hgt
                  have HROW := Lib.hid (show VV.rowB L [q0, q1, q2, q3, q4, q5] i j = true from by rw [HR.out hw]; exact decide_eq_true (by omega))
                  go_wp2
                  go_roundw
                  case rel => exact ⟨j + 1, by omega, by go_num, B6.out, G6.out, fun j' hj' => by
                    by_cases ej : j' = j
                    · rw [ej]; exact HROW.out
                    · exact HKJ.out j' (by omega)⟩
                  case measure => simp [intOf]; omega
              · have hw' : MB.withinB [y0, y1, y2, y3, y4, y5] [z0, z1, z2, z3, z4, z5] 6 = false := by simpa using hw
                rw [hw'] at HW
                refine wpAnyH_take (i := 0) (oi := { dst := some 28, op := Op.load 23 (Operand.tmp 3), type := 23, pos := "ref.go:152", after := #[], guard := none }) (v := ?_) rfl (by kernel_rfl) (by kernel_rfl) (by kernel_rfl) (fun _ _ _ h => h) (Or.inl ⟨by rfl, ?_⟩) (by assumption) ?_
                rotate_left
                · intro w hSw; (try dsimp only at hSw); obtain ⟨hB, ci, cj⟩ := hSw; obtain ⟨r0, r1, r2, r3, r4, r5⟩ := cells6 hB; go_simp; try with_reducible rfl
                (try simp only [Act.put, List.setIfInBounds_toArray, List.set_cons_zero, List.set_cons_succ])
                refine wpAnyH_take (i := 1) (oi := { dst := some 29, op := Op.move (Operand.tmp 6), type := 3, pos := "ref.go:152", after := #[], guard := none }) (v := ?_) rfl (by kernel_rfl) (by kernel_rfl) (by kernel_rfl) (fun _ _ _ h => h) (Or.inl ⟨by rfl, ?_⟩) (by assumption) ?_
                rotate_left
                · intro w hSw; (try dsimp only at hSw); obtain ⟨hB, ci, cj⟩ := hSw; obtain ⟨r0, r1, r2, r3, r4, r5⟩ := cells6 hB; go_simp; try with_reducible rfl
                (try simp only [Act.put, List.setIfInBounds_toArray, List.set_cons_zero, List.set_cons_succ])
                refine wpAnyH_take (i := 3) (oi := { dst := some 31, op := Op.load 23 (Operand.tmp 3), type := 23, pos := "ref.go:152", after := #[], guard := none }) (v := ?_) rfl (by kernel_rfl) (by kernel_rfl) (by kernel_rfl) (fun _ _ _ h => h) (Or.inl ⟨by rfl, ?_⟩) (by assumption) ?_
                rotate_left
                · intro w hSw; (try dsimp only at hSw); obtain ⟨hB, ci, cj⟩ := hSw; obtain ⟨r0, r1, r2, r3, r4, r5⟩ := cells6 hB; go_simp; try with_reducible rfl
                (try simp only [Act.put, List.setIfInBounds_toArray, List.set_cons_zero, List.set_cons_succ])
                refine wpAnyH_take (i := 4) (oi := { dst := some 32, op := Op.move (Operand.tmp 7), type := 3, pos := "ref.go:152", after := #[], guard := none }) (v := ?_) rfl (by kernel_rfl) (by kernel_rfl) (by kernel_rfl) (fun _ _ _ h => h) (Or.inl ⟨by rfl, ?_⟩) (by assumption) ?_
                rotate_left
                · intro w hSw; (try dsimp only at hSw); obtain ⟨hB, ci, cj⟩ := hSw; obtain ⟨r0, r1, r2, r3, r4, r5⟩ := cells6 hB; go_simp; try with_reducible rfl
                (try simp only [Act.put, List.setIfInBounds_toArray, List.set_cons_zero, List.set_cons_succ])
                refine wpAnyH_ready (rs := [2]) (by kernel_rfl) (by simp) ?_
                refine AllReadyH.cons (o := { dst := some 30, op := Op.call { callee := Callee.value (Operand.func 57), args := #[Operand.tmp 28, Operand.tmp 29], argTypes := #[23, 3] }, type := 23, pos := "ref.go:152", after := #[{ on := 0, ground := Ground.data }, { on := 1, ground := Ground.data }], guard := none }) rfl (fun K hK => ?_) AllReadyH.nil
                go_simp
                refine (HA1.out _).mono ?_
                rintro ev w4 ⟨rfl, nb⟩
                have hz4 := nb.size
                have B4 := Lib.hid (B3.out.trans (nb.mono B3.out.size))
                have G4 := Lib.hid (G3.out.keep nb G3.out.lt)
                have C4 := Lib.hid (show w4.cell? (ad.add i) = some (.int .i64 xi) ∧ w4.cell? (ad.add j) = some (.int .i64 xj) from ⟨(nb.cell (p := ad.add i) (by rw [block_of_add]; exact had3)).trans C3.out.1, (nb.cell (p := ad.add j) (by rw [block_of_add]; exact had3)).trans C3.out.2⟩)
                have had4 : ad.block < w4.heap.size := Nat.lt_of_lt_of_le had3 nb.size
                clear nb B3 G3 C3 had3
                refine hK.out _ _ ?_ (fun hHeld => ?_)
                · exact ⟨G4.out, C4.out.1, C4.out.2⟩
                clear hK K
                (try simp only [Act.put, List.setIfInBounds_toArray, List.set_cons_zero, List.set_cons_succ])
                refine wpAnyH_ready (rs := [5]) (by kernel_rfl) (by simp) ?_
                refine AllReadyH.cons (o := { dst := some 33, op := Op.call { callee := Callee.value (Operand.func 57), args := #[Operand.tmp 31, Operand.tmp 32], argTypes := #[23, 3] }, type := 23, pos := "ref.go:152", after := #[{ on := 3, ground := Ground.data }, { on := 4, ground := Ground.data }, { on := 2, ground := Ground.chain }], guard := none }) rfl (fun K hK => ?_) AllReadyH.nil
                go_simp
                refine (HA2.out _).mono ?_
                rintro ev w5 ⟨rfl, nb⟩
                have hz5 := nb.size
                have B5 := Lib.hid (B4.out.trans (nb.mono B4.out.size))
                have G5 := Lib.hid (G4.out.keep nb G4.out.lt)
                have C5 := Lib.hid (show w5.cell? (ad.add i) = some (.int .i64 xi) ∧ w5.cell? (ad.add j) = some (.int .i64 xj) from ⟨(nb.cell (p := ad.add i) (by rw [block_of_add]; exact had4)).trans C4.out.1, (nb.cell (p := ad.add j) (by rw [block_of_add]; exact had4)).trans C4.out.2⟩)
                have had5 : ad.block < w5.heap.size := Nat.lt_of_lt_of_le had4 nb.size
                clear nb B4 G4 C4 had4
                refine hK.out _ _ ?_ (fun hHeld => ?_)
                · exact ⟨G5.out, C5.out.1, C5.out.2⟩
                clear hK K
                (try simp only [Act.put, List.setIfInBounds_toArray, List.set_cons_zero, List.set_cons_succ])
                refine wpAnyH_ready (rs := [6]) (by kernel_rfl) (by simp) ?_
                refine AllReadyH.cons (o := { dst := some 34, op := Op.call { callee := Callee.value (Operand.func 56), args := #[Operand.tmp 30, Operand.tmp 33], argTypes := #[23, 23] }, type := 4, pos := "ref.go:152", after := #[{ on := 2, ground := Ground.data }, { on := 5, ground := Ground.data }, { on := 5, ground := Ground.chain }], guard := none }) rfl (fun K hK => ?_) AllReadyH.nil
                go_simp
                refine (HW.out _).mono ?_
                rintro ev w6 ⟨rfl, nb⟩
                have hz6 := nb.size
                have B6 := Lib.hid (B5.out.trans (nb.mono B5.out.size))
                have G6 := Lib.hid (G5.out.keep nb G5.out.lt)
                have C6 := Lib.hid (show w6.cell? (ad.add i) = some (.int .i64 xi) ∧ w6.cell? (ad.add j) = some (.int .i64 xj) from ⟨(nb.cell (p := ad.add i) (by rw [block_of_add]; exact had5)).trans C5.out.1, (nb.cell (p := ad.add j) (by rw [block_of_add]; exact had5)).trans C5.out.2⟩)
                have had6 : ad.block < w6.heap.size := Nat.lt_of_lt_of_le had5 nb.size
                clear nb B5 G5 C5 had5
                refine hK.out _ _ ?_ (fun hHeld => ?_)
                · exact ⟨G6.out, C6.out.1, C6.out.2⟩
                clear hK K
                (try simp only [Act.put, List.setIfInBounds_toArray, List.set_cons_zero, List.set_cons_succ])
                refine wpAnyH_take (i := 7) (oi := { dst := some 35, op := Op.move (Operand.tmp 34), type := 4, pos := "ref.go:152", after := #[{ on := 6, ground := Ground.data }, { on := 6, ground := Ground.chain }], guard := none }) (v := ?_) rfl (by kernel_rfl) (by kernel_rfl) (by kernel_rfl) (fun _ _ _ h => h) (Or.inl ⟨by rfl, ?_⟩) (by assumption) ?_
                rotate_left
                · intro w hSw; (try dsimp only at hSw); obtain ⟨hB, ci, cj⟩ := hSw; obtain ⟨r0, r1, r2, r3, r4, r5⟩ := cells6 hB; go_simp; try with_reducible rfl
                (try simp only [Act.put, List.setIfInBounds_toArray, List.set_cons_zero, List.set_cons_succ])
                refine wpAnyH_take (i := 8) (oi := { dst := some 36, op := Op.move (Operand.tmp 0), type := 37, pos := "ref.go:152", after := #[{ on := 7, ground := Ground.guard }], guard := some (7, true) }) (v := undef) rfl (by kernel_rfl) (by kernel_rfl) (by kernel_rfl) (fun _ _ _ h => h) (Or.inr ⟨by rfl, rfl⟩) (by assumption) ?_
                (try simp only [Act.put, List.setIfInBounds_toArray, List.set_cons_zero, List.set_cons_succ])
                refine wpAnyH_take (i := 9) (oi := { dst := some 37, op := Op.move (Operand.tmp 6), type := 3, pos := "ref.go:152", after := #[{ on := 7, ground := Ground.guard }], guard := some (7, true) }) (v := undef) rfl (by kernel_rfl) (by kernel_rfl) (by kernel_rfl) (fun _ _ _ h => h) (Or.inr ⟨by rfl, rfl⟩) (by assumption) ?_
                (try simp only [Act.put, List.setIfInBounds_toArray, List.set_cons_zero, List.set_cons_succ])
                refine wpAnyH_take (i := 10) (oi := { dst := some 38, op := Op.indexAddr 37 (Operand.tmp 36) (Operand.tmp 37), type := 0, pos := "ref.go:152", after := #[{ on := 8, ground := Ground.data }, { on := 9, ground := Ground.data }, { on := 7, ground := Ground.guard }], guard := some (7, true) }) (v := undef) rfl (by kernel_rfl) (by kernel_rfl) (by kernel_rfl) (fun _ _ _ h => h) (Or.inr ⟨by rfl, rfl⟩) (by assumption) ?_
                (try simp only [Act.put, List.setIfInBounds_toArray, List.set_cons_zero, List.set_cons_succ])
                refine wpAnyH_take (i := 11) (oi := { dst := some 39, op := Op.load 2 (Operand.tmp 38), type := 2, pos := "ref.go:152", after := #[{ on := 10, ground := Ground.data }, { on := 7, ground := Ground.guard }], guard := some (7, true) }) (v := undef) rfl (by kernel_rfl) (by kernel_rfl) (by kernel_rfl) (fun _ _ _ h => h) (Or.inr ⟨by rfl, rfl⟩) (by assumption) ?_
                (try simp only [Act.put, List.setIfInBounds_toArray, List.set_cons_zero, List.set_cons_succ])
                refine wpAnyH_take (i := 12) (oi := { dst := some 40, op := Op.move (Operand.tmp 0), type := 37, pos := "ref.go:152", after := #[{ on := 7, ground := Ground.guard }], guard := some (7, true) }) (v := undef) rfl (by kernel_rfl) (by kernel_rfl) (by kernel_rfl) (fun _ _ _ h => h) (Or.inr ⟨by rfl, rfl⟩) (by assumption) ?_
                (try simp only [Act.put, List.setIfInBounds_toArray, List.set_cons_zero, List.set_cons_succ])
                refine wpAnyH_take (i := 13) (oi := { dst := some 41, op := Op.move (Operand.tmp 7), type := 3, pos := "ref.go:152", after := #[{ on := 7, ground := Ground.guard }], guard := some (7, true) }) (v := undef) rfl (by kernel_rfl) (by kernel_rfl) (by kernel_rfl) (fun _ _ _ h => h) (Or.inr ⟨by rfl, rfl⟩) (by assumption) ?_
                (try simp only [Act.put, List.setIfInBounds_toArray, List.set_cons_zero, List.set_cons_succ])
                refine wpAnyH_take (i := 14) (oi := { dst := some 42, op := Op.indexAddr 37 (Operand.tmp 40) (Operand.tmp 41), type := 0, pos := "ref.go:152", after := #[{ on := 12, ground := Ground.data }, { on := 13, ground := Ground.data }, { on := 7, ground := Ground.guard }], guard := some (7, true) }) (v := undef) rfl (by kernel_rfl) (by kernel_rfl) (by kernel_rfl) (fun _ _ _ h => h) (Or.inr ⟨by rfl, rfl⟩) (by assumption) ?_
                (try simp only [Act.put, List.setIfInBounds_toArray, List.set_cons_zero, List.set_cons_succ])
                refine wpAnyH_take (i := 15) (oi := { dst := some 43, op := Op.load 2 (Operand.tmp 42), type := 2, pos := "ref.go:152", after := #[{ on := 14, ground := Ground.data }, { on := 7, ground := Ground.guard }], guard := some (7, true) }) (v := undef) rfl (by kernel_rfl) (by kernel_rfl) (by kernel_rfl) (fun _ _ _ h => h) (Or.inr ⟨by rfl, rfl⟩) (by assumption) ?_
                (try simp only [Act.put, List.setIfInBounds_toArray, List.set_cons_zero, List.set_cons_succ])
                refine wpAnyH_take (i := 16) (oi := { dst := some 44, op := Op.binOp BinOp.gtr 2 (Operand.tmp 39) (Operand.tmp 43) 2, type := 4, pos := "ref.go:152", after := #[{ on := 11, ground := Ground.data }, { on := 15, ground := Ground.data }, { on := 7, ground := Ground.guard }], guard := some (7, true) }) (v := undef) rfl (by kernel_rfl) (by kernel_rfl) (by kernel_rfl) (fun _ _ _ h => h) (Or.inr ⟨by rfl, rfl⟩) (by assumption) ?_
                (try simp only [Act.put, List.setIfInBounds_toArray, List.set_cons_zero, List.set_cons_succ])
                refine wpAnyH_take (i := 17) (oi := { dst := some 45, op := Op.pick (Operand.tmp 35) (Operand.tmp 44) (Operand.const (Value.bool false)), type := 4, pos := "ref.go:152", after := #[{ on := 7, ground := Ground.data }, { on := 16, ground := Ground.data }], guard := none }) (v := ?_) rfl (by kernel_rfl) (by kernel_rfl) (by kernel_rfl) (fun _ _ _ h => h) (Or.inl ⟨by rfl, ?_⟩) (by assumption) ?_
                rotate_left
                · intro w hSw; (try dsimp only at hSw); obtain ⟨hB, ci, cj⟩ := hSw; obtain ⟨r0, r1, r2, r3, r4, r5⟩ := cells6 hB; go_simp; try with_reducible rfl
                (try simp only [Act.put, List.setIfInBounds_toArray, List.set_cons_zero, List.set_cons_succ])
                refine wpAnyH_done (by kernel_rfl) ?_ _
                clear hHeld
                have HROW := Lib.hid (HR2.out hw')
                go_wp2
                go_roundw
                case rel => exact ⟨j + 1, by omega, by go_num, B6.out, G6.out, fun j' hj' => by
                  by_cases ej : j' = j
                  · rw [ej]; exact HROW.out
                  · exact HKJ.out j' (by omega)⟩
                case measure => simp [intOf]; omega
            · obtain rfl : j = n := by omega
              go_wp2
              go_roundw
              case rel => exact ⟨i + 1, by omega, by go_num, BJ.out, GJ.out, fun i' hi' j' hj' => by
                by_cases ei : i' = i
                · rw [ei]; exact HKJ.out j' hj'
                · exact HKI.out i' (by omega) j' hj'⟩
              case measure => simp [intOf]; omega
        · obtain rfl : i = n := by omega
          have HE := Lib.hid (MAn.out HKI.out)
          go_wp2
          go_ret
          exact ⟨by rw [HE.out]; try rfl, HB.out.trans (BI.out.mono HB.out.size)⟩
    · have HE := Lib.hid (M2.out (by rw [HLL.out, HM.out]; omega))
      have hne4 : ((n : Int) == (m : Int)) = false := beq_eq_false_iff_ne.2 (by omega)
      clear M2
      go_wp2_with fail
      refine (CC.out _).mono ?_
      rintro ev w2 ⟨rfl, hb2⟩
      have B2 := Lib.hid (HB.out.trans (hb2.mono HB.out.size))
      clear hb2 r0 r1 r2 r3 r4 r5 HB S0 L0
      go_wp2
      go_ret
      exact ⟨by rw [HE.out]; try rfl, B2.out⟩
end Go.Proofs.Ytgknggighpjcdaa
