/- The walk of ValuationTables. No claim of its own. -/
import Derived.Test.YtgknggighpjcdaaVWalkV
import Derived.Test.YtgknggighpjcdaaVRTab
import Derived.Test.YtgknggighpjcdaaVMono
namespace Go.Proofs.Ytgknggighpjcdaa
open Go.RowKit
theorem tab_facts {n : ME.Nd} {s : List Int} (hl : s.length = 6) {i : Nat} (hi : i < (tabE n s).1.length) : unrE s i = 0 ∧ (tabE n s).1.getD i 0 = VV.value n (unrB s i) ∧ (unrB s i).length = 6 := by
  unfold tabE at hi ⊢
  by_cases h1 : ME.checkE n ≠ 0
  · rw [if_pos h1] at hi; exact absurd hi (Nat.not_lt_zero _)
  · rw [if_neg h1] at hi ⊢
    by_cases h2 : chk s ≠ 0
    · rw [if_pos h2] at hi; exact absurd hi (Nat.not_lt_zero _)
    · rw [if_neg h2] at hi ⊢
      by_cases h3 : cntB s = 0
      · rw [if_pos h3] at hi; exact absurd hi (Nat.not_lt_zero _)
      · rw [if_neg h3] at hi ⊢
        have hy := cnt_yes' h3
        dsimp only at hi ⊢
        rw [VV.tab_len] at hi
        have hbu := VV.bu_of_ok hl hy.1.1
        have ho : unrOk s (i : Int) = true := (unrOk_iff s i).2 ⟨hy.1, by omega, by have : i < MB.P s 6 := hi; omega⟩
        have e : unrB s (i : Int) = VV.at6 s i := by unfold unrB; rw [ho, if_pos rfl, Int.toNat_natCast, VV.at6_eq]
        have hb := VV.at6_bu hbu i
        refine ⟨by unfold unrE; rw [ho, if_pos rfl], ?_, by rw [e]; exact hb.1.len⟩
        rw [e, value_ok (by omega) (chk_ok (K4.of_le ⟨hl, hy.1.1⟩ hb.1 (VV.leB_iff.2 hb.2)).ok), List.getD_eq_getElem?_getD, VV.tab_at _ hi]
        rfl
theorem tab_mono {n : ME.Nd} {s : List Int} (hl : s.length = 6) (he : (tabE n s).2 = 0) : VV.monoB (tabE n s).1 s = true := by
  unfold tabE at he ⊢
  by_cases h1 : ME.checkE n ≠ 0
  · rw [if_pos h1] at he; exact absurd he h1
  · rw [if_neg h1] at he ⊢
    by_cases h2 : chk s ≠ 0
    · rw [if_pos h2] at he; exact absurd he h2
    · rw [if_neg h2] at he ⊢
      by_cases h3 : cntB s = 0
      · rw [if_pos h3] at he; exact absurd he (by decide)
      · rw [if_neg h3]
        have hy := cnt_yes' h3
        have hbu := VV.bu_of_ok hl hy.1.1
        have hm := (VV.AllOk.of (n := n) (by omega)).mono
        dsimp only
        rw [VV.monoB_yes h3 (by rw [VV.tab_len, hy.2]; rfl)]
        refine VV.pairsB_iff.2 fun i hi j hj => VV.rowB_iff.2 fun hle => ?_
        rw [List.getD_eq_getElem?_getD, VV.tab_at _ hi, List.getD_eq_getElem?_getD, VV.tab_at _ hj]
        exact hm.up _ _ (VV.at6_bu hbu i).1 (VV.at6_bu hbu j).1 hle
attribute [local go_sem] Oper.semAt_some
set_option maxRecDepth 100000 in
set_option maxHeartbeats 8000000 in
theorem valuationTables_walk (x : NT) (q0 q1 q2 q3 q4 q5 : Int) (w : World) (hok : x.Ok w (fun _ => True)) : Calls Try.prog 5 #[x.val, .agg #[.int .i64 q0, .int .i64 q1, .int .i64 q2, .int .i64 q3, .int .i64 q4, .int .i64 q5]] w (Gives (.bool true) w) := by
  have AW := Lib.hid (fun w' => awake13_any w')
  have CC := Lib.hid (fun w' => rcount_any q0 q1 q2 q3 q4 q5 w')
  have CN := Lib.hid (fun (n : Int) w' => runr_any q0 q1 q2 q3 q4 q5 n w')
  have CO := Lib.hid (fun A n c L w' (h : Lst intE w' A n c L) => monotone_any A n c L q0 q1 q2 q3 q4 q5 w' h)
  have CF := Lib.hid (fun w' (hb : Below w.heap.size w w') => few13_any x w' _ (hok.below hb))
  have HV := Lib.hid (fun (hx : x.size ≤ 1000000) y0 y1 y2 y3 y4 y5 w' (hb : Below w.heap.size w w') => value_any x (Nat.le_trans hx (by decide)) y0 y1 y2 y3 y4 y5 w' _ (hok.below hb))
  have HT := Lib.hid (fun (hx : x.size ≤ 1000000) w' (hb : Below w.heap.size w w') => table_any x (Nat.le_trans hx (by decide)) q0 q1 q2 q3 q4 q5 w' _ (hok.below hb))
  have HR := Lib.hid (fun (hx : x.size ≤ 1000000) w' (hb : Below w.heap.size w w') => rtable_any x hx q0 q1 q2 q3 q4 q5 w' _ (hok.below hb))
  have HS : Hid (VV.few x.n = true → x.size ≤ 1000000) := Lib.hid (fun h => by have := VV.few_size h; rw [NT.size_n] at this; omega)
  obtain ⟨o, bb, v, A, cc, k⟩ := x
  obtain ⟨x0, x1, x2, x3, x4, x5, rfl⟩ := six hok.six
  rw [NT.val_lit] at CF HV HT HR ⊢
  clear hok
  have I0 := Lib.hid (IV.start w (.int .i64 o) (.int .i64 x0) (.int .i64 x1) (.int .i64 x2) (.int .i64 x3) (.int .i64 x4) (.int .i64 x5) (.int .i64 v) (.slice A k.len cc) q0 q1 q2 q3 q4 q5)
  generalize NT.n ⟨o, [x0, x1, x2, x3, x4, x5], v, A, cc, k⟩ = N at *
  have TF := Lib.hid (fun i hi => tab_facts (n := N) (s := [q0, q1, q2, q3, q4, q5]) rfl (i := i) hi)
  have TM := Lib.hid (tab_mono (n := N) (s := [q0, q1, q2, q3, q4, q5]) rfl)
  go_enter Try.func5, Try.ntmps5
  go_upto_region 1 with (fail)
  generalize (w.alloc (.cells #[.int .i64 o, .int .i64 x0, .int .i64 x1, .int .i64 x2, .int .i64 x3, .int .i64 x4, .int .i64 x5, .int .i64 v, .slice A k.len cc] 26)).alloc (.cells #[.int .i64 q0, .int .i64 q1, .int .i64 q2, .int .i64 q3, .int .i64 q4, .int .i64 q5] 23) = w1 at *
  obtain ⟨r0, r1, r2, r3, r4, r5⟩ := cells6 I0.out.q
  generalize cntB [q0, q1, q2, q3, q4, q5] = cn at *
  go_wp2_with fail
  refine (CC.out _).mono ?_
  rintro ev w2 ⟨rfl, nb⟩
  have I2 := Lib.hid (I0.out.keep nb)
  clear nb I0 CC r0 r1 r2 r3 r4 r5
  obtain ⟨e0, e1, e2, e3, e4, e5, e6, e7, e8⟩ := I2.out.e.cells
  by_cases hfw : VV.few N = true
  · rw [hfw] at CF
    have hx := HS.out hfw
    have CV := Lib.hid (HV.out hx)
    have CT := Lib.hid (HT.out hx)
    have CR := Lib.hid (HR.out hx)
    clear hfw HS HV HT HR hx
    by_cases h100 : 100 < cn
    · have hd : decide (100 < cn) = true := decide_eq_true h100
      go_wp2_with fail
      refine (CF.out _ I2.out.below).mono ?_
      rintro ev w3 ⟨rfl, nb⟩
      have I3 := Lib.hid (I2.out.keep nb)
      clear nb I2 CF e0 e1 e2 e3 e4 e5 e6 e7 e8
      go_wp2_with fail
      refine (AW.out _).mono ?_
      rintro ev w9 ⟨rfl, nb⟩
      have J9 := Lib.hid (I3.out.keep nb)
      clear nb
      go_wp2
      go_ret
      exact ⟨rfl, J9.out.below⟩
    · have hd : decide (100 < cn) = false := decide_eq_false h100
      go_wp2_with fail
      refine (CF.out _ I2.out.below).mono ?_
      rintro ev w3 ⟨rfl, nb⟩
      have I3 := Lib.hid (I2.out.keep nb)
      clear nb I2 CF e0 e1 e2 e3 e4 e5 e6 e7 e8
      obtain ⟨e0, e1, e2, e3, e4, e5, e6, e7, e8⟩ := I3.out.e.cells
      obtain ⟨r0, r1, r2, r3, r4, r5⟩ := cells6 I3.out.q
      go_wp2_with fail
      refine (CT.out _ I3.out.below).mono ?_
      rintro ev w4 ⟨A1, n1, c1, rfl, hl1, nb⟩
      have I4 := Lib.hid (I3.out.keep nb)
      have L4 := Lib.hid hl1
      clear nb I3 CT e0 e1 e2 e3 e4 e5 e6 e7 e8 r0 r1 r2 r3 r4 r5 hl1
      obtain ⟨e0, e1, e2, e3, e4, e5, e6, e7, e8⟩ := I4.out.e.cells
      obtain ⟨r0, r1, r2, r3, r4, r5⟩ := cells6 I4.out.q
      go_wp2_with fail
      refine (CR.out _ I4.out.below).mono ?_
      rintro ev w5 ⟨A2, n2, c2, rfl, hl2, nb⟩
      have I5 := Lib.hid (I4.out.keep nb)
      have L5 := Lib.hid (L4.out.keep nb)
      have hn12 : n2 = n1 := by rw [← hl2.len, ← L4.out.len]
      subst hn12
      have M5 := Lib.hid hl2
      have hn63 := hl2.few
      clear nb I4 CR L4 e0 e1 e2 e3 e4 e5 e6 e7 e8 r0 r1 r2 r3 r4 r5 hl2
      obtain ⟨L, hL⟩ : ∃ L, L = (tabE N [q0, q1, q2, q3, q4, q5]).1 := ⟨_, rfl⟩
      rw [← hL] at L5 M5 TF TM
      clear hL
      generalize (tabE N [q0, q1, q2, q3, q4, q5]).2 = er at *
      go_wp2_with fail
      go_loopw [10] (fun t wr => ∃ i : Nat, i ≤ n2 ∧ t = .int .i64 i ∧ IV w (.int .i64 o) (.int .i64 x0) (.int .i64 x1) (.int .i64 x2) (.int .i64 x3) (.int .i64 x4) (.int .i64 x5) (.int .i64 v) (.slice A k.len cc) [q0, q1, q2, q3, q4, q5] wr ∧ Lst intE wr A1 n2 c1 L ∧ Lst intE wr A2 n2 c2 L) (fun t _ => n2 - (intOf t).toNat)
      case atStart => exact ⟨0, Nat.zero_le _, rfl, I5.out, L5.out, M5.out⟩
      case round =>
        obtain ⟨i, hi, rfl, hv, hl1, hl2⟩ := hrel
        have I6' := Lib.hid hv
        have LL := Lib.hid (And.intro hl1 hl2)
        clear hv hl1 hl2 I5 L5 M5
        by_cases hlt : i < n2
        · obtain ⟨hu0, hu1, hu6⟩ := TF.out i (by rw [LL.out.1.len]; exact hlt)
          obtain ⟨y0, y1, y2, y3, y4, y5, hy⟩ := six hu6
          have CNi := Lib.hid (fun w' => CN.out i w')
          unfold UnrGives at CNi
          rw [hu0, hy, aggB_lit] at CNi
          have CVi := Lib.hid (CV.out y0 y1 y2 y3 y4 y5)
          rw [hy] at hu1
          rw [← hu1] at CVi
          clear hu0 hu1 hu6 hy
          obtain ⟨r0, r1, r2, r3, r4, r5⟩ := cells6 I6'.out.q
          go_wp2_with fail
          refine (CNi.out _).mono ?_
          rintro ev w6 ⟨rfl, nb⟩
          have I6 := Lib.hid (I6'.out.keep nb)
          have L6 := Lib.hid (And.intro (LL.out.1.keep nb) (LL.out.2.keep nb))
          clear nb I6' LL CNi r0 r1 r2 r3 r4 r5
          go_upto_region 12 with (fail)
          have nb := below_new w6 (.cells #[.int .i64 y0, .int .i64 y1, .int .i64 y2, .int .i64 y3, .int .i64 y4, .int .i64 y5] 23)
          have I7' := Lib.hid (I6.out.keep nb)
          have L7 := Lib.hid (And.intro (L6.out.1.keep nb) (L6.out.2.keep nb))
          have D7' := Lib.hid (BB.new w6 23 y0 y1 y2 y3 y4 y5)
          clear nb I6 L6
          generalize w6.alloc (.cells #[.int .i64 y0, .int .i64 y1, .int .i64 y2, .int .i64 y3, .int .i64 y4, .int .i64 y5] 23) = w7 at *
          generalize w6.heap.size = gb at *
          obtain ⟨ad1, hA1, hr1, hb1, k1⟩ := int_getD L7.out.1 hlt
          obtain ⟨ad2, hA2, hr2, hb2, k2⟩ := int_getD L7.out.2 hlt
          generalize L.getD i 0 = xi at *
          subst hA1; subst hA2
          have K7' := Lib.hid (show w7.cell? (ad1.add i) = some (.int .i64 xi) ∧ w7.cell? (ad2.add i) = some (.int .i64 xi) ∧ ad1.block < w7.heap.size ∧ ad2.block < w7.heap.size from ⟨k1, k2, hb1, hb2⟩)
          clear k1 k2 hb1 hb2 hr1 hr2
          go_wp2_with fail
          have I7 := Lib.hid (I7'.out.keep (below_drawn w7))
          have D7 := Lib.hid (D7'.out.keep (below_drawn w7) D7'.out.lt)
          have K7 := Lib.hid (show w7.drew.cell? (ad1.add i) = some (.int .i64 xi) ∧ w7.drew.cell? (ad2.add i) = some (.int .i64 xi) ∧ ad1.block < w7.drew.heap.size ∧ ad2.block < w7.drew.heap.size from K7'.out)
          have M7 := Lib.hid (And.intro (L7.out.1.keep (below_drawn w7)) (L7.out.2.keep (below_drawn w7)))
          clear I7' D7' K7' L7
          refine wp_region_held_drew (S := fun w' => B9 w' w.heap.size (.int .i64 o) (.int .i64 x0) (.int .i64 x1) (.int .i64 x2) (.int .i64 x3) (.int .i64 x4) (.int .i64 x5) (.int .i64 v) (.slice A k.len cc) ∧ BB w' gb 23 [y0, y1, y2, y3, y4, y5] ∧ w'.cell? (ad1.add i) = some (.int .i64 xi) ∧ w'.cell? (ad2.add i) = some (.int .i64 xi)) (by kernel_rfl) ⟨I7.out.e, D7.out, K7.out.1, K7.out.2.1⟩ (fun hHeld => ?_)
          generalize w7.drew = Y at *
          refine wpAnyH_take (i := 0) (oi := { dst := some 57, op := Op.move (Operand.tmp 6), type := 37, pos := "law.go:67", after := #[], guard := none }) (v := ?_) rfl (by kernel_rfl) (by kernel_rfl) (by kernel_rfl) (fun _ _ _ h => h) (Or.inl ⟨by rfl, ?_⟩) (by assumption) ?_
          rotate_left
          · intro w hSw; (try dsimp only at hSw); obtain ⟨hE, hA, k1, k2⟩ := hSw; obtain ⟨e0, e1, e2, e3, e4, e5, e6, e7, e8⟩ := hE.cells; obtain ⟨r0, r1, r2, r3, r4, r5⟩ := cells6 hA; go_simp; try with_reducible rfl
          (try simp only [Act.put, List.setIfInBounds_toArray, List.set_cons_zero, List.set_cons_succ])
          refine wpAnyH_take (i := 1) (oi := { dst := some 58, op := Op.move (Operand.tmp 10), type := 3, pos := "law.go:67", after := #[], guard := none }) (v := ?_) rfl (by kernel_rfl) (by kernel_rfl) (by kernel_rfl) (fun _ _ _ h => h) (Or.inl ⟨by rfl, ?_⟩) (by assumption) ?_
          rotate_left
          · intro w hSw; (try dsimp only at hSw); obtain ⟨hE, hA, k1, k2⟩ := hSw; obtain ⟨e0, e1, e2, e3, e4, e5, e6, e7, e8⟩ := hE.cells; obtain ⟨r0, r1, r2, r3, r4, r5⟩ := cells6 hA; go_simp; try with_reducible rfl
          (try simp only [Act.put, List.setIfInBounds_toArray, List.set_cons_zero, List.set_cons_succ])
          refine wpAnyH_take (i := 2) (oi := { dst := some 59, op := Op.indexAddr 37 (Operand.tmp 57) (Operand.tmp 58), type := 0, pos := "law.go:67", after := #[{ on := 0, ground := Ground.data }, { on := 1, ground := Ground.data }], guard := none }) (v := ?_) rfl (by kernel_rfl) (by kernel_rfl) (by kernel_rfl) (fun _ _ _ h => h) (Or.inl ⟨by rfl, ?_⟩) (by assumption) ?_
          rotate_left
          · intro w hSw; (try dsimp only at hSw); obtain ⟨hE, hA, k1, k2⟩ := hSw; obtain ⟨e0, e1, e2, e3, e4, e5, e6, e7, e8⟩ := hE.cells; obtain ⟨r0, r1, r2, r3, r4, r5⟩ := cells6 hA; go_simp; try with_reducible rfl
          (try simp only [Act.put, List.setIfInBounds_toArray, List.set_cons_zero, List.set_cons_succ])
          refine wpAnyH_take (i := 3) (oi := { dst := some 60, op := Op.load 2 (Operand.tmp 59), type := 2, pos := "law.go:67", after := #[{ on := 2, ground := Ground.data }], guard := none }) (v := ?_) rfl (by kernel_rfl) (by kernel_rfl) (by kernel_rfl) (fun _ _ _ h => h) (Or.inl ⟨by rfl, ?_⟩) (by assumption) ?_
          rotate_left
          · intro w hSw; (try dsimp only at hSw); obtain ⟨hE, hA, k1, k2⟩ := hSw; obtain ⟨e0, e1, e2, e3, e4, e5, e6, e7, e8⟩ := hE.cells; obtain ⟨r0, r1, r2, r3, r4, r5⟩ := cells6 hA; go_simp; try with_reducible rfl
          (try simp only [Act.put, List.setIfInBounds_toArray, List.set_cons_zero, List.set_cons_succ])
          refine wpAnyH_take (i := 4) (oi := { dst := some 61, op := Op.move (Operand.tmp 8), type := 37, pos := "law.go:67", after := #[], guard := none }) (v := ?_) rfl (by kernel_rfl) (by kernel_rfl) (by kernel_rfl) (fun _ _ _ h => h) (Or.inl ⟨by rfl, ?_⟩) (by assumption) ?_
          rotate_left
          · intro w hSw; (try dsimp only at hSw); obtain ⟨hE, hA, k1, k2⟩ := hSw; obtain ⟨e0, e1, e2, e3, e4, e5, e6, e7, e8⟩ := hE.cells; obtain ⟨r0, r1, r2, r3, r4, r5⟩ := cells6 hA; go_simp; try with_reducible rfl
          (try simp only [Act.put, List.setIfInBounds_toArray, List.set_cons_zero, List.set_cons_succ])
          refine wpAnyH_take (i := 5) (oi := { dst := some 62, op := Op.move (Operand.tmp 10), type := 3, pos := "law.go:67", after := #[], guard := none }) (v := ?_) rfl (by kernel_rfl) (by kernel_rfl) (by kernel_rfl) (fun _ _ _ h => h) (Or.inl ⟨by rfl, ?_⟩) (by assumption) ?_
          rotate_left
          · intro w hSw; (try dsimp only at hSw); obtain ⟨hE, hA, k1, k2⟩ := hSw; obtain ⟨e0, e1, e2, e3, e4, e5, e6, e7, e8⟩ := hE.cells; obtain ⟨r0, r1, r2, r3, r4, r5⟩ := cells6 hA; go_simp; try with_reducible rfl
          (try simp only [Act.put, List.setIfInBounds_toArray, List.set_cons_zero, List.set_cons_succ])
          refine wpAnyH_take (i := 6) (oi := { dst := some 63, op := Op.indexAddr 37 (Operand.tmp 61) (Operand.tmp 62), type := 0, pos := "law.go:67", after := #[{ on := 4, ground := Ground.data }, { on := 5, ground := Ground.data }], guard := none }) (v := ?_) rfl (by kernel_rfl) (by kernel_rfl) (by kernel_rfl) (fun _ _ _ h => h) (Or.inl ⟨by rfl, ?_⟩) (by assumption) ?_
          rotate_left
          · intro w hSw; (try dsimp only at hSw); obtain ⟨hE, hA, k1, k2⟩ := hSw; obtain ⟨e0, e1, e2, e3, e4, e5, e6, e7, e8⟩ := hE.cells; obtain ⟨r0, r1, r2, r3, r4, r5⟩ := cells6 hA; go_simp; try with_reducible rfl
          (try simp only [Act.put, List.setIfInBounds_toArray, List.set_cons_zero, List.set_cons_succ])
          refine wpAnyH_take (i := 7) (oi := { dst := some 64, op := Op.load 2 (Operand.tmp 63), type := 2, pos := "law.go:67", after := #[{ on := 6, ground := Ground.data }], guard := none }) (v := ?_) rfl (by kernel_rfl) (by kernel_rfl) (by kernel_rfl) (fun _ _ _ h => h) (Or.inl ⟨by rfl, ?_⟩) (by assumption) ?_
          rotate_left
          · intro w hSw; (try dsimp only at hSw); obtain ⟨hE, hA, k1, k2⟩ := hSw; obtain ⟨e0, e1, e2, e3, e4, e5, e6, e7, e8⟩ := hE.cells; obtain ⟨r0, r1, r2, r3, r4, r5⟩ := cells6 hA; go_simp; try with_reducible rfl
          (try simp only [Act.put, List.setIfInBounds_toArray, List.set_cons_zero, List.set_cons_succ])
          refine wpAnyH_take (i := 8) (oi := { dst := some 65, op := Op.binOp BinOp.neq 2 (Operand.tmp 60) (Operand.tmp 64) 2, type := 4, pos := "law.go:67", after := #[{ on := 3, ground := Ground.data }, { on := 7, ground := Ground.data }], guard := none }) (v := ?_) rfl (by kernel_rfl) (by kernel_rfl) (by kernel_rfl) (fun _ _ _ h => h) (Or.inl ⟨by rfl, ?_⟩) (by assumption) ?_
          rotate_left
          · intro w hSw; (try dsimp only at hSw); obtain ⟨hE, hA, k1, k2⟩ := hSw; obtain ⟨e0, e1, e2, e3, e4, e5, e6, e7, e8⟩ := hE.cells; obtain ⟨r0, r1, r2, r3, r4, r5⟩ := cells6 hA; go_simp; try with_reducible rfl
          (try simp only [Act.put, List.setIfInBounds_toArray, List.set_cons_zero, List.set_cons_succ])
          refine wpAnyH_take (i := 9) (oi := { dst := some 66, op := Op.move (Operand.tmp 65), type := 4, pos := "law.go:67", after := #[{ on := 8, ground := Ground.data }], guard := none }) (v := ?_) rfl (by kernel_rfl) (by kernel_rfl) (by kernel_rfl) (fun _ _ _ h => h) (Or.inl ⟨by rfl, ?_⟩) (by assumption) ?_
          rotate_left
          · intro w hSw; (try dsimp only at hSw); obtain ⟨hE, hA, k1, k2⟩ := hSw; obtain ⟨e0, e1, e2, e3, e4, e5, e6, e7, e8⟩ := hE.cells; obtain ⟨r0, r1, r2, r3, r4, r5⟩ := cells6 hA; go_simp; try with_reducible rfl
          (try simp only [Act.put, List.setIfInBounds_toArray, List.set_cons_zero, List.set_cons_succ])
          refine wpAnyH_take (i := 10) (oi := { dst := some 67, op := Op.move (Operand.tmp 6), type := 37, pos := "law.go:67", after := #[{ on := 9, ground := Ground.guard }], guard := some (9, false) }) (v := ?_) rfl (by kernel_rfl) (by kernel_rfl) (by kernel_rfl) (fun _ _ _ h => h) (Or.inl ⟨by rfl, ?_⟩) (by assumption) ?_
          rotate_left
          · intro w hSw; (try dsimp only at hSw); obtain ⟨hE, hA, k1, k2⟩ := hSw; obtain ⟨e0, e1, e2, e3, e4, e5, e6, e7, e8⟩ := hE.cells; obtain ⟨r0, r1, r2, r3, r4, r5⟩ := cells6 hA; go_simp; try with_reducible rfl
          (try simp only [Act.put, List.setIfInBounds_toArray, List.set_cons_zero, List.set_cons_succ])
          refine wpAnyH_take (i := 11) (oi := { dst := some 68, op := Op.move (Operand.tmp 10), type := 3, pos := "law.go:67", after := #[{ on := 9, ground := Ground.guard }], guard := some (9, false) }) (v := ?_) rfl (by kernel_rfl) (by kernel_rfl) (by kernel_rfl) (fun _ _ _ h => h) (Or.inl ⟨by rfl, ?_⟩) (by assumption) ?_
          rotate_left
          · intro w hSw; (try dsimp only at hSw); obtain ⟨hE, hA, k1, k2⟩ := hSw; obtain ⟨e0, e1, e2, e3, e4, e5, e6, e7, e8⟩ := hE.cells; obtain ⟨r0, r1, r2, r3, r4, r5⟩ := cells6 hA; go_simp; try with_reducible rfl
          (try simp only [Act.put, List.setIfInBounds_toArray, List.set_cons_zero, List.set_cons_succ])
          refine wpAnyH_take (i := 12) (oi := { dst := some 69, op := Op.indexAddr 37 (Operand.tmp 67) (Operand.tmp 68), type := 0, pos := "law.go:67", after := #[{ on := 10, ground := Ground.data }, { on := 11, ground := Ground.data }, { on := 9, ground := Ground.guard }], guard := some (9, false) }) (v := ?_) rfl (by kernel_rfl) (by kernel_rfl) (by kernel_rfl) (fun _ _ _ h => h) (Or.inl ⟨by rfl, ?_⟩) (by assumption) ?_
          rotate_left
          · intro w hSw; (try dsimp only at hSw); obtain ⟨hE, hA, k1, k2⟩ := hSw; obtain ⟨e0, e1, e2, e3, e4, e5, e6, e7, e8⟩ := hE.cells; obtain ⟨r0, r1, r2, r3, r4, r5⟩ := cells6 hA; go_simp; try with_reducible rfl
          (try simp only [Act.put, List.setIfInBounds_toArray, List.set_cons_zero, List.set_cons_succ])
          refine wpAnyH_take (i := 13) (oi := { dst := some 70, op := Op.load 2 (Operand.tmp 69), type := 2, pos := "law.go:67", after := #[{ on := 12, ground := Ground.data }, { on := 9, ground := Ground.guard }], guard := some (9, false) }) (v := ?_) rfl (by kernel_rfl) (by kernel_rfl) (by kernel_rfl) (fun _ _ _ h => h) (Or.inl ⟨by rfl, ?_⟩) (by assumption) ?_
          rotate_left
          · intro w hSw; (try dsimp only at hSw); obtain ⟨hE, hA, k1, k2⟩ := hSw; obtain ⟨e0, e1, e2, e3, e4, e5, e6, e7, e8⟩ := hE.cells; obtain ⟨r0, r1, r2, r3, r4, r5⟩ := cells6 hA; go_simp; try with_reducible rfl
          (try simp only [Act.put, List.setIfInBounds_toArray, List.set_cons_zero, List.set_cons_succ])
          refine wpAnyH_take (i := 14) (oi := { dst := some 71, op := Op.load 26 (Operand.tmp 2), type := 26, pos := "law.go:67", after := #[{ on := 9, ground := Ground.guard }], guard := some (9, false) }) (v := ?_) rfl (by kernel_rfl) (by kernel_rfl) (by kernel_rfl) (fun _ _ _ h => h) (Or.inl ⟨by rfl, ?_⟩) (by assumption) ?_
          rotate_left
          · intro w hSw; (try dsimp only at hSw); obtain ⟨hE, hA, k1, k2⟩ := hSw; obtain ⟨e0, e1, e2, e3, e4, e5, e6, e7, e8⟩ := hE.cells; obtain ⟨r0, r1, r2, r3, r4, r5⟩ := cells6 hA; go_simp; try with_reducible rfl
          (try simp only [Act.put, List.setIfInBounds_toArray, List.set_cons_zero, List.set_cons_succ])
          refine wpAnyH_take (i := 15) (oi := { dst := some 72, op := Op.load 23 (Operand.tmp 11), type := 23, pos := "law.go:67", after := #[{ on := 9, ground := Ground.guard }], guard := some (9, false) }) (v := ?_) rfl (by kernel_rfl) (by kernel_rfl) (by kernel_rfl) (fun _ _ _ h => h) (Or.inl ⟨by rfl, ?_⟩) (by assumption) ?_
          rotate_left
          · intro w hSw; (try dsimp only at hSw); obtain ⟨hE, hA, k1, k2⟩ := hSw; obtain ⟨e0, e1, e2, e3, e4, e5, e6, e7, e8⟩ := hE.cells; obtain ⟨r0, r1, r2, r3, r4, r5⟩ := cells6 hA; go_simp; try with_reducible rfl
          (try simp only [Act.put, List.setIfInBounds_toArray, List.set_cons_zero, List.set_cons_succ])
          refine wpAnyH_ready (rs := [16]) (by kernel_rfl) (by simp) ?_
          refine AllReadyH.cons (o := { dst := some 73, op := Op.call { callee := Callee.value (Operand.func 18), args := #[Operand.tmp 71, Operand.tmp 72], argTypes := #[26, 23] }, type := 2, pos := "law.go:67", after := #[{ on := 14, ground := Ground.data }, { on := 15, ground := Ground.data }, { on := 9, ground := Ground.chain }, { on := 9, ground := Ground.guard }], guard := some (9, false) }) rfl (fun K hK => ?_) AllReadyH.nil
          go_simp
          refine (CVi.out _ I7.out.below).mono ?_
          rintro ev w8 ⟨rfl, nb⟩
          have I8 := Lib.hid (I7.out.keep nb)
          have D8 := Lib.hid (D7.out.keep nb D7.out.lt)
          have K8 := Lib.hid (show w8.cell? (ad1.add i) = some (.int .i64 xi) ∧ w8.cell? (ad2.add i) = some (.int .i64 xi) from ⟨(nb.cell (p := ad1.add i) (by rw [block_of_add]; exact K7.out.2.2.1)).trans K7.out.1, (nb.cell (p := ad2.add i) (by rw [block_of_add]; exact K7.out.2.2.2)).trans K7.out.2.1⟩)
          have M8 := Lib.hid (And.intro (M7.out.1.keep nb) (M7.out.2.keep nb))
          clear nb I7 D7 K7 M7
          refine hK.out _ _ ?_ (fun hHeld => ?_)
          · exact ⟨I8.out.e, D8.out, K8.out.1, K8.out.2⟩
          clear hK K
          (try simp only [Act.put, List.setIfInBounds_toArray, List.set_cons_zero, List.set_cons_succ])
          refine wpAnyH_take (i := 17) (oi := { dst := some 74, op := Op.binOp BinOp.neq 2 (Operand.tmp 70) (Operand.tmp 73) 2, type := 4, pos := "law.go:67", after := #[{ on := 13, ground := Ground.data }, { on := 16, ground := Ground.data }, { on := 9, ground := Ground.guard }], guard := some (9, false) }) (v := ?_) rfl (by kernel_rfl) (by kernel_rfl) (by kernel_rfl) (fun _ _ _ h => h) (Or.inl ⟨by rfl, ?_⟩) (by assumption) ?_
          rotate_left
          · intro w hSw; (try dsimp only at hSw); obtain ⟨hE, hA, k1, k2⟩ := hSw; obtain ⟨e0, e1, e2, e3, e4, e5, e6, e7, e8⟩ := hE.cells; obtain ⟨r0, r1, r2, r3, r4, r5⟩ := cells6 hA; go_simp; try with_reducible rfl
          (try simp only [Act.put, List.setIfInBounds_toArray, List.set_cons_zero, List.set_cons_succ])
          refine wpAnyH_take (i := 18) (oi := { dst := some 75, op := Op.pick (Operand.tmp 66) (Operand.const (Value.bool true)) (Operand.tmp 74), type := 4, pos := "law.go:67", after := #[{ on := 9, ground := Ground.data }, { on := 17, ground := Ground.data }], guard := none }) (v := ?_) rfl (by kernel_rfl) (by kernel_rfl) (by kernel_rfl) (fun _ _ _ h => h) (Or.inl ⟨by rfl, ?_⟩) (by assumption) ?_
          rotate_left
          · intro w hSw; (try dsimp only at hSw); obtain ⟨hE, hA, k1, k2⟩ := hSw; obtain ⟨e0, e1, e2, e3, e4, e5, e6, e7, e8⟩ := hE.cells; obtain ⟨r0, r1, r2, r3, r4, r5⟩ := cells6 hA; go_simp; try with_reducible rfl
          (try simp only [Act.put, List.setIfInBounds_toArray, List.set_cons_zero, List.set_cons_succ])
          refine wpAnyH_done (by kernel_rfl) ?_ _
          clear hHeld
          go_wp2
          go_roundw
          case rel => exact ⟨i + 1, hlt, by go_num, I8.out, M8.out.1, M8.out.2⟩
          case measure => simp [intOf]; omega
        · have hin : i = n2 := by omega
          clear hin
          by_cases he : er = 0
          · subst he
            have COi := Lib.hid (CO.out _ _ _ _ _ LL.out.1)
            rw [TM.out rfl] at COi
            have I6 := I6'
            obtain ⟨r0, r1, r2, r3, r4, r5⟩ := cells6 I6.out.q
            go_wp2_with fail
            refine COi.out.mono ?_
            rintro ev w6 ⟨rfl, nb⟩
            have I8 := Lib.hid (I6.out.keep nb)
            clear nb I6 I6' COi r0 r1 r2 r3 r4 r5
            go_wp2_with fail
            refine (AW.out _).mono ?_
            rintro ev w9 ⟨rfl, nb⟩
            have J9 := Lib.hid (I8.out.keep nb)
            clear nb
            go_wp2
            go_ret
            exact ⟨rfl, J9.out.below⟩
          · have hne : (er == 0) = false := beq_eq_false_iff_ne.2 he
            have I8 := I6'
            go_wp2_with fail
            refine (AW.out _).mono ?_
            rintro ev w9 ⟨rfl, nb⟩
            have J9 := Lib.hid (I8.out.keep nb)
            clear nb
            go_wp2
            go_ret
            exact ⟨rfl, J9.out.below⟩
  · have hfw : VV.few N = false := by simpa using hfw
    rw [hfw] at CF
    clear HV HT HR HS
    go_wp2_with fail
    refine (CF.out _ I2.out.below).mono ?_
    rintro ev w3 ⟨rfl, nb⟩
    have I3 := Lib.hid (I2.out.keep nb)
    clear nb I2 CF e0 e1 e2 e3 e4 e5 e6 e7 e8
    go_wp2_with fail
    refine (AW.out _).mono ?_
    rintro ev w9 ⟨rfl, nb⟩
    have J9 := Lib.hid (I3.out.keep nb)
    clear nb
    go_wp2
    go_ret
    exact ⟨rfl, J9.out.below⟩
end Go.Proofs.Ytgknggighpjcdaa
