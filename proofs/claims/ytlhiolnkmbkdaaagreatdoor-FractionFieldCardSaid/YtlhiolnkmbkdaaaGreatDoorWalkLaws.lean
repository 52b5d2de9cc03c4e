/- The walk of FractionField: no claim of its own. -/
import Derived.Test.YtlhiolnkmbkdaaaGreatDoorWalkField
import Derived.Test.YtlhiolnkmbkdaaaGreatDoorRValid
namespace Go.Proofs.YtlhiolnkmbkdaaaGreatDoor
open Go.RowKit
set_option maxRecDepth 100000 in
set_option maxHeartbeats 2000000 in
theorem field_no (s s' s'' : Bool) (A B A' B' A'' B'' : Option Addr) (n c m d n' c' m' d' n'' c'' m'' d'' : Nat) (w : World) (b1 b2 b3 : Bool) (hb12 : b1 = false ∨ (b1 = true ∧ b2 = false) ∨ (b1 = true ∧ b2 = true ∧ b3 = false))
    (V1 : Hid (∀ w', Below w.heap.size w w' → Calls Tryz.prog 8 #[.agg #[.bool s, .slice A n c, .slice B m d]] w' (Gives (.bool b1) w'))) (V2 : Hid (∀ w', Below w.heap.size w w' → Calls Tryz.prog 8 #[.agg #[.bool s', .slice A' n' c', .slice B' m' d']] w' (Gives (.bool b2) w'))) (V3 : Hid (∀ w', Below w.heap.size w w' → Calls Tryz.prog 8 #[.agg #[.bool s'', .slice A'' n'' c'', .slice B'' m'' d'']] w' (Gives (.bool b3) w'))) :
    Calls Tryz.prog 3 #[.agg #[.bool s, .slice A n c, .slice B m d], .agg #[.bool s', .slice A' n' c', .slice B' m' d'], .agg #[.bool s'', .slice A'' n'' c'', .slice B'' m'' d'']] w (Gives (.bool true) w) := by
  have b1_ := below_alloc w (.cells #[.bool s, .slice A n c, .slice B m d] 25)
  have b2_ := b1_.alloc b1_.size (.cells #[.bool s', .slice A' n' c', .slice B' m' d'] 25)
  have B0 := b2_.alloc b2_.size (.cells #[.bool s'', .slice A'' n'' c'', .slice B'' m'' d''] 25)
  have H0 := ((FB.new w s A n c B m d).alloc (.cells #[.bool s', .slice A' n' c', .slice B' m' d'] 25)).alloc (.cells #[.bool s'', .slice A'' n'' c'', .slice B'' m'' d''] 25)
  have K0 := (FB.new_ (w.alloc (.cells #[.bool s, .slice A n c, .slice B m d] 25)) (show _ = w.heap.size + 1 by simp) s' A' n' c' B' m' d').alloc (.cells #[.bool s'', .slice A'' n'' c'', .slice B'' m'' d''] 25)
  have L0 := FB.new_ ((w.alloc (.cells #[.bool s, .slice A n c, .slice B m d] 25)).alloc (.cells #[.bool s', .slice A' n' c', .slice B' m' d'] 25)) (show _ = w.heap.size + 1 + 1 by simp) s'' A'' n'' c'' B'' m'' d''
  have J5 := Lib.hid awake2
  clear b1_ b2_
  obtain ⟨Ha, Hb, Hc, _, _, _⟩ := H0.facts
  obtain ⟨Ka, Kb, Kc, _, _, _⟩ := K0.facts
  obtain ⟨La, Lb, Lc, _, _, _⟩ := L0.facts
  rcases hb12 with rfl | ⟨rfl, rfl⟩ | ⟨rfl, rfl, rfl⟩
  · go_enter Tryz.func3, Tryz.ntmps3
    go_wp2_with fail
    refine (V1.out _ B0).mono ?_
    rintro e w1 ⟨rfl, hb⟩
    replace H0 := H0.keep hb
    replace K0 := K0.keep hb
    replace L0 := L0.keep hb
    replace B0 := B0.trans (hb.mono B0.size)
    clear hb Ha Hb Hc Ka Kb Kc La Lb Lc
    obtain ⟨Ha, Hb, Hc, _, _, _⟩ := H0.facts
    obtain ⟨Ka, Kb, Kc, _, _, _⟩ := K0.facts
    obtain ⟨La, Lb, Lc, _, _, _⟩ := L0.facts
    go_wp2_with fail
    refine (J5.out _).mono ?_
    rintro e w9 ⟨rfl, hb⟩
    replace B0 := B0.trans (hb.mono B0.size)
    clear hb H0 K0 L0 Ha Hb Hc Ka Kb Kc La Lb Lc
    go_wp2
    go_ret
    exact ⟨rfl, B0⟩
  · go_enter Tryz.func3, Tryz.ntmps3
    go_wp2_with fail
    refine (V1.out _ B0).mono ?_
    rintro e w1 ⟨rfl, hb⟩
    replace H0 := H0.keep hb
    replace K0 := K0.keep hb
    replace L0 := L0.keep hb
    replace B0 := B0.trans (hb.mono B0.size)
    clear hb Ha Hb Hc Ka Kb Kc La Lb Lc
    obtain ⟨Ha, Hb, Hc, _, _, _⟩ := H0.facts
    obtain ⟨Ka, Kb, Kc, _, _, _⟩ := K0.facts
    obtain ⟨La, Lb, Lc, _, _, _⟩ := L0.facts
    go_wp2_with fail
    refine (V2.out _ B0).mono ?_
    rintro e w2 ⟨rfl, hb⟩
    replace H0 := H0.keep hb
    replace K0 := K0.keep hb
    replace L0 := L0.keep hb
    replace B0 := B0.trans (hb.mono B0.size)
    clear hb Ha Hb Hc Ka Kb Kc La Lb Lc
    obtain ⟨Ha, Hb, Hc, _, _, _⟩ := H0.facts
    obtain ⟨Ka, Kb, Kc, _, _, _⟩ := K0.facts
    obtain ⟨La, Lb, Lc, _, _, _⟩ := L0.facts
    go_wp2_with fail
    refine (J5.out _).mono ?_
    rintro e w9 ⟨rfl, hb⟩
    replace B0 := B0.trans (hb.mono B0.size)
    clear hb H0 K0 L0 Ha Hb Hc Ka Kb Kc La Lb Lc
    go_wp2
    go_ret
    exact ⟨rfl, B0⟩
  · go_enter Tryz.func3, Tryz.ntmps3
    go_wp2_with fail
    refine (V1.out _ B0).mono ?_
    rintro e w1 ⟨rfl, hb⟩
    replace H0 := H0.keep hb
    replace K0 := K0.keep hb
    replace L0 := L0.keep hb
    replace B0 := B0.trans (hb.mono B0.size)
    clear hb Ha Hb Hc Ka Kb Kc La Lb Lc
    obtain ⟨Ha, Hb, Hc, _, _, _⟩ := H0.facts
    obtain ⟨Ka, Kb, Kc, _, _, _⟩ := K0.facts
    obtain ⟨La, Lb, Lc, _, _, _⟩ := L0.facts
    go_wp2_with fail
    refine (V2.out _ B0).mono ?_
    rintro e w2 ⟨rfl, hb⟩
    replace H0 := H0.keep hb
    replace K0 := K0.keep hb
    replace L0 := L0.keep hb
    replace B0 := B0.trans (hb.mono B0.size)
    clear hb Ha Hb Hc Ka Kb Kc La Lb Lc
    obtain ⟨Ha, Hb, Hc, _, _, _⟩ := H0.facts
    obtain ⟨Ka, Kb, Kc, _, _, _⟩ := K0.facts
    obtain ⟨La, Lb, Lc, _, _, _⟩ := L0.facts
    go_wp2_with fail
    refine (V3.out _ B0).mono ?_
    rintro e w3 ⟨rfl, hb⟩
    replace H0 := H0.keep hb
    replace K0 := K0.keep hb
    replace L0 := L0.keep hb
    replace B0 := B0.trans (hb.mono B0.size)
    clear hb Ha Hb Hc Ka Kb Kc La Lb Lc
    obtain ⟨Ha, Hb, Hc, _, _, _⟩ := H0.facts
    obtain ⟨Ka, Kb, Kc, _, _, _⟩ := K0.facts
    obtain ⟨La, Lb, Lc, _, _, _⟩ := L0.facts
    go_wp2_with fail
    refine (J5.out _).mono ?_
    rintro e w9 ⟨rfl, hb⟩
    replace B0 := B0.trans (hb.mono B0.size)
    clear hb H0 K0 L0 Ha Hb Hc Ka Kb Kc La Lb Lc
    go_wp2
    go_ret
    exact ⟨rfl, B0⟩
/-- The main way, of three fractions that are not long. -/
theorem field_yes (X Y Z : Fr) (hX : Bd X 20) (hY : Bd Y 20) (hZ : Bd Z 20) (A B A' B' A'' B'' : Option Addr) (n c m d n' c' m' d' n'' c'' m'' d'' : Nat) (xs ys xs' ys' xs'' ys'' : List Nat) (w : World) (hx : Num w A n c xs X.p) (hy : Num w B m d ys X.q) (hx' : Num w A' n' c' xs' Y.p) (hy' : Num w B' m' d' ys' Y.q) (hx'' : Num w A'' n'' c'' xs'' Z.p) (hy'' : Num w B'' m'' d'' ys'' Z.q)
    (V1 : Hid (∀ w', Below w.heap.size w w' → Calls Tryz.prog 8 #[.agg #[.bool X.s, .slice A n c, .slice B m d]] w' (Gives (.bool true) w'))) (V2 : Hid (∀ w', Below w.heap.size w w' → Calls Tryz.prog 8 #[.agg #[.bool Y.s, .slice A' n' c', .slice B' m' d']] w' (Gives (.bool true) w'))) (V3 : Hid (∀ w', Below w.heap.size w w' → Calls Tryz.prog 8 #[.agg #[.bool Z.s, .slice A'' n'' c'', .slice B'' m'' d'']] w' (Gives (.bool true) w'))) :
    Calls Tryz.prog 3 #[.agg #[.bool X.s, .slice A n c, .slice B m d], .agg #[.bool Y.s, .slice A' n' c', .slice B' m' d'], .agg #[.bool Z.s, .slice A'' n'' c'', .slice B'' m'' d'']] w (Gives (.bool true) w) := by
  have S0 := hX.add hY
  have P0 := hX.mul hY
  have V0 := hY.add hZ
  have N0 := hX.neg
  have R0 := hY.mul hZ
  have K0 := hX.mul hZ
  have bX := hX.mono (j := 100) (by decide)
  have bY := hY.mono (j := 100) (by decide)
  have bZ := hZ.mono (j := 100) (by decide)
  have bS := S0.mono (j := 100) (by decide)
  have bP := P0.mono (j := 100) (by decide)
  have bV := V0.mono (j := 100) (by decide)
  have bN := N0.mono (j := 100) (by decide)
  have bR := R0.mono (j := 100) (by decide)
  have bK := K0.mono (j := 100) (by decide)
  have main := fun (D : Fr) (k : Int) (CD : Hid (OpE 17 (Fr.mul X Y) Y D k)) (hk : (sgn Y.s Y.p = 0 ∧ k = 8) ∨ ((sgn Y.s Y.p == 0) = false ∧ k = 0 ∧ D = X)) =>
    field_main X Y Z (Fr.add X Y) (Fr.mul X Y) (Fr.add (Fr.add X Y) Z) (Fr.add Y Z) (Fr.mul (Fr.add X Y) Z) (Fr.neg X) (Fr.mul (Fr.mul X Y) Z) (Fr.mul Y Z) (Fr.mul X Z) D k (sgn Y.s Y.p) A B A' B' A'' B'' n c m d n' c' m' d' n'' c'' m'' d'' xs ys xs' ys' xs'' ys'' w hx hy hx' hy' hx'' hy'' V1 V2 V3
      (opAdd bX bY rfl) (opAdd bY bX (Fr.add_comm Y X)) (opAdd bS bZ rfl) (opAdd bY bZ rfl) (opAdd bX bV (Fr.add_assoc hX.ok hY.ok hZ.ok).symm) (opAdd bK bR (Fr.distrib hX.ok hY.ok hZ.ok).symm) (opAdd bX bN (Fr.add_neg_self hX.ok))
      (opMul bX bY rfl) (opMul bY bX (Fr.mul_comm Y X)) (opMul bP bZ rfl) (opMul bY bZ rfl) (opMul bX bR (Fr.mul_assoc hX.ok hY.ok hZ.ok).symm) (opMul bS bZ rfl) (opMul bX bZ rfl)
      (opSub bS bY (Fr.sub_add hX.ok hY.ok)) (opValid bS) (opValid bP) (opNeg bX) opZero CD (opSign bY) hk
  rcases Nat.eq_zero_or_pos Y.p with h0 | h0
  · exact main _ _ (opDiv0 bY h0) (.inl ⟨by unfold sgn; rw [if_pos h0], rfl⟩)
  · refine main _ _ (opDiv bP bY h0 (Fr.mul_div hX.ok hY.ok h0)) (.inr ⟨?_, rfl, rfl⟩)
    unfold sgn
    rw [if_neg (by omega)]
    split <;> rfl
theorem field_walk (s : Bool) (A : Option Addr) (n c : Nat) (z0 : List Int) (B : Option Addr) (m d : Nat) (z1 : List Int) (s' : Bool) (A' : Option Addr) (n' c' : Nat) (z2 : List Int) (B' : Option Addr) (m' d' : Nat) (z3 : List Int) (s'' : Bool) (A'' : Option Addr) (n'' c'' : Nat) (z4 : List Int) (B'' : Option Addr) (m'' d'' : Nat) (z5 : List Int) (w : World) (w0 : IsRow .u32 w A n c z0) (w1 : IsRow .u32 w B m d z1) (w2 : IsRow .u32 w A' n' c' z2) (w3 : IsRow .u32 w B' m' d' z3) (w4 : IsRow .u32 w A'' n'' c'' z4) (w5 : IsRow .u32 w B'' m'' d'' z5) :
    Calls Tryz.prog 3 #[.agg #[.bool s, .slice A n c, .slice B m d], .agg #[.bool s', .slice A' n' c', .slice B' m' d'], .agg #[.bool s'', .slice A'' n'' c'', .slice B'' m'' d'']] w (Gives (.bool true) w) := by
  obtain ⟨b1, hb1, v1⟩ := IsRow.short (s := s) w0 w1
  obtain ⟨b2, hb2, v2⟩ := IsRow.short (s := s') w2 w3
  obtain ⟨b3, hb3, v3⟩ := IsRow.short (s := s'') w4 w5
  rcases Bool.eq_false_or_eq_true b1 with h1 | h1
  · rcases Bool.eq_false_or_eq_true b2 with h2 | h2
    · rcases Bool.eq_false_or_eq_true b3 with h3 | h3
      · subst h1; subst h2; subst h3
        obtain ⟨l1, l2, xs, ys, p, q, hx, hy, ok⟩ := hb1 rfl
        obtain ⟨l3, l4, xs', ys', p', q', hx', hy', ok'⟩ := hb2 rfl
        obtain ⟨l5, l6, xs'', ys'', p'', q'', hx'', hy'', ok''⟩ := hb3 rfl
        exact field_yes ⟨s, p, q⟩ ⟨s', p', q'⟩ ⟨s'', p'', q''⟩ ⟨hx.below l1, hy.below l2, ok⟩ ⟨hx'.below l3, hy'.below l4, ok'⟩ ⟨hx''.below l5, hy''.below l6, ok''⟩ A B A' B' A'' B'' n c m d n' c' m' d' n'' c'' m'' d'' xs ys xs' ys' xs'' ys'' w hx hy hx' hy' hx'' hy'' (Lib.hid v1) (Lib.hid v2) (Lib.hid v3)
      · exact field_no s s' s'' A B A' B' A'' B'' n c m d n' c' m' d' n'' c'' m'' d'' w b1 b2 b3 (.inr (.inr ⟨h1, h2, h3⟩)) (Lib.hid v1) (Lib.hid v2) (Lib.hid v3)
    · exact field_no s s' s'' A B A' B' A'' B'' n c m d n' c' m' d' n'' c'' m'' d'' w b1 b2 b3 (.inr (.inl ⟨h1, h2⟩)) (Lib.hid v1) (Lib.hid v2) (Lib.hid v3)
  · exact field_no s s' s'' A B A' B' A'' B'' n c m d n' c' m' d' n'' c'' m'' d'' w b1 b2 b3 (.inl h1) (Lib.hid v1) (Lib.hid v2) (Lib.hid v3)
end Go.Proofs.YtlhiolnkmbkdaaaGreatDoor
