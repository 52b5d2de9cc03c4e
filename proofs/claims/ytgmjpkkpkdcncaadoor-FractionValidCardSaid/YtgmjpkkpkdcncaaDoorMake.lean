/- Contracts of fraction.magnitude, Make, New, FromInt: no claim of its own. -/
import Derived.Test.YtgmjpkkpkdcncaaDoorClone
namespace Go.Proofs.YtgmjpkkpkdcncaaDoor
open Go.RowKit
theorem giveFrE {W w2 : World} {g : Nat} {t : Fr} {k : Int} {z : Bool} {X Y A B : Option Addr} {x1 x2 y1 y2 n c m d : Nat} {xs ys : List Nat} (hb : Below W.heap.size W w2) (hg : W.heap.size ≤ g) (b : FB w2 g z X x1 x2 Y y1 y2) (N1 : Num w2 A n c xs t.p) (N2 : Num w2 B m d ys t.q) :
    GivesFrE t k W (.returned (.tuple #[.agg #[.bool t.s, .slice A n c, .slice B m d], .int .i64 k])) (stFr w2 g t.s A n c B m d) :=
  ⟨A, n, c, xs, B, m, d, ys, rfl, N1.grown b (grown_st _ _ _ _ _ _ _ _ _), N2.grown b (grown_st _ _ _ _ _ _ _ _ _), hb.trans (grown_below (grown_st _ _ _ _ _ _ _ _ _) hg hb.size)⟩
theorem GivesFrE.eq {t u : Fr} (h : t = u) {k : Int} {w w' : World} {e : Ending} (g : GivesFrE t k w e w') : GivesFrE u k w e w' := h ▸ g
theorem GivesFr.eq {t u : Fr} (h : t = u) {w w' : World} {e : Ending} (g : GivesFr t w e w') : GivesFr u w e w' := h ▸ g
set_option maxRecDepth 100000 in
set_option maxHeartbeats 400000 in
theorem magnitude_any (z : Int) (h0 : -9223372036854775808 ≤ z) (h1 : z ≤ 9223372036854775807) (w : World) :
    Calls Tryd.prog 71 #[.int .i64 z] w (GivesNum z.natAbs w) := by
  by_cases hz : z < 0
  · obtain ⟨M, hM⟩ : ∃ M, z.natAbs = M := ⟨_, rfl⟩
    have C := Lib.hid (fun w' => fromUint_any M (by omega) w')
    have e1 : IntKind.u64.wrap (-(z + 18446744073709551616)) = (M : Int) := by rw [IntKind.wrap_u64]; omega
    have e2 : IntKind.u64.wrap z = z + 18446744073709551616 := by rw [IntKind.wrap_u64]; omega
    rw [hM]
    clear hM
    go_enter Tryd.func71, Tryd.ntmps71
    go_wp2_with fail
    refine (C.out _).mono ?_
    rintro e w1 ⟨A1, n1, c1, x1, rfl, hn, hb⟩
    have G : Hid (GivesNum M w (.returned (.slice A1 n1 c1)) w1) := Lib.hid ⟨_, _, _, _, rfl, hn, hb⟩
    clear hn hb
    go_wp2
    go_ret
    exact G.out
  · have hz0 : 0 ≤ z := by omega
    have C := Lib.hid (fun w' => fromUint_int z hz0 (by omega) w')
    have e : Hid (z.toNat = z.natAbs) := Lib.hid (by omega)
    go_enter Tryd.func71, Tryd.ntmps71
    go_wp2_with fail
    refine (C.out _).mono ?_
    rintro e w1 ⟨A1, n1, c1, x1, rfl, hn, hb⟩
    have G : Hid (GivesNum z.natAbs w (.returned (.slice A1 n1 c1)) w1) := Lib.hid ⟨_, _, _, _, rfl, hn.to e.out, hb⟩
    clear hn hb
    go_wp2
    go_ret
    exact G.out
theorem quotient_s {A B : Option Addr} {n c m d a b i j : Nat} {xs ys : List Nat} {w : World} (hx : Num w A n c xs a) (hy : Num w B m d ys b) (h0 : 0 < b) (ha : a < 4294967296 ^ i) (hb : b < 4294967296 ^ j) (hi : i ≤ 900000) (hj : j ≤ 900000) :
    Calls Tryd.prog 78 #[.slice A n c, .slice B m d] w (GivesNum (a / b) w) := quotient_any A B n c m d a b xs ys w hx hy h0 (hx.sh ha hi) (hy.sh hb hj)
theorem gcd_s {A B : Option Addr} {n c m d a b i j : Nat} {xs ys : List Nat} {w : World} (hx : Num w A n c xs a) (hy : Num w B m d ys b) (ha : a < 4294967296 ^ i) (hb : b < 4294967296 ^ j) (hi : i ≤ 900000) (hj : j ≤ 900000) :
    Calls Tryd.prog 17 #[.slice A n c, .slice B m d] w (GivesNum (Nat.gcd a b) w) := gcd_any A B n c m d a b xs ys w hx hy (hx.sh ha hi) (hy.sh hb hj)
theorem gcd_pw {a b i : Nat} (ha : a < 4294967296 ^ i) (hb : b < 4294967296 ^ i) : Nat.gcd a b < 4294967296 ^ i := by
  rcases Nat.eq_zero_or_pos a with h | h
  · rw [h, Nat.gcd_zero_left]; exact hb
  · exact pw_le (Nat.gcd_le_left _ h) ha
theorem gcd_pwr {a b j : Nat} (hb : b < 4294967296 ^ j) (h0 : 0 < b) : Nat.gcd a b < 4294967296 ^ j := pw_le (Nat.gcd_le_right _ h0) hb
theorem isZero_s {A : Option Addr} {n c a i : Nat} {xs : List Nat} {w : World} (h : Num w A n c xs a) (ha : a < 4294967296 ^ i) (hi : i ≤ 900000) {b : Bool} (hb : decide (a = 0) = b) :
    Calls Tryd.prog 61 #[.slice A n c] w fun e w' => e = .returned (.bool b) ∧ w = w' := isZero_any A n c a xs w h (h.sh ha (by omega)) b hb
theorem cloneFr_s {s : Bool} {A B : Option Addr} {n c m d p q i j : Nat} {xs ys : List Nat} {w : World} (hx : Num w A n c xs p) (hy : Num w B m d ys q) (hp : p < 4294967296 ^ i) (hq : q < 4294967296 ^ j) (hi : i ≤ 900000) (hj : j ≤ 900000) :
    Calls Tryd.prog 73 #[.agg #[.bool s, .slice A n c, .slice B m d]] w (GivesFr ⟨s, p, q⟩ w) := cloneFr_any s A B n c m d p q xs ys w hx hy (hx.sh hp hi) (hy.sh hq hj)
set_option maxRecDepth 100000 in
set_option maxHeartbeats 1000000 in
theorem make_false (A B : Option Addr) (n c m d p q : Nat) (xs ys : List Nat) (w : World) (hx : Num w A n c xs p) (hy : Num w B m d ys q) (hq : 0 < q) (hn : n ≤ 900000) (hm : m ≤ 900000) :
    Calls Tryd.prog 70 #[.bool false, .slice A n c, .slice B m d] w (GivesFrE (Fr.mk' false p q) 0 w) := by
  have hp1 := Lib.hid hx.lt_pow
  have hq1 := Lib.hid hy.lt_pow
  have HQ := Lib.hid hq
  have b0 := (Below.refl w.heap.size w).alloc (Nat.le_refl _) (.cells #[.bool false, .slice none 0 0, .slice none 0 0] 41)
  have P0 := Lib.hid (hx.keep b0)
  have Q0 := Lib.hid (hy.keep b0)
  have R0 := Lib.hid (FB.new w false none 0 0 none 0 0)
  have B0 := Lib.hid b0
  have G0 := Lib.hid (Nat.gcd_pos_of_pos_right p hq)
  have gq := Lib.hid (gcd_pwr (a := p) hy.lt_pow hq)
  obtain ⟨zb, hzb⟩ : ∃ zb, decide (p = 0) = zb := ⟨_, rfl⟩
  have HZ := Lib.hid hzb
  have sgn : Hid ((Fr.mk' false p q).s = false) := Lib.hid (by
    simp only [Fr.mk']
    rfl)
  have z1 : Hid (decide (q = 0) = false) := Lib.hid (decide_eq_false (by omega))
  have l1 := Lib.hid (pw_le (Nat.div_le_self p (Nat.gcd p q)) hx.lt_pow)
  have l2 := Lib.hid (pw_le (Nat.div_le_self q (Nat.gcd p q)) hy.lt_pow)
  clear hx hy hq b0 hzb
  go_enter Tryd.func70, Tryd.ntmps70
  go_wp2_with fail
  refine (isZero_s Q0.out hq1.out hm z1.out).mono ?_
  rintro e w' ⟨rfl, rfl⟩
  go_wp2_with fail
  refine (gcd_s P0.out Q0.out hp1.out hq1.out hn hm).mono ?_
  rintro e w1 ⟨A1, n1, c1, x1, rfl, hN, hb⟩
  have C1 := Lib.hid hN
  have P1 := Lib.hid (P0.out.keep hb)
  have Q1 := Lib.hid (Q0.out.keep hb)
  have R1 := Lib.hid (R0.out.keep hb)
  have B1 := Lib.hid (B0.out.trans (hb.mono B0.out.size))
  clear hN hb P0 Q0 R0 B0
  go_wp2_with fail
  refine (quotient_s P1.out C1.out G0.out hp1.out gq.out hn hm).mono ?_
  rintro e w2 ⟨A2, n2, c2, x2, rfl, hN, hb⟩
  have X2 := Lib.hid hN
  have C2 := Lib.hid (C1.out.keep hb)
  have Q2 := Lib.hid (Q1.out.keep hb)
  have R2 := Lib.hid (R1.out.keep hb)
  have B2 := Lib.hid (B1.out.trans (hb.mono B1.out.size))
  clear hN hb P1 Q1 R1 B1 C1
  go_wp2_with fail
  refine (quotient_s Q2.out C2.out G0.out hq1.out gq.out hm hm).mono ?_
  rintro e w3 ⟨A3, n3, c3, x3, rfl, hN, hb⟩
  have Y3 := Lib.hid hN
  have X3 := Lib.hid (X2.out.keep hb)
  have R3 := Lib.hid (R2.out.keep hb)
  have B3 := Lib.hid (B2.out.trans (hb.mono B2.out.size))
  clear hN hb C2 Q2 R2 B2 X2
  have TE : Hid ((⟨false, p / Nat.gcd p q, q / Nat.gcd p q⟩ : Fr) = Fr.mk' false p q) := Lib.hid (by rw [← sgn.out]; rfl)
  have ba := (Below.refl w3.heap.size w3).alloc (Nat.le_refl _) (.cells #[.bool false, .slice A2 n2 c2, .slice A3 n3 c3] 41)
  have CL := Lib.hid (cloneFr_s (s := false) (X3.out.keep ba) (Y3.out.keep ba) l1.out l2.out hn hm)
  have R4 := Lib.hid (R3.out.keep ba)
  have B4 := Lib.hid (B3.out.trans (ba.mono B3.out.size))
  clear X3 Y3 R3 B3 ba sgn
  go_wp2_with fail
  refine CL.out.mono ?_
  rintro e w4 ⟨A4, n4, c4, x4, A5, n5, c5, x5, rfl, hN4, hN5, hb⟩
  have N4 := Lib.hid hN4
  have N5 := Lib.hid hN5
  have R5 := Lib.hid (R4.out.keep hb)
  have B5 := Lib.hid (B4.out.trans (hb.mono B4.out.size))
  obtain ⟨r0, r1, r2, f0, f1, f2⟩ := R5.out.facts
  clear hN4 hN5 hb R4 B4 CL
  go_wp2
  refine bodyPost_ret (v := .tuple #[.agg #[.bool false, .slice A4 n4 c4, .slice A5 n5 c5], .int .i64 0]) (by simp [results, Tryd.results70, go_sem, r0, r1, r2]) rfl ?_
  refine GivesFrE.eq TE.out ?_
  exact giveFrE (t := ⟨false, _, _⟩) B5.out (Nat.le_refl _) R5.out N4.out N5.out
set_option maxRecDepth 100000 in
set_option maxHeartbeats 1000000 in
theorem make_true (A B : Option Addr) (n c m d p q : Nat) (xs ys : List Nat) (w : World) (hx : Num w A n c xs p) (hy : Num w B m d ys q) (hq : 0 < q) (hn : n ≤ 900000) (hm : m ≤ 900000) :
    Calls Tryd.prog 70 #[.bool true, .slice A n c, .slice B m d] w (GivesFrE (Fr.mk' true p q) 0 w) := by
  have hp1 := Lib.hid hx.lt_pow
  have hq1 := Lib.hid hy.lt_pow
  have HQ := Lib.hid hq
  have b0 := (Below.refl w.heap.size w).alloc (Nat.le_refl _) (.cells #[.bool false, .slice none 0 0, .slice none 0 0] 41)
  have P0 := Lib.hid (hx.keep b0)
  have Q0 := Lib.hid (hy.keep b0)
  have R0 := Lib.hid (FB.new w false none 0 0 none 0 0)
  have B0 := Lib.hid b0
  have G0 := Lib.hid (Nat.gcd_pos_of_pos_right p hq)
  have gq := Lib.hid (gcd_pwr (a := p) hy.lt_pow hq)
  obtain ⟨zb, hzb⟩ : ∃ zb, decide (p = 0) = zb := ⟨_, rfl⟩
  have HZ := Lib.hid hzb
  have sgn : Hid ((Fr.mk' true p q).s = !zb) := Lib.hid (by
    simp only [Fr.mk']
    rw [← hzb]; by_cases h : p = 0 <;> simp [h]; omega)
  have z1 : Hid (decide (q = 0) = false) := Lib.hid (decide_eq_false (by omega))
  have l1 := Lib.hid (pw_le (Nat.div_le_self p (Nat.gcd p q)) hx.lt_pow)
  have l2 := Lib.hid (pw_le (Nat.div_le_self q (Nat.gcd p q)) hy.lt_pow)
  clear hx hy hq b0 hzb
  go_enter Tryd.func70, Tryd.ntmps70
  go_wp2_with fail
  refine (isZero_s Q0.out hq1.out hm z1.out).mono ?_
  rintro e w' ⟨rfl, rfl⟩
  go_wp2_with fail
  refine (gcd_s P0.out Q0.out hp1.out hq1.out hn hm).mono ?_
  rintro e w1 ⟨A1, n1, c1, x1, rfl, hN, hb⟩
  have C1 := Lib.hid hN
  have P1 := Lib.hid (P0.out.keep hb)
  have Q1 := Lib.hid (Q0.out.keep hb)
  have R1 := Lib.hid (R0.out.keep hb)
  have B1 := Lib.hid (B0.out.trans (hb.mono B0.out.size))
  clear hN hb P0 Q0 R0 B0
  go_wp2_with fail
  refine (isZero_s P1.out hp1.out hn HZ.out).mono ?_
  rintro e w' ⟨rfl, rfl⟩
  go_wp2_with fail
  refine (quotient_s P1.out C1.out G0.out hp1.out gq.out hn hm).mono ?_
  rintro e w2 ⟨A2, n2, c2, x2, rfl, hN, hb⟩
  have X2 := Lib.hid hN
  have C2 := Lib.hid (C1.out.keep hb)
  have Q2 := Lib.hid (Q1.out.keep hb)
  have R2 := Lib.hid (R1.out.keep hb)
  have B2 := Lib.hid (B1.out.trans (hb.mono B1.out.size))
  clear hN hb P1 Q1 R1 B1 C1
  go_wp2_with fail
  refine (quotient_s Q2.out C2.out G0.out hq1.out gq.out hm hm).mono ?_
  rintro e w3 ⟨A3, n3, c3, x3, rfl, hN, hb⟩
  have Y3 := Lib.hid hN
  have X3 := Lib.hid (X2.out.keep hb)
  have R3 := Lib.hid (R2.out.keep hb)
  have B3 := Lib.hid (B2.out.trans (hb.mono B2.out.size))
  clear hN hb C2 Q2 R2 B2 X2
  have TE : Hid ((⟨(!zb), p / Nat.gcd p q, q / Nat.gcd p q⟩ : Fr) = Fr.mk' true p q) := Lib.hid (by rw [← sgn.out]; rfl)
  have ba := (Below.refl w3.heap.size w3).alloc (Nat.le_refl _) (.cells #[.bool (!zb), .slice A2 n2 c2, .slice A3 n3 c3] 41)
  have CL := Lib.hid (cloneFr_s (s := (!zb)) (X3.out.keep ba) (Y3.out.keep ba) l1.out l2.out hn hm)
  have R4 := Lib.hid (R3.out.keep ba)
  have B4 := Lib.hid (B3.out.trans (ba.mono B3.out.size))
  clear X3 Y3 R3 B3 ba sgn
  go_wp2_with fail
  refine CL.out.mono ?_
  rintro e w4 ⟨A4, n4, c4, x4, A5, n5, c5, x5, rfl, hN4, hN5, hb⟩
  have N4 := Lib.hid hN4
  have N5 := Lib.hid hN5
  have R5 := Lib.hid (R4.out.keep hb)
  have B5 := Lib.hid (B4.out.trans (hb.mono B4.out.size))
  obtain ⟨r0, r1, r2, f0, f1, f2⟩ := R5.out.facts
  clear hN4 hN5 hb R4 B4 CL
  go_wp2
  refine bodyPost_ret (v := .tuple #[.agg #[.bool (!zb), .slice A4 n4 c4, .slice A5 n5 c5], .int .i64 0]) (by simp [results, Tryd.results70, go_sem, r0, r1, r2]) rfl ?_
  refine GivesFrE.eq TE.out ?_
  exact giveFrE (t := ⟨(!zb), _, _⟩) B5.out (Nat.le_refl _) R5.out N4.out N5.out
/-- A fraction in lowest terms. -/
theorem make_any (s : Bool) (A B : Option Addr) (n c m d p q : Nat) (xs ys : List Nat) (w : World) (hx : Num w A n c xs p) (hy : Num w B m d ys q) (hq : 0 < q) (hn : n ≤ 900000) (hm : m ≤ 900000) :
    Calls Tryd.prog 70 #[.bool s, .slice A n c, .slice B m d] w (GivesFrE (Fr.mk' s p q) 0 w) := by
  cases s
  · exact make_false A B n c m d p q xs ys w hx hy hq hn hm
  · exact make_true A B n c m d p q xs ys w hx hy hq hn hm
set_option maxRecDepth 100000 in
set_option maxHeartbeats 400000 in
theorem make_zero (s : Bool) (A B : Option Addr) (n c m d : Nat) (ys : List Nat) (w : World) (hy : Num w B m d ys 0) :
    Calls Tryd.prog 70 #[.bool s, .slice A n c, .slice B m d] w (GivesFrE ⟨false, 0, 0⟩ 8 w) := by
  have b0 := (Below.refl w.heap.size w).alloc (Nat.le_refl _) (.cells #[.bool false, .slice none 0 0, .slice none 0 0] 41)
  have Q0 := Lib.hid (hy.keep b0)
  have R0 := Lib.hid (FB.new w false none 0 0 none 0 0)
  have B0 := Lib.hid b0
  have z1 : Hid (decide ((0 : Nat) = 0) = true) := Lib.hid rfl
  have hm : Hid (m = 0) := Lib.hid hy.nzero
  clear hy b0
  go_enter Tryd.func70, Tryd.ntmps70
  go_wp2_with fail
  refine (isZero_s (i := 1) Q0.out (by decide) (by decide) z1.out).mono ?_
  rintro e w' ⟨rfl, rfl⟩
  obtain ⟨r0, r1, r2, f0, f1, f2⟩ := R0.out.facts
  go_wp2
  refine bodyPost_ret (v := .tuple #[.agg #[.bool false, .slice none 0 0, .slice none 0 0], .int .i64 8]) (by simp [results, Tryd.results70, go_sem]) rfl ?_
  first
    | exact ⟨_, _, _, _, _, _, _, _, rfl, Num.zero _, Num.zero _, B0.out⟩
    | exact giveFrE (t := ⟨false, 0, 0⟩) B0.out (Nat.le_refl _) R0.out (Num.zero _) (Num.zero _)
set_option maxRecDepth 100000 in
set_option maxHeartbeats 1000000 in
theorem new_any (a b : Int) (ha0 : -9223372036854775808 ≤ a) (ha1 : a ≤ 9223372036854775807) (hb0 : -9223372036854775808 ≤ b) (hb1 : b ≤ 9223372036854775807) (hb : b ≠ 0) (w : World) (s t : Bool) (hs : decide (a < 0) = s) (ht : decide (b < 0) = t) :
    Calls Tryd.prog 53 #[.int .i64 a, .int .i64 b] w (GivesFrE (Fr.mk' (s != t) a.natAbs b.natAbs) 0 w) := by
  have b0 := (Below.refl w.heap.size w).alloc (Nat.le_refl _) (.cells #[.bool false, .slice none 0 0, .slice none 0 0] 41)
  have R0 := Lib.hid (FB.new w false none 0 0 none 0 0)
  have B0 := Lib.hid b0
  have M1 := Lib.hid (fun w' => magnitude_any a ha0 ha1 w')
  have M2 := Lib.hid (fun w' => magnitude_any b hb0 hb1 w')
  have pa : Hid (a.natAbs < 4294967296 ^ 2) := Lib.hid (by have : (4294967296 : Nat) ^ 2 = 18446744073709551616 := by decide
                                                           omega)
  have pb : Hid (b.natAbs < 4294967296 ^ 2) := Lib.hid (by have : (4294967296 : Nat) ^ 2 = 18446744073709551616 := by decide
                                                           omega)
  have hbp : Hid (0 < b.natAbs) := Lib.hid (by omega)
  clear b0 hb
  generalize a.natAbs = p at *
  generalize b.natAbs = q at *
  go_enter Tryd.func53, Tryd.ntmps53
  go_wp2_with fail
  refine (M1.out _).mono ?_
  rintro e w1 ⟨A1, n1, c1, x1, rfl, hN, hb⟩
  have X1 := Lib.hid hN
  have R1 := Lib.hid (R0.out.keep hb)
  have B1 := Lib.hid (B0.out.trans (hb.mono B0.out.size))
  clear hN hb R0 B0
  go_wp2_with fail
  refine (M2.out _).mono ?_
  rintro e w2 ⟨A2, n2, c2, x2, rfl, hN, hb⟩
  have Y2 := Lib.hid hN
  have X2 := Lib.hid (X1.out.keep hb)
  have R2 := Lib.hid (R1.out.keep hb)
  have B2 := Lib.hid (B1.out.trans (hb.mono B1.out.size))
  clear hN hb R1 B1 X1
  have MK := Lib.hid (make_any (s != t) A1 A2 n1 c1 n2 c2 p q x1 x2 w2 X2.out Y2.out hbp.out (X2.out.sh pa.out (by decide)) (Y2.out.sh pb.out (by decide)))
  go_wp2_with fail
  refine MK.out.mono ?_
  rintro e w4 ⟨A4, n4, c4, x4, A5, n5, c5, x5, rfl, hN4, hN5, hb⟩
  have N4 := Lib.hid hN4
  have N5 := Lib.hid hN5
  have R5 := Lib.hid (R2.out.keep hb)
  have B5 := Lib.hid (B2.out.trans (hb.mono B2.out.size))
  obtain ⟨r0, r1, r2, f0, f1, f2⟩ := R5.out.facts
  obtain ⟨z, hz⟩ : ∃ z, (Fr.mk' (s != t) p q).s = z := ⟨_, rfl⟩
  have HZ := Lib.hid hz
  rw [hz]
  clear hN4 hN5 hb R2 B2 MK hz
  go_wp2
  refine bodyPost_ret (v := .tuple #[.agg #[.bool z, .slice A4 n4 c4, .slice A5 n5 c5], .int .i64 0]) (by simp [results, Tryd.results53, go_sem, r0, r1, r2]) rfl ?_
  have G := giveFrE (t := Fr.mk' (s != t) p q) (k := 0) B5.out (Nat.le_refl _) R5.out N4.out N5.out
  rw [HZ.out] at G
  exact G
end Go.Proofs.YtgmjpkkpkdcncaaDoor
