/- Contracts of the reference's Make, size, New, FromInt, Natural: no claim of its own. -/
import Derived.Test.YtbllnkhbahenkaaGreatDoorFrac
import Derived.Test.YtbllnkhbahenkaaGreatDoorRGcd
import Derived.Test.YtbllnkhbahenkaaGreatDoorIsRow
namespace Go.Proofs.YtbllnkhbahenkaaGreatDoor
open Go.RowKit
theorem rgcd_s {A B : Option Addr} {n c m d a b i j : Nat} {xs ys : List Nat} {w : World} (hx : Num w A n c xs a) (hy : Num w B m d ys b) (ha : a < 4294967296 ^ i) (hb : b < 4294967296 ^ j) (hi : i ≤ 900000) (hj : j ≤ 900000) :
    Calls Tryz.prog 30 #[.slice A n c, .slice B m d] w (GivesNum (Nat.gcd a b) w) := rgcd_any A B n c m d a b xs ys w hx hy (hx.sh ha hi) (hy.sh hb hj)
theorem rfromUint_i (z : Int) (h0 : 0 ≤ z) (h1 : z ≤ 18446744073709551615) (w : World) : Calls Tryz.prog 62 #[.int .u64 z] w (GivesNum z.toNat w) := by
  obtain ⟨n, rfl⟩ := Int.eq_ofNat_of_zero_le h0
  exact rfromUint_any n (by omega) w
set_option maxRecDepth 100000 in
set_option maxHeartbeats 400000 in
theorem rsize_any (z : Int) (h0 : -9223372036854775808 ≤ z) (h1 : z ≤ 9223372036854775807) (w : World) :
    Calls Tryz.prog 69 #[.int .i64 z] w (GivesNum z.natAbs w) := by
  by_cases hz : z < 0
  · obtain ⟨M, hM⟩ : ∃ M, z.natAbs = M := ⟨_, rfl⟩
    have C := Lib.hid (fun w' => rfromUint_any M (by omega) w')
    obtain ⟨y, hy⟩ : ∃ y : Int, -(z + 1) = y := ⟨_, rfl⟩
    have e1 : IntKind.i64.wrap (z + 1) = z + 1 := by rw [IntKind.wrap_i64]; omega
    have e2 : IntKind.i64.wrap (-(z + 1)) = y := by rw [IntKind.wrap_i64]; omega
    have e3 : IntKind.u64.wrap y = y := by rw [IntKind.wrap_u64]; omega
    have e4 : IntKind.u64.wrap (y + 1) = (M : Int) := by rw [IntKind.wrap_u64]; omega
    have e5 : y + 1 = (M : Int) := by omega
    rw [hM]
    clear hM
    go_enter Tryz.func69, Tryz.ntmps69
    go_wp2_with fail
    refine (C.out _).mono ?_
    rintro e w1 ⟨A1, n1, c1, x1, rfl, hn, hb⟩
    have G : Hid (GivesNum M w (.returned (.slice A1 n1 c1)) w1) := Lib.hid ⟨_, _, _, _, rfl, hn, hb⟩
    clear hn hb
    go_wp2
    go_ret
    exact G.out
  · have hz0 : 0 ≤ z := by omega
    have C := Lib.hid (fun w' => rfromUint_i z hz0 (by omega) w')
    have e : Hid (z.toNat = z.natAbs) := Lib.hid (by omega)
    go_enter Tryz.func69, Tryz.ntmps69
    go_wp2_with fail
    refine (C.out _).mono ?_
    rintro e w1 ⟨A1, n1, c1, x1, rfl, hn, hb⟩
    have G : Hid (GivesNum z.natAbs w (.returned (.slice A1 n1 c1)) w1) := Lib.hid ⟨_, _, _, _, rfl, hn.to e.out, hb⟩
    clear hn hb
    go_wp2
    go_ret
    exact G.out
set_option maxRecDepth 100000 in
set_option maxHeartbeats 400000 in
theorem rmake_zero (s : Bool) (A B : Option Addr) (n c d : Nat) (w : World) :
    Calls Tryz.prog 27 #[.bool s, .slice A n c, .slice B 0 d] w (GivesFrE ⟨false, 0, 0⟩ 8 w) := by
  have R0 := Lib.hid (FB.new w false none 0 0 none 0 0)
  have B0 := Lib.hid ((Below.refl w.heap.size w).alloc (Nat.le_refl _) (.cells #[.bool false, .slice none 0 0, .slice none 0 0] 25))
  go_enter Tryz.func27, Tryz.ntmps27
  obtain ⟨r0, r1, r2, f0, f1, f2⟩ := R0.out.facts
  go_wp2
  refine bodyPost_ret (v := .tuple #[.agg #[.bool false, .slice none 0 0, .slice none 0 0], .int .i64 8]) (by simp [results, Tryz.results27, go_sem]) rfl ?_
  first
    | exact ⟨_, _, _, _, _, _, _, _, rfl, Num.zero _, Num.zero _, B0.out⟩
    | exact giveFrE (t := ⟨false, 0, 0⟩) B0.out (Nat.le_refl _) R0.out (Num.zero _) (Num.zero _)
set_option maxRecDepth 100000 in
set_option maxHeartbeats 1000000 in
theorem rmake_any (s : Bool) (A B : Option Addr) (n c m d p q i : Nat) (xs ys : List Nat) (w : World) (hx : Num w A n c xs p) (hy : Num w B m d ys q) (hq : 0 < q) (hp : p < 4294967296 ^ i) (hq1 : q < 4294967296 ^ i) (hi : i ≤ 900000) :
    Calls Tryz.prog 27 #[.bool s, .slice A n c, .slice B m d] w (GivesFrE (Fr.mk' s p q) 0 w) := by
  have b0 := (Below.refl w.heap.size w).alloc (Nat.le_refl _) (.cells #[.bool false, .slice none 0 0, .slice none 0 0] 25)
  have R0 := Lib.hid (FB.new w false none 0 0 none 0 0)
  have B0 := Lib.hid b0
  have P0 := Lib.hid (hx.keep b0)
  have Q0 := Lib.hid (hy.keep b0)
  have G0 : Hid (0 < Nat.gcd p q) := Lib.hid (Nat.gcd_pos_of_pos_right _ hq)
  have gq : Hid (Nat.gcd p q < 4294967296 ^ i) := Lib.hid (gcd_pwr hq1 hq)
  have pp := Lib.hid hp
  have pq := Lib.hid hq1
  have mz : ((m : Int) == 0) = false := beq_eq_false_iff_ne.2 (by have := hy.npos hq; omega)
  obtain ⟨z, hz⟩ : ∃ z, (Fr.mk' s p q).s = z := ⟨_, rfl⟩
  have HZ := Lib.hid hz
  have hz2 : (s && decide (0 < n)) = z := by
    rw [← hz]
    show _ = (s && decide (0 < p))
    congr 1
    rcases Nat.eq_zero_or_pos p with h | h
    · subst h; rw [hx.nzero]
    · rw [decide_eq_true h, decide_eq_true (hx.npos h)]
  have SZ : Hid ((s = false ∧ z = false) ∨ (s = true ∧ decide (0 < n) = z)) := Lib.hid (by
    cases s
    · exact .inl ⟨rfl, hz2.symm⟩
    · refine .inr ⟨rfl, ?_⟩
      rw [← hz2, Bool.true_and])
  clear b0 hx hy hq hp hq1 hz hz2
  go_enter Tryz.func27, Tryz.ntmps27
  go_wp2_with fail
  refine (rgcd_s P0.out Q0.out pp.out pq.out hi hi).mono ?_
  rintro e w1 ⟨A1, n1, c1, x1, rfl, hN, hb⟩
  have C1 := Lib.hid hN
  have P1 := Lib.hid (P0.out.keep hb)
  have Q1 := Lib.hid (Q0.out.keep hb)
  have R1 := Lib.hid (R0.out.keep hb)
  have B1 := Lib.hid (B0.out.trans (hb.mono B0.out.size))
  clear hN hb P0 Q0 R0 B0
  go_wp2_with fail
  refine (rdivMod_s P1.out C1.out G0.out pp.out gq.out hi hi).mono ?_
  rintro e w2 ⟨A2, n2, c2, x2, A2', n2', c2', x2', rfl, hN, _, hb⟩
  have X2 := Lib.hid hN
  have C2 := Lib.hid (C1.out.keep hb)
  have Q2 := Lib.hid (Q1.out.keep hb)
  have R2 := Lib.hid (R1.out.keep hb)
  have B2 := Lib.hid (B1.out.trans (hb.mono B1.out.size))
  clear hN hb P1 Q1 R1 B1 C1
  go_wp2_with fail
  refine (rdivMod_s Q2.out C2.out G0.out pq.out gq.out hi hi).mono ?_
  rintro e w3 ⟨A3, n3, c3, x3, A3', n3', c3', x3', rfl, hN, _, hb⟩
  have Y3 := Lib.hid hN
  have X3 := Lib.hid (X2.out.keep hb)
  have R3 := Lib.hid (R2.out.keep hb)
  have B3 := Lib.hid (B2.out.trans (hb.mono B2.out.size))
  clear hN hb C2 Q2 R2 B2 X2
  have GG : Hid (GivesFrE (Fr.mk' s p q) 0 w (.returned (.tuple #[.agg #[.bool z, .slice A2 n2 c2, .slice A3 n3 c3], .int .i64 0])) (stFr w3 w.heap.size z A2 n2 c2 A3 n3 c3)) := Lib.hid (by
    have G := giveFrE (t := Fr.mk' s p q) (k := 0) B3.out (Nat.le_refl _) R3.out X3.out Y3.out
    rw [HZ.out] at G
    exact G)
  obtain ⟨r0, r1, r2, f0, f1, f2⟩ := R3.out.facts
  clear HZ X3 Y3 B3
  rcases SZ.out with ⟨rfl, rfl⟩ | ⟨rfl, rfl⟩
  · clear SZ
    go_wp2
    refine bodyPost_ret (v := .tuple #[.agg #[.bool false, .slice A2 n2 c2, .slice A3 n3 c3], .int .i64 0]) (by simp [results, Tryz.results27, go_sem, r0, r1, r2]) rfl ?_
    exact GG.out
  · clear SZ
    go_wp2
    refine bodyPost_ret (v := .tuple #[.agg #[.bool (decide (0 < n)), .slice A2 n2 c2, .slice A3 n3 c3], .int .i64 0]) (by simp [results, Tryz.results27, go_sem, r0, r1, r2]) rfl ?_
    exact GG.out
set_option maxRecDepth 100000 in
set_option maxHeartbeats 1000000 in
theorem rnew_any (a b : Int) (ha0 : -9223372036854775808 ≤ a) (ha1 : a ≤ 9223372036854775807) (hb0 : -9223372036854775808 ≤ b) (hb1 : b ≤ 9223372036854775807) (w : World) (s t : Bool) (hs : decide (a < 0) = s) (ht : decide (b < 0) = t) (T : Fr) (k : Int) (hT : (b ≠ 0 ∧ T = Fr.mk' (s != t) a.natAbs b.natAbs ∧ k = 0) ∨ (b = 0 ∧ T = ⟨false, 0, 0⟩ ∧ k = 8)) :
    Calls Tryz.prog 33 #[.int .i64 a, .int .i64 b] w (GivesFrE T k w) := by
  have b0 := (Below.refl w.heap.size w).alloc (Nat.le_refl _) (.cells #[.bool false, .slice none 0 0, .slice none 0 0] 25)
  have R0 := Lib.hid (FB.new w false none 0 0 none 0 0)
  have B0 := Lib.hid b0
  have M1 := Lib.hid (fun w' => rsize_any a ha0 ha1 w')
  have M2 := Lib.hid (fun w' => rsize_any b hb0 hb1 w')
  have pa : Hid (a.natAbs < 4294967296 ^ 2) := Lib.hid (by have : (4294967296 : Nat) ^ 2 = 18446744073709551616 := by decide
                                                           omega)
  have pb : Hid (b.natAbs < 4294967296 ^ 2) := Lib.hid (by have : (4294967296 : Nat) ^ 2 = 18446744073709551616 := by decide
                                                           omega)
  have hTT : Hid ((0 < b.natAbs ∧ T = Fr.mk' (s != t) a.natAbs b.natAbs ∧ k = 0) ∨ (b.natAbs = 0 ∧ T = ⟨false, 0, 0⟩ ∧ k = 8)) := Lib.hid (by
    rcases hT with ⟨h, h'⟩ | ⟨h, h'⟩
    · exact .inl ⟨by omega, h'⟩
    · exact .inr ⟨by omega, h'⟩)
  clear b0 hT
  generalize a.natAbs = p at *
  generalize b.natAbs = q at *
  go_enter Tryz.func33, Tryz.ntmps33
  go_wp2_with fail
  refine (M1.out _).mono ?_
  rintro e w1 ⟨A1, n1, c1, x1, rfl, hN, hb⟩
  have X1 := Lib.hid hN
  have R1 := Lib.hid (R0.out.keep hb)
  have B1 := Lib.hid (B0.out.trans (hb.mono B0.out.size))
  clear hN hb R0 B0
  go_wp2_with fail
  refine (M2.out _).mono ?_
  rintro e w2 ⟨A2, n2, c2, x2, rfl, hN, hb⟩
  have Y2 := Lib.hid hN
  have X2 := Lib.hid (X1.out.keep hb)
  have R2 := Lib.hid (R1.out.keep hb)
  have B2 := Lib.hid (B1.out.trans (hb.mono B1.out.size))
  clear hN hb R1 B1 X1
  have MK : Hid (Calls Tryz.prog 27 #[.bool (s != t), .slice A1 n1 c1, .slice A2 n2 c2] w2 (GivesFrE T k w2)) := Lib.hid (by
    rcases hTT.out with ⟨h, rfl, rfl⟩ | ⟨h, rfl, rfl⟩
    · exact rmake_any (s != t) A1 A2 n1 c1 n2 c2 p q 2 x1 x2 w2 X2.out Y2.out h pa.out pb.out (by decide)
    · have hy := Y2.out
      rw [h] at hy
      obtain rfl := hy.nzero
      exact rmake_zero (s != t) A1 A2 n1 c1 c2 w2)
  clear hTT
  go_wp2_with fail
  refine MK.out.mono ?_
  rintro e w4 ⟨A4, n4, c4, x4, A5, n5, c5, x5, rfl, hN4, hN5, hb⟩
  have N4 := Lib.hid hN4
  have N5 := Lib.hid hN5
  have R5 := Lib.hid (R2.out.keep hb)
  have B5 := Lib.hid (B2.out.trans (hb.mono B2.out.size))
  obtain ⟨r0, r1, r2, f0, f1, f2⟩ := R5.out.facts
  obtain ⟨z, hz⟩ : ∃ z, T.s = z := ⟨_, rfl⟩
  have HZ := Lib.hid hz
  rw [hz]
  clear hN4 hN5 hb R2 B2 MK hz
  go_wp2
  refine bodyPost_ret (v := .tuple #[.agg #[.bool z, .slice A4 n4 c4, .slice A5 n5 c5], .int .i64 k]) (by simp [results, Tryz.results33, go_sem, r0, r1, r2]) rfl ?_
  have G := giveFrE (t := T) (k := k) B5.out (Nat.le_refl _) R5.out N4.out N5.out
  rw [HZ.out] at G
  exact G
theorem fr_int (s : Bool) (p : Nat) (h : s = true → 0 < p) : Fr.mk' s p 1 = ⟨s, p, 1⟩ := by
  have e : (s && decide (0 < p)) = s := by
    cases s
    · rfl
    · rw [decide_eq_true (h rfl)]; rfl
  simp only [Fr.mk', Nat.gcd_one_right, Nat.div_one, e]
set_option maxRecDepth 100000 in
set_option maxHeartbeats 1000000 in
theorem rfromInt_any (a : Int) (h0 : -9223372036854775808 ≤ a) (h1 : a ≤ 9223372036854775807) (w : World) (s : Bool) (hs : decide (a < 0) = s) :
    Calls Tryz.prog 17 #[.int .i64 a] w (GivesFr ⟨s, a.natAbs, 1⟩ w) := by
  have b0 := (Below.refl w.heap.size w).alloc (Nat.le_refl _) (.cells #[.bool false, .slice none 0 0, .slice none 0 0] 25)
  have R0 := Lib.hid (FB.new w false none 0 0 none 0 0)
  have B0 := Lib.hid b0
  have NW := Lib.hid (fun w' => rnew_any a 1 h0 h1 (by decide) (by decide) w' s false hs rfl ⟨s, a.natAbs, 1⟩ 0 (.inl ⟨by decide, by
    rw [Bool.bne_false]
    exact (fr_int s a.natAbs (by rintro rfl; have := of_decide_eq_true hs; omega)).symm, rfl⟩))
  clear b0
  generalize a.natAbs = p at *
  go_enter Tryz.func17, Tryz.ntmps17
  go_wp2_with fail
  refine (NW.out _).mono ?_
  rintro e w1 ⟨A4, n4, c4, x4, A5, n5, c5, x5, rfl, hN4, hN5, hb⟩
  have ba : Below w1.heap.size w1 (w1.alloc (.cells #[.bool s, .slice A4 n4 c4, .slice A5 n5 c5] 25)) := (Below.refl _ _).alloc (Nat.le_refl _) _
  have hf := FB.new w1 s A4 n4 c4 A5 n5 c5
  have N4 := Lib.hid (hN4.keep ba)
  have N5 := Lib.hid (hN5.keep ba)
  have R5 := Lib.hid ((R0.out.keep hb).keep ba)
  have B5 := Lib.hid ((B0.out.trans (hb.mono B0.out.size)).trans (ba.mono (Nat.le_trans B0.out.size hb.size)))
  obtain ⟨r0, r1, r2, f0, f1, f2⟩ := R5.out.facts
  obtain ⟨l0, l1, l2, m0, m1, m2⟩ := hf.facts
  clear hN4 hN5 hb R0 B0 NW ba hf
  go_wp2
  refine bodyPost_ret (v := .agg #[.bool s, .slice A4 n4 c4, .slice A5 n5 c5]) (by simp [results, Tryz.results17, go_sem, r0, r1, r2]) rfl ?_
  exact giveFr (t := ⟨s, p, 1⟩) B5.out (Nat.le_refl _) R5.out N4.out N5.out
end Go.Proofs.YtbllnkhbahenkaaGreatDoor
