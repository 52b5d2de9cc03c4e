/- The contract of the reference's DivMod: no claim of its own. -/
import Derived.Test.YtgmjpkkpkdcncaaDoorRHigh
import Derived.Test.YtgmjpkkpkdcncaaDoorRSub
import Derived.Test.YtgmjpkkpkdcncaaDoorDivS
namespace Go.Proofs.YtgmjpkkpkdcncaaDoor
open Go.RowKit
theorem rdivMod_zero (A B : Option Addr) (n c d : Nat) (w : World) :
    Calls Tryd.prog 12 #[.slice A n c, .slice B 0 d] w (GivesDiv 0 0 8 w) := by
  go_enter Tryd.func12, Tryd.ntmps12
  go_wp2
  go_ret3
  exact ⟨none, 0, 0, [], none, 0, 0, [], rfl, Num.zero _, Num.zero _, Below.refl _ _⟩
theorem Num.to' {w : World} {A : Option Addr} {n c a b : Nat} {xs : List Nat} (h : Num w A n c xs a) (e : a = b) : Num w A n c xs b := e ▸ h
theorem Num.short {w : World} {A : Option Addr} {n c a k : Nat} {xs : List Nat} (h : Num w A n c xs a) (ha : a < 4294967296 ^ k) (hk : k ≤ 1000000) : n ≤ 1000000 := Nat.le_trans (h.len_le ha) hk
theorem pow_up {a n : Nat} (h : a < 4294967296 ^ n) : a + a + 1 < 4294967296 ^ (n + 1) := by
  rw [Nat.pow_succ]
  have : (a + 1) * 2 ≤ 4294967296 ^ n * 4294967296 := Nat.mul_le_mul h (by decide)
  omega
theorem Num.drewN {w : World} {A : Option Addr} {n c a : Nat} {xs : List Nat} (h : Num w A n c xs a) (q : Nat) : Num (w.drewN q) A n c xs a := ⟨h.toLst.drewN q, h.tight, h.val⟩
def RDivInv (a b : Nat) (w : World) (Aq : Option Addr) (nq cq : Nat) (Ar : Option Addr) (nr cr j : Nat) (wr : World) : Prop :=
  ∃ xq xr Q R, Num wr Aq nq cq xq Q ∧ Num wr Ar nr cr xr R ∧ Q * b + R = a / 2 ^ j ∧ R < b ∧ Below w.heap.size w wr
theorem q_le {a b Q R j : Nat} (h : Q * b + R = a / 2 ^ j) (hb : 0 < b) : Q ≤ a := by
  have h1 : Q * 1 ≤ Q * b := Nat.mul_le_mul_left _ hb
  have h2 : a / 2 ^ j ≤ a := Nat.div_le_self _ _
  omega
set_option maxRecDepth 100000 in
set_option maxHeartbeats 1000000 in
theorem rdivMod_any (A B : Option Addr) (n c m d a b : Nat) (xs ys : List Nat) (w : World) (hx : Num w A n c xs a) (hy : Num w B m d ys b) (hm : 0 < m) (hn : n ≤ 900000) (hm2 : m ≤ 900000) :
    Calls Tryd.prog 12 #[.slice A n c, .slice B m d] w (GivesDiv (a / b) (a % b) 0 w) := by
  have hbp := hy.pos hm
  have HBP := Lib.hid hbp
  have HX := Lib.hid hx
  have HY := Lib.hid hy
  have LA := Lib.hid hx.lt_pow
  have LB := Lib.hid hy.lt_pow
  have hz : ((m : Int) == 0) = false := beq_eq_false_iff_ne.2 (by omega)
  clear hx hy hbp
  go_enter Tryd.func12, Tryd.ntmps12
  go_wp2_with fail
  refine (rbits_any A n c a xs w HX.out.toLst HX.out.val (by omega)).mono ?_
  rintro e w' ⟨⟨ba, rfl, hba, hbal⟩, q1, rfl⟩
  have IA := Lib.hid hba
  clear hba
  go_wp2_with fail
  refine (rbits_any B m d b ys _ (HY.out.toLst.drewN _) HY.out.val (by omega)).mono ?_
  rintro e w' ⟨⟨bb, rfl, hbb, hbbl⟩, q2, rfl⟩
  have hb1 : 1 ≤ bb := by
    rcases Nat.eq_zero_or_pos bb with h | h
    · have := hbb.1; rw [h] at this; have := HBP.out; omega
    · exact h
  have hst : a / 2 ^ (ba + 1 - bb) < b := start_lt IA.out.1 (hbb.2.resolve_left (by omega)) (by omega)
  obtain ⟨k, hk⟩ : ∃ k, ba + 1 - bb = k := ⟨_, rfl⟩
  rw [hk] at hst
  have hkl : k ≤ 100000000 := by omega
  have hmax1 : max (1 : Int) (bb : Int) = (bb : Int) := by omega
  have hmax2 : max (0 : Int) ((ba : Int) - (bb : Int) + 1) = (k : Int) := by omega
  have ST := Lib.hid hst
  have HK := Lib.hid hk
  clear hst hbb IA hk
  have RH := Lib.hid (fun w' (h : Lst w' A n c xs) => rhigh_any A n c a k xs w' h HX.out.val (by omega) hkl)
  go_wp2_with fail
  refine (RH.out _ ((HX.out.toLst.drewN _))).mono ?_
  rintro e w1 ⟨Ar, nr, cr, xr, rfl, hr, hb⟩
  have I0 : Hid (RDivInv a b w none 0 0 Ar nr cr k w1) := Lib.hid ⟨[], xr, 0, _, Num.zero _, hr, by rw [Nat.zero_mul, Nat.zero_add], ST.out, (below_drewN (Below.refl _ _) _).trans (hb.mono (by simp))⟩
  clear hr hb RH hmax1 hmax2
  go_wp2
  go_loopw [8, 9, 10] (fun qv rv iv wr => ∃ (Aq : Option Addr) (nq cq : Nat) (Ar : Option Addr) (nr cr : Nat) (j : Nat), j ≤ k ∧ qv = .slice Aq nq cq ∧ rv = .slice Ar nr cr ∧ iv = .int .i64 ((j : Int) - 1) ∧ Hid (RDivInv a b w Aq nq cq Ar nr cr j wr)) (fun _ _ iv _ => (intOf iv + 1).toNat)
  case atStart => exact ⟨none, 0, 0, Ar, nr, cr, k, Nat.le_refl _, rfl, rfl, by go_num, I0⟩
  case round =>
    clear I0
    obtain ⟨Aq, nq, cq, Ar, nr, cr, j, hj, rfl, rfl, rfl, hi⟩ := hrel
    obtain ⟨xq, xr, Q, R, h1, h2, h3, h4, h5⟩ := hi.out
    rcases j with _ | i
    · obtain ⟨e1, e2⟩ := div_fin h3 h4
      have G : Hid (GivesDiv (a / b) (a % b) 0 w (.returned (.tuple #[.slice Aq nq cq, .slice Ar nr cr, .int .i64 0])) wr) := Lib.hid ⟨_, _, _, _, _, _, _, _, rfl, h1.to' e1, h2.to' e2, h5⟩
      clear h1 h2 h3 h4 h5 e1 e2 hi
      go_wp2
      go_ret3
      exact G.out
    · have hQ := q_le h3 HBP.out
      have lq := Lib.hid (Nat.lt_of_le_of_lt hQ LA.out)
      have lr := Lib.hid (Nat.lt_trans h4 LB.out)
      have N1 := Lib.hid h1
      have N2 := Lib.hid h2
      have E := Lib.hid h3
      have RB := Lib.hid h4
      have B1 := Lib.hid h5
      have A1 := Lib.hid (HX.out.keep h5)
      have Y1 := Lib.hid (HY.out.keep h5)
      clear h1 h2 h3 h4 h5 hQ hi
      go_wp2_with fail
      refine (radd_any _ _ _ _ _ _ _ _ _ _ _ N1.out N1.out (N1.out.short lq.out (by omega)) (N1.out.short lq.out (by omega))).mono ?_
      rintro e w2 ⟨A2, n2, c2, x2, rfl, hn2, hb2⟩
      have Q2 := Lib.hid hn2
      have N3 := Lib.hid (N2.out.keep hb2)
      have A2' := Lib.hid (A1.out.keep hb2)
      have Y2 := Lib.hid (Y1.out.keep hb2)
      have B2 := Lib.hid (B1.out.trans (hb2.mono B1.out.size))
      clear hn2 hb2 N1 N2 A1 Y1 B1
      go_wp2_with fail
      refine (radd_any _ _ _ _ _ _ _ _ _ _ _ N3.out N3.out (N3.out.short lr.out (by omega)) (N3.out.short lr.out (by omega))).mono ?_
      rintro e w3 ⟨A3, n3, c3, x3, rfl, hn3, hb3⟩
      have R3 := Lib.hid hn3
      have Q3 := Lib.hid (Q2.out.keep hb3)
      have A3' := Lib.hid (A2'.out.keep hb3)
      have Y3 := Lib.hid (Y2.out.keep hb3)
      have B3 := Lib.hid (B2.out.trans (hb3.mono B2.out.size))
      clear hn3 hb3 Q2 N3 A2' Y2 B2
      have BIT := Lib.hid (rbit_any A n c i a xs w3 A3'.out.toLst A3'.out.val (by omega) (by omega))
      obtain ⟨t, ht⟩ : ∃ t, a / 2 ^ i % 2 = t := ⟨_, rfl⟩
      have ht2 : t < 2 := by rw [← ht]; exact Nat.mod_lt _ (by decide)
      rw [ht] at BIT
      have HT := Lib.hid ht
      clear ht
      go_wp2_with fail
      refine BIT.out.mono ?_
      rintro e w' ⟨rfl, q3, rfl⟩
      go_wp2_with fail
      refine (rfromUint_any t (by omega) _).mono ?_
      rintro e w4 ⟨A4, n4, c4, x4, rfl, hn4, hb4⟩
      have T4 := Lib.hid hn4
      have R4 := Lib.hid ((R3.out.drewN q3).keep hb4)
      have Q4 := Lib.hid ((Q3.out.drewN q3).keep hb4)
      have Y4 := Lib.hid ((Y3.out.drewN q3).keep hb4)
      have B4 := Lib.hid ((below_drewN B3.out q3).trans (hb4.mono (by have := B3.out.size; simpa using this)))
      clear hn4 hb4 R3 Q3 A3' Y3 B3 BIT
      have lt4 : Hid (t < 4294967296 ^ 1) := Lib.hid (by rw [Nat.pow_one]; omega)
      have l2r : Hid (R + R < 4294967296 ^ (m + 1)) := Lib.hid (by have := pow_up lr.out; omega)
      go_wp2_with fail
      refine (radd_any _ _ _ _ _ _ _ _ _ _ _ R4.out T4.out (R4.out.short l2r.out (by omega)) (T4.out.short lt4.out (by omega))).mono ?_
      rintro e w5 ⟨A5, n5, c5, x5, rfl, hn5, hb5⟩
      have R5 := Lib.hid hn5
      have Q5 := Lib.hid (Q4.out.keep hb5)
      have Y5 := Lib.hid (Y4.out.keep hb5)
      have B5 := Lib.hid (B4.out.trans (hb5.mono B4.out.size))
      clear hn5 hb5 R4 Q4 Y4 B4 T4
      have EQ := Lib.hid (div_step E.out HT.out)
      have CMP := rcmp_any _ _ _ _ _ _ _ _ _ R5.out.toLst Y5.out.toLst
      rw [R5.out.val, Y5.out.val] at CMP
      have CC := Lib.hid CMP
      clear CMP
      by_cases hlt : R + R + t < b
      · have CE := Lib.hid (cmpI_lt hlt)
        have II : Hid (RDivInv a b w A2 n2 c2 A5 n5 c5 i w5) := Lib.hid ⟨_, _, _, _, Q5.out, R5.out, EQ.out, hlt, B5.out⟩
        clear hlt
        go_wp2_with fail
        refine CC.out.mono ?_
        rintro e w' ⟨rfl, rfl⟩
        rw [CE.out]
        clear CC CE
        go_wp2
        go_roundw
        case rel => exact ⟨_, _, _, _, _, _, i, by omega, rfl, rfl, by go_num, II⟩
        case measure => simp [intOf]; try omega
      · have hge : b ≤ R + R + t := by omega
        have hq0 : 0 ≤ cmpI (R + R + t) b := by
          unfold cmpI
          rw [if_neg hlt]
          split <;> decide
        obtain ⟨z, hze⟩ : ∃ z, cmpI (R + R + t) b = z := ⟨_, rfl⟩
        rw [hze] at hq0
        have CE := Lib.hid hze
        have SB := Lib.hid (rsub_any _ _ _ _ _ _ _ _ _ _ _ R5.out Y5.out (R5.out.short (k := m + 1) (by have := pow_up lr.out; omega) (by omega)))
        have EQ2 := Lib.hid (div_step' EQ.out hge)
        have HR : Hid (R + R + t - b < b) := Lib.hid (by have := RB.out; omega)
        have hde : decide (b ≤ R + R + t) = true := decide_eq_true hge
        clear hlt hze
        go_wp2_with fail
        refine CC.out.mono ?_
        rintro e w' ⟨rfl, rfl⟩
        rw [CE.out]
        go_wp2_with fail
        refine SB.out.mono ?_
        rintro e w6 ⟨A6, n6, c6, x6, rfl, hn6, hb6⟩
        have R6 := Lib.hid hn6
        have Q6 := Lib.hid (Q5.out.keep hb6)
        have B6 := Lib.hid (B5.out.trans (hb6.mono B5.out.size))
        clear hn6 hb6 R5 Q5 Y5 B5 SB CC hge
        go_wp2_with fail
        refine (rfromUint_any 1 (by decide) _).mono ?_
        rintro e w7 ⟨A7, n7, c7, x7, rfl, hn7, hb7⟩
        have T7 := Lib.hid hn7
        have R7 := Lib.hid (R6.out.keep hb7)
        have Q7 := Lib.hid (Q6.out.keep hb7)
        have B7 := Lib.hid (B6.out.trans (hb7.mono B6.out.size))
        clear hn7 hb7 R6 Q6 B6
        go_wp2_with fail
        refine (radd_any _ _ _ _ _ _ _ _ _ _ _ Q7.out T7.out (Q7.out.short (k := n + 1) (by have := pow_up lq.out; omega) (by omega)) (T7.out.short (k := 1) (by decide) (by omega))).mono ?_
        rintro e w8 ⟨A8, n8, c8, x8, rfl, hn8, hb8⟩
        have II : Hid (RDivInv a b w A8 n8 c8 A6 n6 c6 i w8) := Lib.hid ⟨_, _, _, _, hn8, R7.out.keep hb8, EQ2.out, HR.out, B7.out.trans (hb8.mono B7.out.size)⟩
        clear hn8 hb8 R7 Q7 B7 T7
        go_wp2
        go_roundw
        case rel => exact ⟨_, _, _, _, _, _, i, by omega, rfl, rfl, by go_num, II⟩
        case measure => simp [intOf]; try omega
end Go.Proofs.YtgmjpkkpkdcncaaDoor
