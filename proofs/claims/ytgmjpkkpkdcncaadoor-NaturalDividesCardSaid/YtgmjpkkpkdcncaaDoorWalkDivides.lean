/- The walk of NaturalDivides: no claim of its own. -/
import Derived.Test.YtgmjpkkpkdcncaaDoorShort
namespace Go.Proofs.YtgmjpkkpkdcncaaDoor
open Go.RowKit
set_option maxRecDepth 100000 in
set_option maxHeartbeats 1000000 in
theorem divides_no0 (a0 a1 : Option Addr) (l0 c0 l1 c1 : Nat) (w : World) (bv : Bool) (v1 : Calls Tryd.prog 7 #[.slice a0 l0 c0] w fun e w' => e = .returned (.bool bv) ∧ w = w') (v2 : Calls Tryd.prog 8 #[.slice a0 l0 c0] w fun e w' => e = .returned (.bool bv) ∧ w = w') (f0 : Calls Tryd.prog 9 #[.slice a0 l0 c0, .int .i64 10] w fun e w'' => e = .returned (.bool false) ∧ w = w'') : Calls Tryd.prog 3 #[.slice a0 l0 c0, .slice a1 l1 c1] w (Gives (.bool true) w) := by
  have e1 : (bv != bv) = false := by cases bv <;> rfl
  have V1 := Lib.hid v1
  have V2 := Lib.hid v2
  have F0 := Lib.hid f0
  have B0 := Lib.hid (Below.refl w.heap.size w)
  clear v1 v2 f0
  go_enter Tryd.func3, Tryd.ntmps3
  go_wp2_with fail
  refine (V1.out).mono ?_
  rintro e w' ⟨rfl, rfl⟩
  go_wp2_with fail
  refine (V2.out).mono ?_
  rintro e w' ⟨rfl, rfl⟩
  go_wp2_with fail
  refine (F0.out).mono ?_
  rintro e w' ⟨rfl, rfl⟩
  go_wp2_with fail
  refine (lives_any _).mono ?_
  rintro e w99 ⟨rfl, hb⟩
  have B99 := Lib.hid (B0.out.trans (hb.mono B0.out.size))
  clear hb
  go_wp2
  go_ret
  exact ⟨rfl, B99.out⟩
set_option maxRecDepth 100000 in
set_option maxHeartbeats 1000000 in
theorem divides_no1 (a0 a1 : Option Addr) (l0 c0 l1 c1 : Nat) (w : World) (bv : Bool) (v1 : Calls Tryd.prog 7 #[.slice a0 l0 c0] w fun e w' => e = .returned (.bool bv) ∧ w = w') (v2 : Calls Tryd.prog 8 #[.slice a0 l0 c0] w fun e w' => e = .returned (.bool bv) ∧ w = w') (f0 : Calls Tryd.prog 9 #[.slice a0 l0 c0, .int .i64 10] w fun e w'' => e = .returned (.bool true) ∧ w = w'') (f1 : Calls Tryd.prog 9 #[.slice a1 l1 c1, .int .i64 10] w fun e w'' => e = .returned (.bool false) ∧ w = w'') : Calls Tryd.prog 3 #[.slice a0 l0 c0, .slice a1 l1 c1] w (Gives (.bool true) w) := by
  have e1 : (bv != bv) = false := by cases bv <;> rfl
  have V1 := Lib.hid v1
  have V2 := Lib.hid v2
  have F0 := Lib.hid f0
  have F1 := Lib.hid f1
  have B0 := Lib.hid (Below.refl w.heap.size w)
  clear v1 v2 f0 f1
  go_enter Tryd.func3, Tryd.ntmps3
  go_wp2_with fail
  refine (V1.out).mono ?_
  rintro e w' ⟨rfl, rfl⟩
  go_wp2_with fail
  refine (V2.out).mono ?_
  rintro e w' ⟨rfl, rfl⟩
  go_wp2_with fail
  refine (F0.out).mono ?_
  rintro e w' ⟨rfl, rfl⟩
  go_wp2_with fail
  refine (F1.out).mono ?_
  rintro e w' ⟨rfl, rfl⟩
  go_wp2_with fail
  refine (lives_any _).mono ?_
  rintro e w99 ⟨rfl, hb⟩
  have B99 := Lib.hid (B0.out.trans (hb.mono B0.out.size))
  clear hb
  go_wp2
  go_ret
  exact ⟨rfl, B99.out⟩
set_option maxRecDepth 100000 in
set_option maxHeartbeats 1000000 in
theorem divides_zero (a0 a1 : Option Addr) (l0 c0 c1 : Nat) (w : World) (bv : Bool) (v1 : Calls Tryd.prog 7 #[.slice a0 l0 c0] w fun e w' => e = .returned (.bool bv) ∧ w = w') (v2 : Calls Tryd.prog 8 #[.slice a0 l0 c0] w fun e w' => e = .returned (.bool bv) ∧ w = w') (xs ys : List Nat) (a : Nat) (N0 : Num w a0 l0 c0 xs a) (N1 : Num w a1 0 c1 ys 0) (f0 : Calls Tryd.prog 9 #[.slice a0 l0 c0, .int .i64 10] w fun e w'' => e = .returned (.bool true) ∧ w = w'') (f1 : Calls Tryd.prog 9 #[.slice a1 0 c1, .int .i64 10] w fun e w'' => e = .returned (.bool true) ∧ w = w'') : Calls Tryd.prog 3 #[.slice a0 l0 c0, .slice a1 0 c1] w (Gives (.bool true) w) := by
  have e1 : (bv != bv) = false := by cases bv <;> rfl
  have V1 := Lib.hid v1
  have V2 := Lib.hid v2
  have F0 := Lib.hid f0
  have F1 := Lib.hid f1
  have A0 := Lib.hid N0
  have D0 := Lib.hid N1
  have B0 := Lib.hid (Below.refl w.heap.size w)
  clear v1 v2 f0 f1 N0 N1
  go_enter Tryd.func3, Tryd.ntmps3
  go_wp2_with fail
  refine (V1.out).mono ?_
  rintro e w' ⟨rfl, rfl⟩
  go_wp2_with fail
  refine (V2.out).mono ?_
  rintro e w' ⟨rfl, rfl⟩
  go_wp2_with fail
  refine (F0.out).mono ?_
  rintro e w' ⟨rfl, rfl⟩
  go_wp2_with fail
  refine (F1.out).mono ?_
  rintro e w' ⟨rfl, rfl⟩
  go_wp2_with fail
  refine (divMod_zero _ _ _ _ _ _ _ _ _ A0.out D0.out).mono ?_
  rintro e w1 ⟨_, _, _, _, _, _, _, _, rfl, hq, hr, hb⟩
  have Q1 := Lib.hid (hq)
  have R1 := Lib.hid (hr)
  have A1 := Lib.hid (A0.out.keep hb)
  have D1 := Lib.hid (D0.out.keep hb)
  have B1 := Lib.hid (B0.out.trans (hb.mono B0.out.size))
  clear hb B0 A0 D0 hq hr
  go_wp2_with fail
  refine (rdivMod_zero _ _ _ _ _ _).mono ?_
  rintro e w2 ⟨_, _, _, _, _, _, _, _, rfl, hq, hr, hb⟩
  have P2 := Lib.hid (hq)
  have S2 := Lib.hid (hr)
  have A2 := Lib.hid (A1.out.keep hb)
  have D2 := Lib.hid (D1.out.keep hb)
  have Q2 := Lib.hid (Q1.out.keep hb)
  have R2 := Lib.hid (R1.out.keep hb)
  have B2 := Lib.hid (B1.out.trans (hb.mono B1.out.size))
  clear hb B1 A1 D1 Q1 R1 hq hr
  go_wp2_with fail
  refine (same_num _ _ _ _ _ _ _ _ _ _ Q2.out P2.out).mono ?_
  rintro e w3 ⟨rfl, hb⟩
  have A3 := Lib.hid (A2.out.keep hb)
  have D3 := Lib.hid (D2.out.keep hb)
  have Q3 := Lib.hid (Q2.out.keep hb)
  have R3 := Lib.hid (R2.out.keep hb)
  have P3 := Lib.hid (P2.out.keep hb)
  have S3 := Lib.hid (S2.out.keep hb)
  have B3 := Lib.hid (B2.out.trans (hb.mono B2.out.size))
  clear hb B2 A2 D2 Q2 R2 P2 S2 
  go_wp2_with fail
  refine (same_num _ _ _ _ _ _ _ _ _ _ R3.out S3.out).mono ?_
  rintro e w4 ⟨rfl, hb⟩
  have A4 := Lib.hid (A3.out.keep hb)
  have D4 := Lib.hid (D3.out.keep hb)
  have Q4 := Lib.hid (Q3.out.keep hb)
  have R4 := Lib.hid (R3.out.keep hb)
  have P4 := Lib.hid (P3.out.keep hb)
  have S4 := Lib.hid (S3.out.keep hb)
  have B4 := Lib.hid (B3.out.trans (hb.mono B3.out.size))
  clear hb B3 A3 D3 Q3 R3 P3 S3 
  go_wp2_with fail
  refine (lives_any _).mono ?_
  rintro e w99 ⟨rfl, hb⟩
  have B99 := Lib.hid (B4.out.trans (hb.mono B4.out.size))
  clear hb
  go_wp2
  go_ret
  exact ⟨rfl, B99.out⟩
set_option maxRecDepth 100000 in
set_option maxHeartbeats 2000000 in
theorem divides_main (a0 a1 : Option Addr) (l0 c0 l1 c1 : Nat) (w : World) (bv : Bool) (v1 : Calls Tryd.prog 7 #[.slice a0 l0 c0] w fun e w' => e = .returned (.bool bv) ∧ w = w') (v2 : Calls Tryd.prog 8 #[.slice a0 l0 c0] w fun e w' => e = .returned (.bool bv) ∧ w = w') (xs ys : List Nat) (a b : Nat) (N0 : Num w a0 l0 c0 xs a) (N1 : Num w a1 l1 c1 ys b) (h0 : l0 ≤ 10) (h1 : l1 ≤ 10) (hb0 : 0 < b) (f0 : Calls Tryd.prog 9 #[.slice a0 l0 c0, .int .i64 10] w fun e w'' => e = .returned (.bool true) ∧ w = w'') (f1 : Calls Tryd.prog 9 #[.slice a1 l1 c1, .int .i64 10] w fun e w'' => e = .returned (.bool true) ∧ w = w'') : Calls Tryd.prog 3 #[.slice a0 l0 c0, .slice a1 l1 c1] w (Gives (.bool true) w) := by
  have e1 : (bv != bv) = false := by cases bv <;> rfl
  have V1 := Lib.hid v1
  have V2 := Lib.hid v2
  have F0 := Lib.hid f0
  have F1 := Lib.hid f1
  have A0 := Lib.hid N0
  have D0 := Lib.hid N1
  have pa := Lib.hid (N0.below h0)
  have pb := Lib.hid (N1.below h1)
  have pq := Lib.hid (pw_le (Nat.div_le_self a b) (N0.below h0))
  have pr := Lib.hid (pw_le (Nat.le_of_lt (Nat.mod_lt a hb0)) (N1.below h1))
  have pm := Lib.hid (pw_le (Nat.div_mul_le_self a b) (N0.below h0))
  have ce := Lib.hid (cmpI_lt (Nat.mod_lt a hb0))
  have ee : Hid (a / b * b + a % b = a) := Lib.hid (by rw [Nat.mul_comm]; exact Nat.div_add_mod a b)
  have HB := Lib.hid hb0
  have B0 := Lib.hid (Below.refl w.heap.size w)
  clear v1 v2 f0 f1 N0 N1 hb0
  go_enter Tryd.func3, Tryd.ntmps3
  go_wp2_with fail
  refine (V1.out).mono ?_
  rintro e w' ⟨rfl, rfl⟩
  go_wp2_with fail
  refine (V2.out).mono ?_
  rintro e w' ⟨rfl, rfl⟩
  go_wp2_with fail
  refine (F0.out).mono ?_
  rintro e w' ⟨rfl, rfl⟩
  go_wp2_with fail
  refine (F1.out).mono ?_
  rintro e w' ⟨rfl, rfl⟩
  go_wp2_with fail
  refine (divMod_s A0.out D0.out HB.out pa.out pb.out (by decide) (by decide)).mono ?_
  rintro e w1 ⟨_, _, _, _, _, _, _, _, rfl, hq, hr, hb⟩
  have Q1 := Lib.hid (hq)
  have R1 := Lib.hid (hr)
  have A1 := Lib.hid (A0.out.keep hb)
  have D1 := Lib.hid (D0.out.keep hb)
  have B1 := Lib.hid (B0.out.trans (hb.mono B0.out.size))
  clear hb B0 A0 D0 hq hr
  go_wp2_with fail
  refine (rdivMod_s A1.out D1.out HB.out pa.out pb.out (by decide) (by decide)).mono ?_
  rintro e w2 ⟨_, _, _, _, _, _, _, _, rfl, hq, hr, hb⟩
  have P2 := Lib.hid (hq)
  have S2 := Lib.hid (hr)
  have A2 := Lib.hid (A1.out.keep hb)
  have D2 := Lib.hid (D1.out.keep hb)
  have Q2 := Lib.hid (Q1.out.keep hb)
  have R2 := Lib.hid (R1.out.keep hb)
  have B2 := Lib.hid (B1.out.trans (hb.mono B1.out.size))
  clear hb B1 A1 D1 Q1 R1 hq hr
  go_wp2_with fail
  refine (same_num _ _ _ _ _ _ _ _ _ _ Q2.out P2.out).mono ?_
  rintro e w3 ⟨rfl, hb⟩
  have A3 := Lib.hid (A2.out.keep hb)
  have D3 := Lib.hid (D2.out.keep hb)
  have Q3 := Lib.hid (Q2.out.keep hb)
  have R3 := Lib.hid (R2.out.keep hb)
  have S3 := Lib.hid (S2.out.keep hb)
  have B3 := Lib.hid (B2.out.trans (hb.mono B2.out.size))
  clear hb B2 A2 D2 Q2 R2 P2 S2 
  go_wp2_with fail
  refine (same_num _ _ _ _ _ _ _ _ _ _ R3.out S3.out).mono ?_
  rintro e w4 ⟨rfl, hb⟩
  have A4 := Lib.hid (A3.out.keep hb)
  have D4 := Lib.hid (D3.out.keep hb)
  have Q4 := Lib.hid (Q3.out.keep hb)
  have R4 := Lib.hid (R3.out.keep hb)
  have B4 := Lib.hid (B3.out.trans (hb.mono B3.out.size))
  clear hb B3 A3 D3 Q3 R3 S3 
  go_wp2_with fail
  refine (cmp_q R4.out D4.out ce.out).mono ?_
  rintro e w5 ⟨rfl, hb⟩
  have A5 := Lib.hid (A4.out.keep hb)
  have D5 := Lib.hid (D4.out.keep hb)
  have Q5 := Lib.hid (Q4.out.keep hb)
  have R5 := Lib.hid (R4.out.keep hb)
  have B5 := Lib.hid (B4.out.trans (hb.mono B4.out.size))
  clear hb B4 A4 D4 Q4 R4 
  go_wp2_with fail
  refine (mul_s Q5.out D5.out pq.out pb.out (by decide) (by decide)).mono ?_
  rintro e w6 ⟨_, _, _, _, rfl, hn, hb⟩
  have M6 := Lib.hid (hn)
  have A6 := Lib.hid (A5.out.keep hb)
  have D6 := Lib.hid (D5.out.keep hb)
  have Q6 := Lib.hid (Q5.out.keep hb)
  have R6 := Lib.hid (R5.out.keep hb)
  have B6 := Lib.hid (B5.out.trans (hb.mono B5.out.size))
  clear hb B5 A5 D5 Q5 R5 hn
  go_wp2_with fail
  refine (add_s M6.out R6.out pm.out pr.out (by decide) (by decide)).mono ?_
  rintro e w7 ⟨_, _, _, _, rfl, hn, hb⟩
  have T7 := Lib.hid (hn)
  have A7 := Lib.hid (A6.out.keep hb)
  have D7 := Lib.hid (D6.out.keep hb)
  have Q7 := Lib.hid (Q6.out.keep hb)
  have R7 := Lib.hid (R6.out.keep hb)
  have M7 := Lib.hid (M6.out.keep hb)
  have B7 := Lib.hid (B6.out.trans (hb.mono B6.out.size))
  clear hb B6 A6 D6 Q6 R6 M6 hn
  go_wp2_with fail
  refine (same_num _ _ _ _ _ _ _ _ _ _ (Num.to T7.out ee.out) A7.out).mono ?_
  rintro e w8 ⟨rfl, hb⟩
  have A8 := Lib.hid (A7.out.keep hb)
  have D8 := Lib.hid (D7.out.keep hb)
  have Q8 := Lib.hid (Q7.out.keep hb)
  have R8 := Lib.hid (R7.out.keep hb)
  have M8 := Lib.hid (M7.out.keep hb)
  have T8 := Lib.hid (T7.out.keep hb)
  have B8 := Lib.hid (B7.out.trans (hb.mono B7.out.size))
  clear hb B7 A7 D7 Q7 R7 M7 T7 
  go_wp2_with fail
  refine (lives_any _).mono ?_
  rintro e w99 ⟨rfl, hb⟩
  have B99 := Lib.hid (B8.out.trans (hb.mono B8.out.size))
  clear hb
  go_wp2
  go_ret
  exact ⟨rfl, B99.out⟩
theorem divides_walk (a0 : Option Addr) (l0 c0 : Nat) (z0 : List Int) (a1 : Option Addr) (l1 c1 : Nat) (z1 : List Int) (w : World) (w0 : IsRow .u32 w a0 l0 c0 z0) (w1 : IsRow .u32 w a1 l1 c1 z1) : Calls Tryd.prog 3 #[.slice a0 l0 c0, .slice a1 l1 c1] w (Gives (.bool true) w) := by
  obtain ⟨bv, v1, v2⟩ := w0.valid
  rcases w0.few 10 (by decide) with f0 | ⟨h0, xs, a, N0, f0⟩
  · exact divides_no0 a0 a1 l0 c0 l1 c1 w bv v1 v2 (f0 w (Below.refl _ _))
  · rcases w1.few 10 (by decide) with f1 | ⟨h1, ys, b, N1, f1⟩
    · exact divides_no1 a0 a1 l0 c0 l1 c1 w bv v1 v2 (f0 w (Below.refl _ _)) (f1 w (Below.refl _ _))
    · rcases Nat.eq_zero_or_pos b with hb | hb
      · subst hb
        obtain rfl := N1.nzero
        exact divides_zero a0 a1 l0 c0 c1 w bv v1 v2 xs ys a N0 N1 (f0 w (Below.refl _ _)) (f1 w (Below.refl _ _))
      · exact divides_main a0 a1 l0 c0 l1 c1 w bv v1 v2 xs ys a b N0 N1 h0 h1 hb (f0 w (Below.refl _ _)) (f1 w (Below.refl _ _))
end Go.Proofs.YtgmjpkkpkdcncaaDoor
