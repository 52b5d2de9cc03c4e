/- The walk of NaturalRing: no claim of its own. -/
import Derived.Test.YtbjkkiehpfnogaaDoorWalkAdds
import Derived.Test.YtbjkkiehpfnogaaDoorRMul
namespace Go.Proofs.YtbjkkiehpfnogaaDoor
open Go.RowKit
theorem Num.to {w : World} {A : Option Addr} {n c a b : Nat} {xs : List Nat} (h : Num w A n c xs a) (e : a = b) : Num w A n c xs b := e ▸ h
theorem pw_add {x y i j k : Nat} (hx : x < 4294967296 ^ i) (hy : y < 4294967296 ^ j) (h1 : i < k) (h2 : j < k) : x + y < 4294967296 ^ k := by
  have a1 : (4294967296 : Nat) ^ i ≤ 4294967296 ^ (k - 1) := Nat.pow_le_pow_right (by decide) (by omega)
  have a2 : (4294967296 : Nat) ^ j ≤ 4294967296 ^ (k - 1) := Nat.pow_le_pow_right (by decide) (by omega)
  have a3 : (4294967296 : Nat) ^ k = 4294967296 ^ (k - 1) * 4294967296 := by
    rw [← Nat.pow_succ, Nat.succ_eq_add_one, show k - 1 + 1 = k by omega]
  have a4 : 4294967296 ^ (k - 1) * 2 ≤ 4294967296 ^ (k - 1) * 4294967296 := Nat.mul_le_mul_left _ (by decide)
  rw [a3]
  generalize (4294967296 : Nat) ^ (k - 1) * 4294967296 = Y at *
  omega
theorem pw_mul {x y i j : Nat} (hx : x < 4294967296 ^ i) (hy : y < 4294967296 ^ j) : x * y < 4294967296 ^ (i + j) := by
  rw [Nat.pow_add]
  exact Nat.mul_lt_mul'' hx hy
theorem Num.below {w : World} {A : Option Addr} {n c a k : Nat} {xs : List Nat} (h : Num w A n c xs a) (hn : n ≤ k) : a < 4294967296 ^ k :=
  Nat.lt_of_lt_of_le h.lt_pow (Nat.pow_le_pow_right (by decide) hn)
/-- Its list is short. -/
theorem Num.sh {w : World} {A : Option Addr} {n c a k : Nat} {xs : List Nat} (h : Num w A n c xs a) (ha : a < 4294967296 ^ k) (hk : k ≤ 1000000) : n ≤ 1000000 := Nat.le_trans (h.len_le ha) hk
theorem add_s {A B : Option Addr} {n c m d a b i j : Nat} {xs ys : List Nat} {w : World} (hx : Num w A n c xs a) (hy : Num w B m d ys b) (ha : a < 4294967296 ^ i) (hb : b < 4294967296 ^ j) (hi : i ≤ 1000000) (hj : j ≤ 1000000) :
    Calls Tryd.prog 19 #[.slice A n c, .slice B m d] w (GivesNum (a + b) w) := add_any A B n c m d a b xs ys w hx hy (hx.sh ha hi) (hy.sh hb hj)
theorem mul_s {A B : Option Addr} {n c m d a b i j : Nat} {xs ys : List Nat} {w : World} (hx : Num w A n c xs a) (hy : Num w B m d ys b) (ha : a < 4294967296 ^ i) (hb : b < 4294967296 ^ j) (hi : i ≤ 1000000) (hj : j ≤ 1000000) :
    Calls Tryd.prog 20 #[.slice A n c, .slice B m d] w (GivesNum (a * b) w) := mul_any A B n c m d a b xs ys w hx hy (hx.sh ha hi) (hy.sh hb hj)
set_option maxRecDepth 100000 in
set_option maxHeartbeats 4000000 in
theorem ring_yes (a0 a1 a2 : Option Addr) (l0 c0 l1 c1 l2 c2 : Nat) (w : World) (xs ys zs : List Nat) (a b c : Nat) (N0 : Num w a0 l0 c0 xs a) (N1 : Num w a1 l1 c1 ys b) (N2 : Num w a2 l2 c2 zs c) (h0 : l0 ≤ 12) (h1 : l1 ≤ 12) (h2 : l2 ≤ 12)
    (f0 : Calls Tryd.prog 13 #[.slice a0 l0 c0, .int .i64 12] w fun e w'' => e = .returned (.bool true) ∧ w = w'') (f1 : Calls Tryd.prog 13 #[.slice a1 l1 c1, .int .i64 12] w fun e w'' => e = .returned (.bool true) ∧ w = w'') (f2 : Calls Tryd.prog 13 #[.slice a2 l2 c2, .int .i64 12] w fun e w'' => e = .returned (.bool true) ∧ w = w'') :
    Calls Tryd.prog 10 #[.slice a0 l0 c0, .slice a1 l1 c1, .slice a2 l2 c2] w (Gives (.bool true) w) := by
  have A0 := Lib.hid N0
  have B_0 := Lib.hid N1
  have C0 := Lib.hid N2
  have pa := Lib.hid (N0.below h0)
  have pb := Lib.hid (N1.below h1)
  have pc := Lib.hid (N2.below h2)
  have hz : Hid (decide (b ≤ a + b) = true) := Lib.hid (decide_eq_true (by omega))
  have B0 := Lib.hid (Below.refl w.heap.size w)
  have F0 := Lib.hid f0
  have F1 := Lib.hid f1
  have F2 := Lib.hid f2
  clear N0 N1 N2 f0 f1 f2
  go_enter Tryd.func10, Tryd.ntmps10
  go_wp2_with fail
  refine F0.out.mono ?_
  rintro e w' ⟨rfl, rfl⟩
  go_wp2_with fail
  refine F1.out.mono ?_
  rintro e w' ⟨rfl, rfl⟩
  go_wp2_with fail
  refine F2.out.mono ?_
  rintro e w' ⟨rfl, rfl⟩
  clear F0 F1 F2
  go_wp2_with fail
  refine (add_s A0.out B_0.out pa.out pb.out (by decide) (by decide)).mono ?_
  rintro e w1 ⟨_, _, _, _, rfl, hn, hb⟩
  have P1 := Lib.hid (hn)
  have A1 := Lib.hid (A0.out.keep hb)
  have B_1 := Lib.hid (B_0.out.keep hb)
  have C1 := Lib.hid (C0.out.keep hb)
  have B1 := Lib.hid (B0.out.trans (hb.mono B0.out.size))
  clear hb B0 A0 B_0 C0 hn
  go_wp2_with fail
  refine (add_s B_1.out A1.out pb.out pa.out (by decide) (by decide)).mono ?_
  rintro e w2 ⟨_, _, _, _, rfl, hn, hb⟩
  have Q2 := Lib.hid (hn)
  have A2 := Lib.hid (A1.out.keep hb)
  have B_2 := Lib.hid (B_1.out.keep hb)
  have C2 := Lib.hid (C1.out.keep hb)
  have P2 := Lib.hid (P1.out.keep hb)
  have B2 := Lib.hid (B1.out.trans (hb.mono B1.out.size))
  clear hb B1 A1 B_1 C1 P1 hn
  go_wp2_with fail
  refine (same_num _ _ _ _ _ _ _ _ _ _ P2.out (Q2.out.to (Nat.add_comm _ _))).mono ?_
  rintro e w3 ⟨rfl, hb⟩
  have A3 := Lib.hid (A2.out.keep hb)
  have B_3 := Lib.hid (B_2.out.keep hb)
  have C3 := Lib.hid (C2.out.keep hb)
  have B3 := Lib.hid (B2.out.trans (hb.mono B2.out.size))
  clear hb B2 A2 B_2 C2 P2 Q2 
  go_wp2_with fail
  refine (mul_s A3.out B_3.out pa.out pb.out (by decide) (by decide)).mono ?_
  rintro e w4 ⟨_, _, _, _, rfl, hn, hb⟩
  have P4 := Lib.hid (hn)
  have A4 := Lib.hid (A3.out.keep hb)
  have B_4 := Lib.hid (B_3.out.keep hb)
  have C4 := Lib.hid (C3.out.keep hb)
  have B4 := Lib.hid (B3.out.trans (hb.mono B3.out.size))
  clear hb B3 A3 B_3 C3 hn
  go_wp2_with fail
  refine (mul_s B_4.out A4.out pb.out pa.out (by decide) (by decide)).mono ?_
  rintro e w5 ⟨_, _, _, _, rfl, hn, hb⟩
  have Q5 := Lib.hid (hn)
  have A5 := Lib.hid (A4.out.keep hb)
  have B_5 := Lib.hid (B_4.out.keep hb)
  have C5 := Lib.hid (C4.out.keep hb)
  have P5 := Lib.hid (P4.out.keep hb)
  have B5 := Lib.hid (B4.out.trans (hb.mono B4.out.size))
  clear hb B4 A4 B_4 C4 P4 hn
  go_wp2_with fail
  refine (same_num _ _ _ _ _ _ _ _ _ _ P5.out (Q5.out.to (Nat.mul_comm _ _))).mono ?_
  rintro e w6 ⟨rfl, hb⟩
  have A6 := Lib.hid (A5.out.keep hb)
  have B_6 := Lib.hid (B_5.out.keep hb)
  have C6 := Lib.hid (C5.out.keep hb)
  have B6 := Lib.hid (B5.out.trans (hb.mono B5.out.size))
  clear hb B5 A5 B_5 C5 P5 Q5 
  go_wp2_with fail
  refine (add_s A6.out B_6.out pa.out pb.out (by decide) (by decide)).mono ?_
  rintro e w7 ⟨_, _, _, _, rfl, hn, hb⟩
  have P7 := Lib.hid (hn)
  have A7 := Lib.hid (A6.out.keep hb)
  have B_7 := Lib.hid (B_6.out.keep hb)
  have C7 := Lib.hid (C6.out.keep hb)
  have B7 := Lib.hid (B6.out.trans (hb.mono B6.out.size))
  clear hb B6 A6 B_6 C6 hn
  go_wp2_with fail
  refine (add_s P7.out C7.out (pw_add (k := 13) pa.out pb.out (by decide) (by decide)) pc.out (by decide) (by decide)).mono ?_
  rintro e w8 ⟨_, _, _, _, rfl, hn, hb⟩
  have Q8 := Lib.hid (hn)
  have A8 := Lib.hid (A7.out.keep hb)
  have B_8 := Lib.hid (B_7.out.keep hb)
  have C8 := Lib.hid (C7.out.keep hb)
  have B8 := Lib.hid (B7.out.trans (hb.mono B7.out.size))
  clear hb B7 A7 B_7 C7 P7 hn
  go_wp2_with fail
  refine (add_s B_8.out C8.out pb.out pc.out (by decide) (by decide)).mono ?_
  rintro e w9 ⟨_, _, _, _, rfl, hn, hb⟩
  have R9 := Lib.hid (hn)
  have A9 := Lib.hid (A8.out.keep hb)
  have B_9 := Lib.hid (B_8.out.keep hb)
  have C9 := Lib.hid (C8.out.keep hb)
  have Q9 := Lib.hid (Q8.out.keep hb)
  have B9 := Lib.hid (B8.out.trans (hb.mono B8.out.size))
  clear hb B8 A8 B_8 C8 Q8 hn
  go_wp2_with fail
  refine (add_s A9.out R9.out pa.out (pw_add (k := 13) pb.out pc.out (by decide) (by decide)) (by decide) (by decide)).mono ?_
  rintro e w10 ⟨_, _, _, _, rfl, hn, hb⟩
  have T10 := Lib.hid (hn)
  have A10 := Lib.hid (A9.out.keep hb)
  have B_10 := Lib.hid (B_9.out.keep hb)
  have C10 := Lib.hid (C9.out.keep hb)
  have Q10 := Lib.hid (Q9.out.keep hb)
  have B10 := Lib.hid (B9.out.trans (hb.mono B9.out.size))
  clear hb B9 A9 B_9 C9 Q9 R9 hn
  go_wp2_with fail
  refine (same_num _ _ _ _ _ _ _ _ _ _ Q10.out (T10.out.to (Nat.add_assoc _ _ _).symm)).mono ?_
  rintro e w11 ⟨rfl, hb⟩
  have A11 := Lib.hid (A10.out.keep hb)
  have B_11 := Lib.hid (B_10.out.keep hb)
  have C11 := Lib.hid (C10.out.keep hb)
  have B11 := Lib.hid (B10.out.trans (hb.mono B10.out.size))
  clear hb B10 A10 B_10 C10 Q10 T10 
  go_wp2_with fail
  refine (mul_s A11.out B_11.out pa.out pb.out (by decide) (by decide)).mono ?_
  rintro e w12 ⟨_, _, _, _, rfl, hn, hb⟩
  have P12 := Lib.hid (hn)
  have A12 := Lib.hid (A11.out.keep hb)
  have B_12 := Lib.hid (B_11.out.keep hb)
  have C12 := Lib.hid (C11.out.keep hb)
  have B12 := Lib.hid (B11.out.trans (hb.mono B11.out.size))
  clear hb B11 A11 B_11 C11 hn
  go_wp2_with fail
  refine (mul_s P12.out C12.out (pw_mul pa.out pb.out) pc.out (by decide) (by decide)).mono ?_
  rintro e w13 ⟨_, _, _, _, rfl, hn, hb⟩
  have Q13 := Lib.hid (hn)
  have A13 := Lib.hid (A12.out.keep hb)
  have B_13 := Lib.hid (B_12.out.keep hb)
  have C13 := Lib.hid (C12.out.keep hb)
  have B13 := Lib.hid (B12.out.trans (hb.mono B12.out.size))
  clear hb B12 A12 B_12 C12 P12 hn
  go_wp2_with fail
  refine (mul_s B_13.out C13.out pb.out pc.out (by decide) (by decide)).mono ?_
  rintro e w14 ⟨_, _, _, _, rfl, hn, hb⟩
  have R14 := Lib.hid (hn)
  have A14 := Lib.hid (A13.out.keep hb)
  have B_14 := Lib.hid (B_13.out.keep hb)
  have C14 := Lib.hid (C13.out.keep hb)
  have Q14 := Lib.hid (Q13.out.keep hb)
  have B14 := Lib.hid (B13.out.trans (hb.mono B13.out.size))
  clear hb B13 A13 B_13 C13 Q13 hn
  go_wp2_with fail
  refine (mul_s A14.out R14.out pa.out (pw_mul pb.out pc.out) (by decide) (by decide)).mono ?_
  rintro e w15 ⟨_, _, _, _, rfl, hn, hb⟩
  have T15 := Lib.hid (hn)
  have A15 := Lib.hid (A14.out.keep hb)
  have B_15 := Lib.hid (B_14.out.keep hb)
  have C15 := Lib.hid (C14.out.keep hb)
  have Q15 := Lib.hid (Q14.out.keep hb)
  have B15 := Lib.hid (B14.out.trans (hb.mono B14.out.size))
  clear hb B14 A14 B_14 C14 Q14 R14 hn
  go_wp2_with fail
  refine (same_num _ _ _ _ _ _ _ _ _ _ Q15.out (T15.out.to (Nat.mul_assoc _ _ _).symm)).mono ?_
  rintro e w16 ⟨rfl, hb⟩
  have A16 := Lib.hid (A15.out.keep hb)
  have B_16 := Lib.hid (B_15.out.keep hb)
  have C16 := Lib.hid (C15.out.keep hb)
  have B16 := Lib.hid (B15.out.trans (hb.mono B15.out.size))
  clear hb B15 A15 B_15 C15 Q15 T15 
  go_wp2_with fail
  refine (add_s A16.out B_16.out pa.out pb.out (by decide) (by decide)).mono ?_
  rintro e w17 ⟨_, _, _, _, rfl, hn, hb⟩
  have P17 := Lib.hid (hn)
  have A17 := Lib.hid (A16.out.keep hb)
  have B_17 := Lib.hid (B_16.out.keep hb)
  have C17 := Lib.hid (C16.out.keep hb)
  have B17 := Lib.hid (B16.out.trans (hb.mono B16.out.size))
  clear hb B16 A16 B_16 C16 hn
  go_wp2_with fail
  refine (sub_b P17.out B_17.out hz.out).mono ?_
  rintro e w18 ⟨_, _, _, _, rfl, hn, hb⟩
  have D18 := Lib.hid (hn)
  have A18 := Lib.hid (A17.out.keep hb)
  have B_18 := Lib.hid (B_17.out.keep hb)
  have C18 := Lib.hid (C17.out.keep hb)
  have B18 := Lib.hid (B17.out.trans (hb.mono B17.out.size))
  clear hb B17 A17 B_17 C17 P17 hn
  go_wp2_with fail
  refine (add_s B_18.out C18.out pb.out pc.out (by decide) (by decide)).mono ?_
  rintro e w19 ⟨_, _, _, _, rfl, hn, hb⟩
  have R19 := Lib.hid (hn)
  have A19 := Lib.hid (A18.out.keep hb)
  have B_19 := Lib.hid (B_18.out.keep hb)
  have C19 := Lib.hid (C18.out.keep hb)
  have D19 := Lib.hid (D18.out.keep hb)
  have B19 := Lib.hid (B18.out.trans (hb.mono B18.out.size))
  clear hb B18 A18 B_18 C18 D18 hn
  go_wp2_with fail
  refine (mul_s A19.out R19.out pa.out (pw_add (k := 13) pb.out pc.out (by decide) (by decide)) (by decide) (by decide)).mono ?_
  rintro e w20 ⟨_, _, _, _, rfl, hn, hb⟩
  have T20 := Lib.hid (hn)
  have A20 := Lib.hid (A19.out.keep hb)
  have B_20 := Lib.hid (B_19.out.keep hb)
  have C20 := Lib.hid (C19.out.keep hb)
  have D20 := Lib.hid (D19.out.keep hb)
  have B20 := Lib.hid (B19.out.trans (hb.mono B19.out.size))
  clear hb B19 A19 B_19 C19 D19 R19 hn
  go_wp2_with fail
  refine (mul_s A20.out B_20.out pa.out pb.out (by decide) (by decide)).mono ?_
  rintro e w21 ⟨_, _, _, _, rfl, hn, hb⟩
  have P21 := Lib.hid (hn)
  have A21 := Lib.hid (A20.out.keep hb)
  have B_21 := Lib.hid (B_20.out.keep hb)
  have C21 := Lib.hid (C20.out.keep hb)
  have D21 := Lib.hid (D20.out.keep hb)
  have T21 := Lib.hid (T20.out.keep hb)
  have B21 := Lib.hid (B20.out.trans (hb.mono B20.out.size))
  clear hb B20 A20 B_20 C20 D20 T20 hn
  go_wp2_with fail
  refine (mul_s A21.out C21.out pa.out pc.out (by decide) (by decide)).mono ?_
  rintro e w22 ⟨_, _, _, _, rfl, hn, hb⟩
  have Q22 := Lib.hid (hn)
  have A22 := Lib.hid (A21.out.keep hb)
  have B_22 := Lib.hid (B_21.out.keep hb)
  have C22 := Lib.hid (C21.out.keep hb)
  have D22 := Lib.hid (D21.out.keep hb)
  have T22 := Lib.hid (T21.out.keep hb)
  have P22 := Lib.hid (P21.out.keep hb)
  have B22 := Lib.hid (B21.out.trans (hb.mono B21.out.size))
  clear hb B21 A21 B_21 C21 D21 T21 P21 hn
  go_wp2_with fail
  refine (add_s P22.out Q22.out (pw_mul pa.out pb.out) (pw_mul pa.out pc.out) (by decide) (by decide)).mono ?_
  rintro e w23 ⟨_, _, _, _, rfl, hn, hb⟩
  have U23 := Lib.hid (hn)
  have A23 := Lib.hid (A22.out.keep hb)
  have B_23 := Lib.hid (B_22.out.keep hb)
  have C23 := Lib.hid (C22.out.keep hb)
  have D23 := Lib.hid (D22.out.keep hb)
  have T23 := Lib.hid (T22.out.keep hb)
  have B23 := Lib.hid (B22.out.trans (hb.mono B22.out.size))
  clear hb B22 A22 B_22 C22 D22 T22 P22 Q22 hn
  go_wp2_with fail
  refine (same_num _ _ _ _ _ _ _ _ _ _ T23.out (U23.out.to (Nat.mul_add _ _ _).symm)).mono ?_
  rintro e w24 ⟨rfl, hb⟩
  have A24 := Lib.hid (A23.out.keep hb)
  have B_24 := Lib.hid (B_23.out.keep hb)
  have C24 := Lib.hid (C23.out.keep hb)
  have D24 := Lib.hid (D23.out.keep hb)
  have B24 := Lib.hid (B23.out.trans (hb.mono B23.out.size))
  clear hb B23 A23 B_23 C23 D23 T23 U23 
  go_wp2_with fail
  refine (same_num _ _ _ _ _ _ _ _ _ _ D24.out (A24.out.to (Nat.add_sub_cancel _ _).symm)).mono ?_
  rintro e w25 ⟨rfl, hb⟩
  have A25 := Lib.hid (A24.out.keep hb)
  have B_25 := Lib.hid (B_24.out.keep hb)
  have C25 := Lib.hid (C24.out.keep hb)
  have B25 := Lib.hid (B24.out.trans (hb.mono B24.out.size))
  clear hb B24 A24 B_24 C24 D24 
  go_wp2_with fail
  refine (lives_any _).mono ?_
  rintro e w99 ⟨rfl, hb⟩
  have B99 := Lib.hid (B25.out.trans (hb.mono B25.out.size))
  clear hb
  go_wp2
  go_ret
  exact ⟨rfl, B99.out⟩
set_option maxRecDepth 100000 in
set_option maxHeartbeats 1000000 in
theorem ring_walk (a0 : Option Addr) (l0 c0 : Nat) (z0 : List Int) (a1 : Option Addr) (l1 c1 : Nat) (z1 : List Int) (a2 : Option Addr) (l2 c2 : Nat) (z2 : List Int) (w : World) (w0 : IsRow .u32 w a0 l0 c0 z0) (w1 : IsRow .u32 w a1 l1 c1 z1) (w2 : IsRow .u32 w a2 l2 c2 z2) :
    Calls Tryd.prog 10 #[.slice a0 l0 c0, .slice a1 l1 c1, .slice a2 l2 c2] w (Gives (.bool true) w) := by
  have f0 := w0.few 12 (by decide)
  have f1 := w1.few 12 (by decide)
  have f2 := w2.few 12 (by decide)
  clear w0 w1 w2
  rcases f0 with f0 | ⟨hl0, xs, m, N0, f0⟩
  · have F0 := Lib.hid (f0 w (Below.refl _ _))
    clear f0 f1 f2
    go_enter Tryd.func10, Tryd.ntmps10
    go_wp2_with fail
    refine F0.out.mono ?_
    rintro e w' ⟨rfl, rfl⟩
    go_wp2_with fail
    refine (lives_any _).mono ?_
    rintro e w' ⟨rfl, hb⟩
    have B := Lib.hid hb
    clear hb
    go_wp2
    go_ret
    exact ⟨rfl, B.out⟩
  · rcases f1 with f1 | ⟨hl1, ys, n, N1, f1⟩
    · have F0 := Lib.hid (f0 w (Below.refl _ _))
      have F1 := Lib.hid (f1 w (Below.refl _ _))
      clear f0 f1 f2 N0
      go_enter Tryd.func10, Tryd.ntmps10
      go_wp2_with fail
      refine F0.out.mono ?_
      rintro e w' ⟨rfl, rfl⟩
      go_wp2_with fail
      refine F1.out.mono ?_
      rintro e w' ⟨rfl, rfl⟩
      go_wp2_with fail
      refine (lives_any _).mono ?_
      rintro e w' ⟨rfl, hb⟩
      have B := Lib.hid hb
      clear hb
      go_wp2
      go_ret
      exact ⟨rfl, B.out⟩
    · rcases f2 with f2 | ⟨hl2, zs, k, N2, f2⟩
      · have F0 := Lib.hid (f0 w (Below.refl _ _))
        have F1 := Lib.hid (f1 w (Below.refl _ _))
        have F2 := Lib.hid (f2 w (Below.refl _ _))
        clear f0 f1 f2 N0 N1
        go_enter Tryd.func10, Tryd.ntmps10
        go_wp2_with fail
        refine F0.out.mono ?_
        rintro e w' ⟨rfl, rfl⟩
        go_wp2_with fail
        refine F1.out.mono ?_
        rintro e w' ⟨rfl, rfl⟩
        go_wp2_with fail
        refine F2.out.mono ?_
        rintro e w' ⟨rfl, rfl⟩
        go_wp2_with fail
        refine (lives_any _).mono ?_
        rintro e w' ⟨rfl, hb⟩
        have B := Lib.hid hb
        clear hb
        go_wp2
        go_ret
        exact ⟨rfl, B.out⟩
      · exact ring_yes a0 a1 a2 l0 c0 l1 c1 l2 c2 w xs ys zs m n k N0 N1 N2 hl0 hl1 hl2 (f0 w (Below.refl _ _)) (f1 w (Below.refl _ _)) (f2 w (Below.refl _ _))
end Go.Proofs.YtbjkkiehpfnogaaDoor
