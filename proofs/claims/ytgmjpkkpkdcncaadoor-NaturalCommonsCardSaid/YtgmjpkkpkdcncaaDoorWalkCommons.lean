/- The walk of NaturalCommons: no claim of its own. -/
import Derived.Test.YtgmjpkkpkdcncaaDoorShort
import Derived.Test.YtgmjpkkpkdcncaaDoorRGcd
namespace Go.Proofs.YtgmjpkkpkdcncaaDoor
open Go.RowKit
theorem gcd_s {A B : Option Addr} {n c m d a b i j : Nat} {xs ys : List Nat} {w : World} (hx : Num w A n c xs a) (hy : Num w B m d ys b) (ha : a < 4294967296 ^ i) (hb : b < 4294967296 ^ j) (hi : i ≤ 900000) (hj : j ≤ 900000) :
    Calls Tryd.prog 17 #[.slice A n c, .slice B m d] w (GivesNum (Nat.gcd a b) w) := gcd_any A B n c m d a b xs ys w hx hy (hx.sh ha hi) (hy.sh hb hj)
theorem rgcd_s {A B : Option Addr} {n c m d a b i j : Nat} {xs ys : List Nat} {w : World} (hx : Num w A n c xs a) (hy : Num w B m d ys b) (ha : a < 4294967296 ^ i) (hb : b < 4294967296 ^ j) (hi : i ≤ 900000) (hj : j ≤ 900000) :
    Calls Tryd.prog 18 #[.slice A n c, .slice B m d] w (GivesNum (Nat.gcd a b) w) := rgcd_any A B n c m d a b xs ys w hx hy (hx.sh ha hi) (hy.sh hb hj)
theorem gcd_pw {a b i : Nat} (ha : a < 4294967296 ^ i) (hb : b < 4294967296 ^ i) : Nat.gcd a b < 4294967296 ^ i := by
  rcases Nat.eq_zero_or_pos a with h | h
  · rw [h, Nat.gcd_zero_left]; exact hb
  · exact pw_le (Nat.gcd_le_left _ h) ha
set_option maxRecDepth 100000 in
set_option maxHeartbeats 1000000 in
theorem commons_no0 (a0 a1 : Option Addr) (l0 c0 l1 c1 : Nat) (w : World) (f0 : Calls Tryd.prog 9 #[.slice a0 l0 c0, .int .i64 6] w fun e w'' => e = .returned (.bool false) ∧ w = w'') : Calls Tryd.prog 4 #[.slice a0 l0 c0, .slice a1 l1 c1] w (Gives (.bool true) w) := by
  have F0 := Lib.hid f0
  have B0 := Lib.hid (Below.refl w.heap.size w)
  clear f0
  go_enter Tryd.func4, Tryd.ntmps4
  go_wp2_with fail
  refine (F0.out).mono ?_
  rintro e w' ⟨rfl, rfl⟩
  go_wp2_with fail
  refine (lives_any _).mono ?_
  rintro e w99 ⟨rfl, hb⟩
  have B99 := Lib.hid (B0.out.trans (hb.mono B0.out.size))
  clear hb
  go_wp2
  go_ret
  exact ⟨rfl, B99.out⟩
set_option maxRecDepth 100000 in
set_option maxHeartbeats 1000000 in
theorem commons_no1 (a0 a1 : Option Addr) (l0 c0 l1 c1 : Nat) (w : World) (f0 : Calls Tryd.prog 9 #[.slice a0 l0 c0, .int .i64 6] w fun e w'' => e = .returned (.bool true) ∧ w = w'') (f1 : Calls Tryd.prog 9 #[.slice a1 l1 c1, .int .i64 6] w fun e w'' => e = .returned (.bool false) ∧ w = w'') : Calls Tryd.prog 4 #[.slice a0 l0 c0, .slice a1 l1 c1] w (Gives (.bool true) w) := by
  have F0 := Lib.hid f0
  have F1 := Lib.hid f1
  have B0 := Lib.hid (Below.refl w.heap.size w)
  clear f0 f1
  go_enter Tryd.func4, Tryd.ntmps4
  go_wp2_with fail
  refine (F0.out).mono ?_
  rintro e w' ⟨rfl, rfl⟩
  go_wp2_with fail
  refine (F1.out).mono ?_
  rintro e w' ⟨rfl, rfl⟩
  go_wp2_with fail
  refine (lives_any _).mono ?_
  rintro e w99 ⟨rfl, hb⟩
  have B99 := Lib.hid (B0.out.trans (hb.mono B0.out.size))
  clear hb
  go_wp2
  go_ret
  exact ⟨rfl, B99.out⟩
set_option maxRecDepth 100000 in
set_option maxHeartbeats 1000000 in
theorem commons_zero (a0 a1 : Option Addr) (c0 c1 : Nat) (w : World) (xs ys : List Nat) (N0 : Num w a0 0 c0 xs 0) (N1 : Num w a1 0 c1 ys 0) (f0 : Calls Tryd.prog 9 #[.slice a0 0 c0, .int .i64 6] w fun e w'' => e = .returned (.bool true) ∧ w = w'') (f1 : Calls Tryd.prog 9 #[.slice a1 0 c1, .int .i64 6] w fun e w'' => e = .returned (.bool true) ∧ w = w'') : Calls Tryd.prog 4 #[.slice a0 0 c0, .slice a1 0 c1] w (Gives (.bool true) w) := by
  have F0 := Lib.hid f0
  have F1 := Lib.hid f1
  have A0 := Lib.hid N0
  have D0 := Lib.hid N1
  have z1 : Hid ((0 : Nat) < 4294967296 ^ 1) := Lib.hid (by decide)
  have B0 := Lib.hid (Below.refl w.heap.size w)
  clear f0 f1 N0 N1
  go_enter Tryd.func4, Tryd.ntmps4
  go_wp2_with fail
  refine (F0.out).mono ?_
  rintro e w' ⟨rfl, rfl⟩
  go_wp2_with fail
  refine (F1.out).mono ?_
  rintro e w' ⟨rfl, rfl⟩
  go_wp2_with fail
  refine (gcd_s A0.out D0.out z1.out z1.out (by decide) (by decide)).mono ?_
  rintro e w1 ⟨Ag, ng, cg, xg, rfl, hn, hb⟩
  obtain rfl := Num.nzero (hn.to (Nat.gcd_zero_left 0))
  have G1 := Lib.hid (hn.to (Nat.gcd_zero_left 0))
  have A1 := Lib.hid (A0.out.keep hb)
  have D1 := Lib.hid (D0.out.keep hb)
  have B1 := Lib.hid (B0.out.trans (hb.mono B0.out.size))
  clear hn hb A0 D0 B0
  go_wp2_with fail
  refine (rgcd_s A1.out D1.out z1.out z1.out (by decide) (by decide)).mono ?_
  rintro e w2 ⟨_, _, _, _, rfl, hn, hb⟩
  have H2 := Lib.hid (hn)
  have A2 := Lib.hid (A1.out.keep hb)
  have D2 := Lib.hid (D1.out.keep hb)
  have G2 := Lib.hid (G1.out.keep hb)
  have B2 := Lib.hid (B1.out.trans (hb.mono B1.out.size))
  clear hb B1 A1 D1 G1 hn
  go_wp2_with fail
  refine (same_num _ _ _ _ _ _ _ _ _ _ G2.out (Num.to H2.out (Nat.gcd_zero_left 0))).mono ?_
  rintro e w3 ⟨rfl, hb⟩
  have A3 := Lib.hid (A2.out.keep hb)
  have D3 := Lib.hid (D2.out.keep hb)
  have G3 := Lib.hid (G2.out.keep hb)
  have H3 := Lib.hid (H2.out.keep hb)
  have B3 := Lib.hid (B2.out.trans (hb.mono B2.out.size))
  clear hb B2 A2 D2 G2 H2 
  go_wp2_with fail
  refine (lives_any _).mono ?_
  rintro e w99 ⟨rfl, hb⟩
  have B99 := Lib.hid (B3.out.trans (hb.mono B3.out.size))
  clear hb
  go_wp2
  go_ret
  exact ⟨rfl, B99.out⟩
set_option maxRecDepth 100000 in
set_option maxHeartbeats 2000000 in
theorem commons_main (a0 a1 : Option Addr) (l0 c0 l1 c1 : Nat) (w : World) (xs ys : List Nat) (a b : Nat) (N0 : Num w a0 l0 c0 xs a) (N1 : Num w a1 l1 c1 ys b) (h0 : l0 ≤ 6) (h1 : l1 ≤ 6) (hg0 : 0 < Nat.gcd a b) (f0 : Calls Tryd.prog 9 #[.slice a0 l0 c0, .int .i64 6] w fun e w'' => e = .returned (.bool true) ∧ w = w'') (f1 : Calls Tryd.prog 9 #[.slice a1 l1 c1, .int .i64 6] w fun e w'' => e = .returned (.bool true) ∧ w = w'') : Calls Tryd.prog 4 #[.slice a0 l0 c0, .slice a1 l1 c1] w (Gives (.bool true) w) := by
  have F0 := Lib.hid f0
  have F1 := Lib.hid f1
  have A0 := Lib.hid N0
  have D0 := Lib.hid N1
  have pa := Lib.hid (N0.below h0)
  have pb := Lib.hid (N1.below h1)
  have pg := Lib.hid (gcd_pw (N0.below h0) (N1.below h1))
  have ra : Hid (a % Nat.gcd a b = 0) := Lib.hid (Nat.mod_eq_zero_of_dvd (Nat.gcd_dvd_left a b))
  have rb : Hid (b % Nat.gcd a b = 0) := Lib.hid (Nat.mod_eq_zero_of_dvd (Nat.gcd_dvd_right a b))
  have HG := Lib.hid hg0
  have B0 := Lib.hid (Below.refl w.heap.size w)
  clear f0 f1 N0 N1 hg0
  go_enter Tryd.func4, Tryd.ntmps4
  go_wp2_with fail
  refine (F0.out).mono ?_
  rintro e w' ⟨rfl, rfl⟩
  go_wp2_with fail
  refine (F1.out).mono ?_
  rintro e w' ⟨rfl, rfl⟩
  go_wp2_with fail
  refine (gcd_s A0.out D0.out pa.out pb.out (by decide) (by decide)).mono ?_
  rintro e w1 ⟨Ag, ng, cg, xg, rfl, hn, hb⟩
  have hgz : ((ng : Int) == 0) = false := beq_eq_false_iff_ne.2 (by have := hn.npos HG.out; omega)
  have G1 := Lib.hid hn
  have A1 := Lib.hid (A0.out.keep hb)
  have D1 := Lib.hid (D0.out.keep hb)
  have B1 := Lib.hid (B0.out.trans (hb.mono B0.out.size))
  clear hn hb A0 D0 B0
  go_wp2_with fail
  refine (rgcd_s A1.out D1.out pa.out pb.out (by decide) (by decide)).mono ?_
  rintro e w2 ⟨_, _, _, _, rfl, hn, hb⟩
  have H2 := Lib.hid (hn)
  have A2 := Lib.hid (A1.out.keep hb)
  have D2 := Lib.hid (D1.out.keep hb)
  have G2 := Lib.hid (G1.out.keep hb)
  have B2 := Lib.hid (B1.out.trans (hb.mono B1.out.size))
  clear hb B1 A1 D1 G1 hn
  go_wp2_with fail
  refine (same_num _ _ _ _ _ _ _ _ _ _ G2.out H2.out).mono ?_
  rintro e w3 ⟨rfl, hb⟩
  have A3 := Lib.hid (A2.out.keep hb)
  have D3 := Lib.hid (D2.out.keep hb)
  have G3 := Lib.hid (G2.out.keep hb)
  have B3 := Lib.hid (B2.out.trans (hb.mono B2.out.size))
  clear hb B2 A2 D2 G2 H2 
  go_wp2_with fail
  refine (divMod_s A3.out G3.out HG.out pa.out pg.out (by decide) (by decide)).mono ?_
  rintro e w4 ⟨_, _, _, _, _, n4, _, _, rfl, _, hr, hb⟩
  obtain rfl := Num.nzero (hr.to ra.out)
  have A4 := Lib.hid (A3.out.keep hb)
  have D4 := Lib.hid (D3.out.keep hb)
  have G4 := Lib.hid (G3.out.keep hb)
  have B4 := Lib.hid (B3.out.trans (hb.mono B3.out.size))
  clear hb hr B3 A3 D3 G3
  go_wp2_with fail
  refine (divMod_s D4.out G4.out HG.out pb.out pg.out (by decide) (by decide)).mono ?_
  rintro e w5 ⟨_, _, _, _, _, n5, _, _, rfl, _, hr, hb⟩
  obtain rfl := Num.nzero (hr.to rb.out)
  have A5 := Lib.hid (A4.out.keep hb)
  have D5 := Lib.hid (D4.out.keep hb)
  have G5 := Lib.hid (G4.out.keep hb)
  have B5 := Lib.hid (B4.out.trans (hb.mono B4.out.size))
  clear hb hr B4 A4 D4 G4
  go_wp2_with fail
  refine (lives_any _).mono ?_
  rintro e w99 ⟨rfl, hb⟩
  have B99 := Lib.hid (B5.out.trans (hb.mono B5.out.size))
  clear hb
  go_wp2
  go_ret
  exact ⟨rfl, B99.out⟩
theorem commons_walk (a0 : Option Addr) (l0 c0 : Nat) (z0 : List Int) (a1 : Option Addr) (l1 c1 : Nat) (z1 : List Int) (w : World) (w0 : IsRow .u32 w a0 l0 c0 z0) (w1 : IsRow .u32 w a1 l1 c1 z1) : Calls Tryd.prog 4 #[.slice a0 l0 c0, .slice a1 l1 c1] w (Gives (.bool true) w) := by
  rcases w0.few 6 (by decide) with f0 | ⟨h0, xs, a, N0, f0⟩
  · exact commons_no0 a0 a1 l0 c0 l1 c1 w (f0 w (Below.refl _ _))
  · rcases w1.few 6 (by decide) with f1 | ⟨h1, ys, b, N1, f1⟩
    · exact commons_no1 a0 a1 l0 c0 l1 c1 w (f0 w (Below.refl _ _)) (f1 w (Below.refl _ _))
    · rcases Nat.eq_zero_or_pos (Nat.gcd a b) with hg | hg
      · have ha : a = 0 := Nat.eq_zero_of_gcd_eq_zero_left hg
        have hb : b = 0 := Nat.eq_zero_of_gcd_eq_zero_right hg
        subst ha
        subst hb
        obtain rfl := N0.nzero
        obtain rfl := N1.nzero
        exact commons_zero a0 a1 c0 c1 w xs ys N0 N1 (f0 w (Below.refl _ _)) (f1 w (Below.refl _ _))
      · exact commons_main a0 a1 l0 c0 l1 c1 w xs ys a b N0 N1 h0 h1 hg (f0 w (Below.refl _ _)) (f1 w (Below.refl _ _))
end Go.Proofs.YtgmjpkkpkdcncaaDoor
