/- The walk of NaturalUints: no claim of its own. -/
import Derived.Test.YtbjkkiehpfnogaaDoorIsRow
import Derived.Test.YtbjkkiehpfnogaaDoorRTrim
namespace Go.Proofs.YtbjkkiehpfnogaaDoor
open Go.RowKit
theorem uint_yes (A : Option Addr) (n c a : Nat) (xs : List Nat) (w : World) (h : Num w A n c xs a) (hn : n ≤ 2) :
    Calls Tryd.prog 29 #[.slice A n c] w fun e w' => e = .returned (.tuple #[.int .u64 (a : Int), .bool true]) ∧ w = w' :=
  (uint_any A n c a xs w h).mono fun e w' ⟨he, hw⟩ => ⟨by rw [he, if_pos hn, decide_eq_true hn], hw⟩
set_option maxRecDepth 100000 in
set_option maxHeartbeats 1000000 in
theorem uints_lt (x y : Nat) (hx : x < 18446744073709551616) (hy : y < 18446744073709551616) (hlt : x < y) (w : World) :
    Calls Tryd.prog 9 #[.int .u64 x, .int .u64 y] w (Gives (.bool true) w) := by
  have F1 := Lib.hid (fun w' => fromUint_any x hx w')
  have F2 := Lib.hid (fun w' => fromUint_any y hy w')
  have F3 := Lib.hid (fun w' => rfromUint_any x hx w')
  have HX := Lib.hid hx
  have hc : Hid (cmpI x y = -1) := Lib.hid (cmpI_lt hlt)
  have he : ((x : Int) == (x : Int)) = true := beq_self_eq_true _
  clear hx hy
  go_enter Tryd.func9, Tryd.ntmps9
  go_wp2_with fail
  refine (F1.out _).mono ?_
  rintro e w1 ⟨A1, l1, c1, x1, rfl, h1, hb1⟩
  have P1 := Lib.hid h1
  have B1 := Lib.hid hb1
  have L1 := Lib.hid (h1.small.2 HX.out)
  clear h1 hb1
  go_wp2_with fail
  refine (F2.out _).mono ?_
  rintro e w2 ⟨A2, l2, c2, x2, rfl, h2, hb2⟩
  have Q2 := Lib.hid h2
  have P2 := Lib.hid (P1.out.keep hb2)
  have B2 := Lib.hid (B1.out.trans (hb2.mono B1.out.size))
  clear h2 hb2 P1 B1
  go_wp2_with fail
  refine (uint_yes _ _ _ _ _ _ P2.out L1.out).mono ?_
  rintro e w' ⟨rfl, rfl⟩
  go_wp2_with fail
  refine (F3.out _).mono ?_
  rintro e w3 ⟨A3, l3, c3, x3, rfl, h3, hb3⟩
  have R3 := Lib.hid h3
  have Q3 := Lib.hid (Q2.out.keep hb3)
  have P3 := Lib.hid (P2.out.keep hb3)
  have B3 := Lib.hid (B2.out.trans (hb3.mono B2.out.size))
  clear h3 hb3 P2 Q2 B2
  go_wp2_with fail
  refine (same_num _ _ _ _ _ _ _ _ _ _ P3.out R3.out).mono ?_
  rintro e w4 ⟨rfl, hb4⟩
  have Q4 := Lib.hid (Q3.out.keep hb4)
  have P4 := Lib.hid (P3.out.keep hb4)
  have B4 := Lib.hid (B3.out.trans (hb4.mono B3.out.size))
  clear hb4 P3 Q3 R3 B3
  go_wp2_with fail
  refine (cmp_any _ _ _ _ _ _ _ _ _ _ _ P4.out Q4.out).mono ?_
  rintro e w5 ⟨rfl, hb5⟩
  have B5 := Lib.hid (B4.out.trans (hb5.mono B4.out.size))
  clear hb5 P4 Q4 B4
  rw [hc.out]
  go_wp2_with fail
  refine (lives_any _).mono ?_
  rintro e w6 ⟨rfl, hb6⟩
  have B6 := Lib.hid (B5.out.trans (hb6.mono B5.out.size))
  clear hb6
  go_wp2
  go_ret
  exact ⟨rfl, B6.out⟩
set_option maxRecDepth 100000 in
set_option maxHeartbeats 1000000 in
theorem uints_gt (x y : Nat) (hx : x < 18446744073709551616) (hy : y < 18446744073709551616) (hlt : y < x) (w : World) :
    Calls Tryd.prog 9 #[.int .u64 x, .int .u64 y] w (Gives (.bool true) w) := by
  have F1 := Lib.hid (fun w' => fromUint_any x hx w')
  have F2 := Lib.hid (fun w' => fromUint_any y hy w')
  have F3 := Lib.hid (fun w' => rfromUint_any x hx w')
  have HX := Lib.hid hx
  have hc : Hid (cmpI x y = 1) := Lib.hid (cmpI_gt hlt)
  have he : ((x : Int) == (x : Int)) = true := beq_self_eq_true _
  clear hx hy
  go_enter Tryd.func9, Tryd.ntmps9
  go_wp2_with fail
  refine (F1.out _).mono ?_
  rintro e w1 ⟨A1, l1, c1, x1, rfl, h1, hb1⟩
  have P1 := Lib.hid h1
  have B1 := Lib.hid hb1
  have L1 := Lib.hid (h1.small.2 HX.out)
  clear h1 hb1
  go_wp2_with fail
  refine (F2.out _).mono ?_
  rintro e w2 ⟨A2, l2, c2, x2, rfl, h2, hb2⟩
  have Q2 := Lib.hid h2
  have P2 := Lib.hid (P1.out.keep hb2)
  have B2 := Lib.hid (B1.out.trans (hb2.mono B1.out.size))
  clear h2 hb2 P1 B1
  go_wp2_with fail
  refine (uint_yes _ _ _ _ _ _ P2.out L1.out).mono ?_
  rintro e w' ⟨rfl, rfl⟩
  go_wp2_with fail
  refine (F3.out _).mono ?_
  rintro e w3 ⟨A3, l3, c3, x3, rfl, h3, hb3⟩
  have R3 := Lib.hid h3
  have Q3 := Lib.hid (Q2.out.keep hb3)
  have P3 := Lib.hid (P2.out.keep hb3)
  have B3 := Lib.hid (B2.out.trans (hb3.mono B2.out.size))
  clear h3 hb3 P2 Q2 B2
  go_wp2_with fail
  refine (same_num _ _ _ _ _ _ _ _ _ _ P3.out R3.out).mono ?_
  rintro e w4 ⟨rfl, hb4⟩
  have Q4 := Lib.hid (Q3.out.keep hb4)
  have P4 := Lib.hid (P3.out.keep hb4)
  have B4 := Lib.hid (B3.out.trans (hb4.mono B3.out.size))
  clear hb4 P3 Q3 R3 B3
  go_wp2_with fail
  refine (cmp_any _ _ _ _ _ _ _ _ _ _ _ P4.out Q4.out).mono ?_
  rintro e w5 ⟨rfl, hb5⟩
  have B5 := Lib.hid (B4.out.trans (hb5.mono B4.out.size))
  clear hb5 P4 Q4 B4
  rw [hc.out]
  go_wp2_with fail
  refine (lives_any _).mono ?_
  rintro e w6 ⟨rfl, hb6⟩
  have B6 := Lib.hid (B5.out.trans (hb6.mono B5.out.size))
  clear hb6
  go_wp2
  go_ret
  exact ⟨rfl, B6.out⟩
set_option maxRecDepth 100000 in
set_option maxHeartbeats 1000000 in
theorem uints_eq (x : Nat) (hx : x < 18446744073709551616) (w : World) :
    Calls Tryd.prog 9 #[.int .u64 x, .int .u64 x] w (Gives (.bool true) w) := by
  have F1 := Lib.hid (fun w' => fromUint_any x hx w')
  have F2 := Lib.hid (fun w' => fromUint_any x hx w')
  have F3 := Lib.hid (fun w' => rfromUint_any x hx w')
  have HX := Lib.hid hx
  have hc : Hid (cmpI x x = 0) := Lib.hid (cmpI_eq rfl)
  have he : ((x : Int) == (x : Int)) = true := beq_self_eq_true _
  clear hx
  go_enter Tryd.func9, Tryd.ntmps9
  go_wp2_with fail
  refine (F1.out _).mono ?_
  rintro e w1 ⟨A1, l1, c1, x1, rfl, h1, hb1⟩
  have P1 := Lib.hid h1
  have B1 := Lib.hid hb1
  have L1 := Lib.hid (h1.small.2 HX.out)
  clear h1 hb1
  go_wp2_with fail
  refine (F2.out _).mono ?_
  rintro e w2 ⟨A2, l2, c2, x2, rfl, h2, hb2⟩
  have Q2 := Lib.hid h2
  have P2 := Lib.hid (P1.out.keep hb2)
  have B2 := Lib.hid (B1.out.trans (hb2.mono B1.out.size))
  clear h2 hb2 P1 B1
  go_wp2_with fail
  refine (uint_yes _ _ _ _ _ _ P2.out L1.out).mono ?_
  rintro e w' ⟨rfl, rfl⟩
  go_wp2_with fail
  refine (F3.out _).mono ?_
  rintro e w3 ⟨A3, l3, c3, x3, rfl, h3, hb3⟩
  have R3 := Lib.hid h3
  have Q3 := Lib.hid (Q2.out.keep hb3)
  have P3 := Lib.hid (P2.out.keep hb3)
  have B3 := Lib.hid (B2.out.trans (hb3.mono B2.out.size))
  clear h3 hb3 P2 Q2 B2
  go_wp2_with fail
  refine (same_num _ _ _ _ _ _ _ _ _ _ P3.out R3.out).mono ?_
  rintro e w4 ⟨rfl, hb4⟩
  have Q4 := Lib.hid (Q3.out.keep hb4)
  have P4 := Lib.hid (P3.out.keep hb4)
  have B4 := Lib.hid (B3.out.trans (hb4.mono B3.out.size))
  clear hb4 P3 Q3 R3 B3
  go_wp2_with fail
  refine (cmp_any _ _ _ _ _ _ _ _ _ _ _ P4.out Q4.out).mono ?_
  rintro e w5 ⟨rfl, hb5⟩
  have B5 := Lib.hid (B4.out.trans (hb5.mono B4.out.size))
  clear hb5 P4 Q4 B4
  rw [hc.out]
  go_wp2_with fail
  refine (lives_any _).mono ?_
  rintro e w6 ⟨rfl, hb6⟩
  have B6 := Lib.hid (B5.out.trans (hb6.mono B5.out.size))
  clear hb6
  go_wp2
  go_ret
  exact ⟨rfl, B6.out⟩
theorem uints_walk (x y : Int) (w : World) (wx : (Lit.int .u64 x).wf = true) (wy : (Lit.int .u64 y).wf = true) :
    Calls Tryd.prog 9 #[.int .u64 x, .int .u64 y] w (Gives (.bool true) w) := by
  have hx := bounds_u64 wx
  have hy := bounds_u64 wy
  obtain ⟨n, rfl⟩ := Int.eq_ofNat_of_zero_le hx.1
  obtain ⟨m, rfl⟩ := Int.eq_ofNat_of_zero_le hy.1
  have h1 : n < 18446744073709551616 := by omega
  have h2 : m < 18446744073709551616 := by omega
  rcases Nat.lt_trichotomy n m with h | h | h
  · exact uints_lt n m h1 h2 h w
  · subst h; exact uints_eq n h1 w
  · exact uints_gt n m h1 h2 h w
end Go.Proofs.YtbjkkiehpfnogaaDoor
