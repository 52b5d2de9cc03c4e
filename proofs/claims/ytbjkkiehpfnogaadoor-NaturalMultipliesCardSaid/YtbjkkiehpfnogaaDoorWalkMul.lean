/- The walk of NaturalMultiplies: no claim of its own. -/
import Derived.Test.YtbjkkiehpfnogaaDoorIsRow
import Derived.Test.YtbjkkiehpfnogaaDoorRMul
namespace Go.Proofs.YtbjkkiehpfnogaaDoor
open Go.RowKit
set_option maxRecDepth 100000 in
set_option maxHeartbeats 1000000 in
theorem mul_walk (a0 : Option Addr) (len0 cap0 : Nat) (z0 : List Int) (a1 : Option Addr) (len1 cap1 : Nat) (z1 : List Int) (w : World) (w0 : IsRow .u32 w a0 len0 cap0 z0) (w1 : IsRow .u32 w a1 len1 cap1 z1) :
    Calls Tryd.prog 5 #[.slice a0 len0 cap0, .slice a1 len1 cap1] w (Gives (.bool true) w) := by
  have f0 := w0.few 20 (by decide)
  have f1 := w1.few 20 (by decide)
  clear w0 w1
  rcases f0 with f0 | ⟨hl0, xs, m, N0, f0⟩
  · have F0 := Lib.hid (f0 w (Below.refl _ _))
    clear f0 f1
    go_enter Tryd.func5, Tryd.ntmps5
    go_wp2_with fail
    refine F0.out.mono ?_
    rintro e w' ⟨rfl, rfl⟩
    go_wp2_with fail
    refine (lives_any _).mono ?_
    rintro e w' ⟨rfl, hb⟩
    have B := Lib.hid hb
    clear hb
    go_wp2
    go_ret
    exact ⟨rfl, B.out⟩
  · rcases f1 with f1 | ⟨hl1, ys, n, N1, f1⟩
    · have F0 := Lib.hid (f0 w (Below.refl _ _))
      have F1 := Lib.hid (f1 w (Below.refl _ _))
      have K := Lib.hid N0
      clear f0 f1 N0
      go_enter Tryd.func5, Tryd.ntmps5
      go_wp2_with fail
      refine F0.out.mono ?_
      rintro e w' ⟨rfl, rfl⟩
      go_wp2_with fail
      refine F1.out.mono ?_
      rintro e w' ⟨rfl, rfl⟩
      go_wp2_with fail
      refine (lives_any _).mono ?_
      rintro e w' ⟨rfl, hb⟩
      have B := Lib.hid hb
      clear hb
      go_wp2
      go_ret
      exact ⟨rfl, B.out⟩
    · have F0 := Lib.hid (f0 w (Below.refl _ _))
      have F1 := Lib.hid (f1 w (Below.refl _ _))
      have K0 := Lib.hid N0
      have K1 := Lib.hid N1
      clear f0 f1 N0 N1
      go_enter Tryd.func5, Tryd.ntmps5
      go_wp2_with fail
      refine F0.out.mono ?_
      rintro e w' ⟨rfl, rfl⟩
      go_wp2_with fail
      refine F1.out.mono ?_
      rintro e w' ⟨rfl, rfl⟩
      go_wp2_with fail
      refine (mul_any _ _ _ _ _ _ _ _ _ _ _ K0.out K1.out (by omega) (by omega)).mono ?_
      rintro e w1 ⟨A1, l1, c1, x1, rfl, h1, hb1⟩
      have P1 := Lib.hid h1
      have B1 := Lib.hid hb1
      have L0 := Lib.hid (K0.out.keep hb1)
      have L1 := Lib.hid (K1.out.keep hb1)
      clear h1 hb1 F0 F1 K0 K1
      go_wp2_with fail
      refine (rmul_any _ _ _ _ _ _ _ _ _ _ _ L0.out L1.out (by omega) (by omega)).mono ?_
      rintro e w2 ⟨A2, l2, c2, x2, rfl, h2, hb2⟩
      have Q2 := Lib.hid h2
      have P2 := Lib.hid (P1.out.keep hb2)
      have B2 := Lib.hid (B1.out.trans (hb2.mono B1.out.size))
      clear h2 hb2 L0 L1 P1 B1
      go_wp2_with fail
      refine (same_num _ _ _ _ _ _ _ _ _ _ P2.out Q2.out).mono ?_
      rintro e w3 ⟨rfl, hb3⟩
      have B3 := Lib.hid (B2.out.trans (hb3.mono B2.out.size))
      clear hb3 P2 Q2 B2
      go_wp2_with fail
      refine (lives_any _).mono ?_
      rintro e w4 ⟨rfl, hb4⟩
      have B4 := Lib.hid (B3.out.trans (hb4.mono B3.out.size))
      clear hb4
      go_wp2
      go_ret
      exact ⟨rfl, B4.out⟩
end Go.Proofs.YtbjkkiehpfnogaaDoor
