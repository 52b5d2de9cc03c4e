/- The walk of NaturalShows: no claim of its own. -/
import Derived.Test.YtgmjpkkpkdcncaaDoorTexts
import Derived.Test.YtgmjpkkpkdcncaaDoorRFormat
import Derived.Test.YtgmjpkkpkdcncaaDoorRBit
import Derived.Test.YtgmjpkkpkdcncaaDoorRUint
import Derived.Test.YtgmjpkkpkdcncaaDoorLow
namespace Go.Proofs.YtgmjpkkpkdcncaaDoor
open Go.RowKit
set_option maxRecDepth 100000 in
set_option maxHeartbeats 1000000 in
theorem shows_no (a0 : Option Addr) (l0 c0 : Nat) (w : World) (f0 : Calls Tryd.prog 9 #[.slice a0 l0 c0, .int .i64 30] w fun e w'' => e = .returned (.bool false) ∧ w = w'') : Calls Tryd.prog 5 #[.slice a0 l0 c0] w (Gives (.bool true) w) := by
  have F0 := Lib.hid f0
  have B0 := Lib.hid (Below.refl w.heap.size w)
  clear f0
  go_enter Tryd.func5, Tryd.ntmps5
  go_wp2_with fail
  refine (F0.out).mono ?_
  rintro e w' ⟨rfl, rfl⟩
  go_wp2_with fail
  refine (lives_any _).mono ?_
  rintro e w99 ⟨rfl, hb⟩
  have B99 := Lib.hid (B0.out.trans (hb.mono B0.out.size))
  clear hb
  go_wp2
  go_ret
  exact ⟨rfl, B99.out⟩
set_option maxRecDepth 100000 in
set_option maxHeartbeats 2000000 in
theorem shows_main (a0 : Option Addr) (l0 c0 : Nat) (w : World) (xs : List Nat) (a : Nat) (N0 : Num w a0 l0 c0 xs a) (h0 : l0 ≤ 30) (f0 : Calls Tryd.prog 9 #[.slice a0 l0 c0, .int .i64 30] w fun e w'' => e = .returned (.bool true) ∧ w = w'') : Calls Tryd.prog 5 #[.slice a0 l0 c0] w (Gives (.bool true) w) := by
  have F0 := Lib.hid f0
  have A0 := Lib.hid N0
  have pa := Lib.hid (N0.below h0)
  have U1 := fun w' (h : Num w' a0 l0 c0 xs a) => uint_any a0 l0 c0 a xs w' h
  have U2 := fun w' (h : Num w' a0 l0 c0 xs a) => ruint_any a0 l0 c0 a xs w' h
  obtain ⟨u, hu⟩ : ∃ u, (if l0 ≤ 2 then a else 0) = u := ⟨_, rfl⟩
  obtain ⟨z, hz⟩ : ∃ z, decide (l0 ≤ 2) = z := ⟨_, rfl⟩
  rw [hu, hz] at U1 U2
  have V1 := Lib.hid U1
  have V2 := Lib.hid U2
  have e1 : (z == z) = true := beq_self_eq_true _
  have e2 : ((u : Int) == (u : Int)) = true := beq_self_eq_true _
  have B0 := Lib.hid (Below.refl w.heap.size w)
  clear f0 N0 U1 U2 hu hz
  go_enter Tryd.func5, Tryd.ntmps5
  go_wp2_with fail
  refine (F0.out).mono ?_
  rintro e w' ⟨rfl, rfl⟩
  go_wp2_with fail
  refine (format_any _ _ _ _ _ _ A0.out (by omega)).mono ?_
  rintro e w1 ⟨t, rfl, ht, hb⟩
  have T1 := Lib.hid (ht)
  have A1 := Lib.hid (A0.out.keep hb)
  have B1 := Lib.hid (B0.out.trans (hb.mono B0.out.size))
  clear hb B0 A0 ht
  go_wp2_with fail
  have TT := Lib.hid T1.out
  clear T1
  refine (V1.out _ A1.out).mono ?_
  rintro e w' ⟨rfl, rfl⟩
  go_wp2_with fail
  refine (V2.out _ A1.out).mono ?_
  rintro e w' ⟨rfl, rfl⟩
  go_wp2_with fail
  refine (parse_text TT.out (pow_ten pa.out) (by decide) _).mono ?_
  rintro e w2 ⟨_, _, _, _, rfl, hn, hb⟩
  have P2 := Lib.hid (hn)
  have A2 := Lib.hid (A1.out.keep hb)
  have B2 := Lib.hid (B1.out.trans (hb.mono B1.out.size))
  clear hb B1 A1 hn
  go_wp2_with fail
  refine (rformat_any _ _ _ _ _ _ A2.out (by omega)).mono ?_
  rintro e w3 ⟨t2, rfl, ht, hb⟩
  have A3 := Lib.hid (A2.out.keep hb)
  have P3 := Lib.hid (P2.out.keep hb)
  have B3 := Lib.hid (B2.out.trans (hb.mono B2.out.size))
  clear hb B2 A2 P2 
  obtain rfl := text_eq TT.out ht
  clear ht
  go_wp2_with fail
  refine (bits_any _ _ _ _ _ _ A3.out (by omega)).mono ?_
  rintro e w' ⟨k, rfl, hk, rfl⟩
  have K1 := Lib.hid hk
  clear hk
  go_wp2_with fail
  refine (rbits_any _ _ _ _ _ _ A3.out.toLst A3.out.val (by omega)).mono ?_
  rintro e w' ⟨⟨k2, rfl, hk, _⟩, q, rfl⟩
  obtain rfl := isBits_inj K1.out hk
  have e4 : ((k : Int) == (k : Int)) = true := beq_self_eq_true _
  have A4 := Lib.hid (A3.out.drewN q)
  have P4 := Lib.hid (P3.out.drewN q)
  have B4 := Lib.hid (below_drewN B3.out q)
  clear hk A3 P3 B3
  go_wp2_with fail
  refine (same_num _ _ _ _ _ _ _ _ _ _ A4.out P4.out).mono ?_
  rintro e w5 ⟨rfl, hb⟩
  have A5 := Lib.hid (A4.out.keep hb)
  have P5 := Lib.hid (P4.out.keep hb)
  have B5 := Lib.hid (B4.out.trans (hb.mono B4.out.size))
  clear hb B4 A4 P4 
  go_wp2_with fail
  refine (lives_any _).mono ?_
  rintro e w99 ⟨rfl, hb⟩
  have B99 := Lib.hid (B5.out.trans (hb.mono B5.out.size))
  clear hb
  go_wp2
  go_ret
  exact ⟨rfl, B99.out⟩
theorem shows_walk (a0 : Option Addr) (l0 c0 : Nat) (z0 : List Int) (w : World) (w0 : IsRow .u32 w a0 l0 c0 z0) : Calls Tryd.prog 5 #[.slice a0 l0 c0] w (Gives (.bool true) w) := by
  rcases w0.few 30 (by decide) with f0 | ⟨h0, xs, a, N0, f0⟩
  · exact shows_no a0 l0 c0 w (f0 w (Below.refl _ _))
  · exact shows_main a0 l0 c0 w xs a N0 h0 (f0 w (Below.refl _ _))
end Go.Proofs.YtgmjpkkpkdcncaaDoor
