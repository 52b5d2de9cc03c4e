/- The walk of SetupParses: no claim of its own. -/
import Derived.Test.YtigfgeanofccgaaGreatDoorUWalkC
import Derived.Test.YtigfgeanofccgaaGreatDoorURPar
import Derived.Test.YtigfgeanofccgaaGreatDoorUSame
import Derived.Deep.DeepCutAuto
namespace Go.Proofs.YtigfgeanofccgaaGreatDoor
open Go.RowKit
open MU (Su Cp As)
set_option maxRecDepth 100000 in
set_option maxHeartbeats 8000000 in
theorem setupParses_walk (t : ByteArray) (w : World) (_hm : t.size ≤ maxLen) (ht : Tab w) : Calls Tryz.prog 4 #[.string t] w (Gives (.bool true) w) := by
  have AW := Lib.hid (fun w' (hb : Below w.heap.size w w') => awake_any w' (ht.keep hb))
  clear ht
  by_cases hl : (5000 : Int) < t.size
  · go_enter Tryz.func4, Tryz.ntmps4
    go_wp2_with fail
    refine (AW.out _ (Below.refl _ _)).mono ?_
    rintro e wz ⟨rfl, hb⟩
    have BZ := Lib.hid hb
    clear hb
    go_wp2
    go_ret
    exact ⟨rfl, BZ.out⟩
  · have PP := Lib.hid (fun w' => pparse_any t w' (by omega))
    have RP := Lib.hid (fun w' => rparse_any t w' (by omega))
    generalize MU.parseS t.data.toList = q at *
    go_enter Tryz.func4, Tryz.ntmps4
    go_wp2_with fail
    refine (PP.out _).mono ?_
    rintro e w1 ⟨A1, c1, A2, c2, A3, c3, A4, c4, rfl, hs1, hb1⟩
    have BN := below_new w1 (.cells #[.slice A1 q.1.ps.length c1, .slice A2 q.1.bs.length c2, .slice A3 q.1.cs.length c3, .slice A4 q.1.as_.length c4] 27)
    have TN := Lib.hid (TB.new w1 27 (.slice A1 q.1.ps.length c1) (.slice A2 q.1.bs.length c2) (.slice A3 q.1.cs.length c3) (.slice A4 q.1.as_.length c4))
    have HS := Lib.hid (hs1.keep BN)
    have B2 := Lib.hid (hb1.trans (BN.mono hb1.size))
    obtain ⟨W2, hW2⟩ : ∃ W2, W2 = w1.alloc (.cells #[.slice A1 q.1.ps.length c1, .slice A2 q.1.bs.length c2, .slice A3 q.1.cs.length c3, .slice A4 q.1.as_.length c4] 27) := ⟨_, rfl⟩
    rw [← hW2] at TN HS B2
    clear BN hs1 hb1 PP
    go_upto_region 4 with (fail)
    rw [← hW2]
    clear hW2
    generalize w1.heap.size = g1 at *
    go_wp2_with fail
    refine (RP.out _).mono ?_
    rintro e w3 ⟨D1, d1, D2, d2, D3, d3, D4, d4, rfl, hs3, hb3⟩
    have BN := below_new w3 (.cells #[.slice D1 q.1.ps.length d1, .slice D2 q.1.bs.length d2, .slice D3 q.1.cs.length d3, .slice D4 q.1.as_.length d4] 27)
    have TM := Lib.hid (TB.new w3 27 (.slice D1 q.1.ps.length d1) (.slice D2 q.1.bs.length d2) (.slice D3 q.1.cs.length d3) (.slice D4 q.1.as_.length d4))
    have TN4 := Lib.hid ((TN.out.keep hb3).keep BN)
    have HS4 := Lib.hid ((HS.out.keep hb3).keep BN)
    have HD4 := Lib.hid (hs3.keep BN)
    have B3 := B2.out.trans (hb3.mono B2.out.size)
    have B4 := Lib.hid (B3.trans (BN.mono B3.size))
    obtain ⟨W4, hW4⟩ : ∃ W4, W4 = w3.alloc (.cells #[.slice D1 q.1.ps.length d1, .slice D2 q.1.bs.length d2, .slice D3 q.1.cs.length d3, .slice D4 q.1.as_.length d4] 27) := ⟨_, rfl⟩
    rw [← hW4] at TM TN4 HS4 HD4 B4
    have SM := Lib.hid (rsame10_any A1 q.1.ps.length c1 A2 q.1.bs.length c2 A3 q.1.cs.length c3 A4 q.1.as_.length c4 D1 q.1.ps.length d1 D2 q.1.bs.length d2 D3 q.1.cs.length d3 D4 q.1.as_.length d4 q.1 W4 HS4.out HD4.out)
    clear BN hs3 hb3 RP TN HS B2 B3 HS4 HD4
    generalize q.1.ps.length = m1 at *
    generalize q.1.bs.length = m2 at *
    generalize q.1.cs.length = m3 at *
    generalize q.1.as_.length = m4 at *
    generalize q.2.1 = qn at *
    generalize q.2.2 = qe at *
    go_upto_region 5 with (fail)
    rw [← hW4]
    clear hW4
    generalize w3.heap.size = g3 at *
    obtain ⟨t0, t1, t2, t3⟩ := TN4.out.cells
    obtain ⟨u0, u1, u2, u3⟩ := TM.out.cells
    go_wp2_with fail
    refine SM.out.mono ?_
    rintro e w6 ⟨rfl, hb⟩
    have B6 := Lib.hid (B4.out.trans (hb.mono B4.out.size))
    clear hb SM TN4 TM B4 t0 t1 t2 t3 u0 u1 u2 u3
    go_wp2_with fail
    refine (AW.out _ B6.out).mono ?_
    rintro e wz ⟨rfl, hb⟩
    have BZ := Lib.hid (B6.out.trans (hb.mono B6.out.size))
    clear hb
    go_wp2
    go_ret
    exact ⟨rfl, BZ.out⟩
end Go.Proofs.YtigfgeanofccgaaGreatDoor
