/- The walk of SetupRoundTrip: no claim of its own. -/
import Derived.Test.YtigfgeanofccgaaGreatDoorUWalkC
import Derived.Test.YtigfgeanofccgaaGreatDoorUPFmt
import Derived.Test.YtigfgeanofccgaaGreatDoorJMu
import Derived.Test.YtigfgeanofccgaaGreatDoorJPr
import Derived.Test.YtigfgeanofccgaaGreatDoorUSame
import Derived.Deep.DeepCutAuto
namespace Go.Proofs.YtigfgeanofccgaaGreatDoor
open Go.RowKit
open MU (Su Cp As)
set_option maxRecDepth 100000 in
set_option maxHeartbeats 8000000 in
theorem setupRoundTrip_walk (A1 : Option Addr) (n1 c1 : Nat) (A2 : Option Addr) (n2 c2 : Nat) (A3 : Option Addr) (n3 c3 : Nat) (A4 : Option Addr) (n4 c4 : Nat) (s : Su) (w : World) (h : SuIn w A1 n1 c1 A2 n2 c2 A3 n3 c3 A4 n4 c4 s) (ht : Tab w) :
    Calls Tryz.prog 5 #[.agg #[.slice A1 n1 c1, .slice A2 n2 c2, .slice A3 n3 c3, .slice A4 n4 c4]] w (Gives (.bool true) w) := by
  have TB0 := Lib.hid (TB.new w 27 (.slice A1 n1 c1) (.slice A2 n2 c2) (.slice A3 n3 c3) (.slice A4 n4 c4))
  have B0 := Lib.hid (below_new w (.cells #[.slice A1 n1 c1, .slice A2 n2 c2, .slice A3 n3 c3, .slice A4 n4 c4] 27))
  have AW := Lib.hid (fun w' (hb : Below w.heap.size w w') => awake_any w' (ht.keep hb))
  have HT := Lib.hid (fun w' (hb : Below w.heap.size w w') => ht.keep hb)
  have HH := Lib.hid h
  clear ht h
  obtain ⟨t0, t1, t2, t3⟩ := TB0.out.cells
  go_enter Tryz.func5, Tryz.ntmps5
  go_wp2_with fail
  obtain ⟨W0, hW0⟩ : ∃ W0, W0 = w.alloc (.cells #[.slice A1 n1 c1, .slice A2 n2 c2, .slice A3 n3 c3, .slice A4 n4 c4] 27) := ⟨_, rfl⟩
  rw [← hW0] at TB0 B0 ⊢
  clear hW0 t0 t1 t2 t3
  refine (great_any A1 n1 c1 A2 n2 c2 A3 n3 c3 A4 n4 c4 W0).mono ?_
  rintro e w1 ⟨rfl, hb⟩
  have TB1 := Lib.hid (TB0.out.keep hb)
  have B1 := Lib.hid (B0.out.trans (hb.mono B0.out.size))
  clear hb TB0 B0
  by_cases hg : (decide (50 < n1) || decide (50 < n2) || decide (50 < n3) || decide (50 < n4)) = true
  · rw [hg]
    clear hg HH HT
    go_wp2_with fail
    refine (AW.out _ B1.out).mono ?_
    rintro e wz ⟨rfl, hb⟩
    have BZ := Lib.hid (B1.out.trans (hb.mono B1.out.size))
    clear hb
    go_wp2
    go_ret
    exact ⟨rfl, BZ.out⟩
  · have hn : n1 ≤ 5000 := by
      simp at hg
      omega
    have HS := Lib.hid (HH.out.at hn)
    have hg' := Bool.eq_false_iff.2 hg
    rw [hg']
    clear hg hg' HH
    obtain ⟨t0, t1, t2, t3⟩ := TB1.out.cells
    have RC := Lib.hid (fun w' (hb : Below w.heap.size w w') => rcheck10_any A1 n1 c1 A2 n2 c2 A3 n3 c3 A4 n4 c4 s w' (HS.out.keep hb))
    have PF := Lib.hid (fun w' (hb : Below w.heap.size w w') => pformat_any A1 n1 c1 A2 n2 c2 A3 n3 c3 A4 n4 c4 s w' (HS.out.keep hb) (HT.out w' hb))
    go_wp2_with fail
    refine (RC.out _ B1.out).mono ?_
    rintro e w2 ⟨rfl, hb⟩
    have TB2 := Lib.hid (TB1.out.keep hb)
    have B2 := Lib.hid (B1.out.trans (hb.mono B1.out.size))
    clear hb TB1 B1 RC t0 t1 t2 t3
    by_cases hc : MU.chkS s = 0
    case neg =>
      have hne : (MU.chkS s != 0) = true := bne_iff_ne.2 hc
      generalize MU.chkS s = er at *
      clear PF HS HT hc
      go_wp2_with fail
      refine (AW.out _ B2.out).mono ?_
      rintro e wz ⟨rfl, hb⟩
      have BZ := Lib.hid (B2.out.trans (hb.mono B2.out.size))
      clear hb
      go_wp2
      go_ret
      exact ⟨rfl, BZ.out⟩
    have hz : (MU.chkS s != 0) = false := by rw [hc]; rfl
    have hf : MU.fmtS s = (MU.textS s, 0) := by unfold MU.fmtS; rw [if_neg (by simpa using hc)]
    have hlen : (MU.textS s).length ≤ 1908 := MU.text_len (MU.chkS_good hc)
    have PB := Lib.hid (fun w' => pparse_any (str (MU.textS s)) w' (by rw [str_size]; omega))
    rw [str_data, MU.back hc] at PB
    unfold fmtV at PF
    rw [hf] at PF
    rw [hc]
    clear hz hf hlen hc
    generalize str (MU.textS s) = tx at *
    obtain ⟨t0, t1, t2, t3⟩ := TB2.out.cells
    go_wp2_with fail
    refine (PF.out _ B2.out).mono ?_
    rintro e w3 ⟨rfl, hb⟩
    have TB3 := Lib.hid (TB2.out.keep hb)
    have B3 := Lib.hid (B2.out.trans (hb.mono B2.out.size))
    clear hb TB2 B2 PF t0 t1 t2 t3
    go_wp2_with fail
    refine (PB.out _).mono ?_
    rintro e w4 ⟨D1, d1, D2, d2, D3, d3, D4, d4, rfl, hs, hb⟩
    have TB4 := Lib.hid (TB3.out.keep hb)
    have B4 := Lib.hid (B3.out.trans (hb.mono B3.out.size))
    have HP := Lib.hid hs
    clear hs hb TB3 B3 PB
    dsimp only
    have BN := Lib.hid (below_new w4 (.cells #[.slice D1 s.ps.length d1, .slice D2 s.bs.length d2, .slice D3 s.cs.length d3, .slice D4 s.as_.length d4] 27))
    have TN := Lib.hid (TB.new w4 27 (.slice D1 s.ps.length d1) (.slice D2 s.bs.length d2) (.slice D3 s.cs.length d3) (.slice D4 s.as_.length d4))
    have TB5 := Lib.hid (TB4.out.keep BN.out)
    have B5 := Lib.hid (B4.out.trans (BN.out.mono B4.out.size))
    have HP5 := Lib.hid (HP.out.keep BN.out)
    have HS5 := Lib.hid (HS.out.keep B5.out)
    obtain ⟨W5, hW5⟩ : ∃ W5, W5 = w4.alloc (.cells #[.slice D1 s.ps.length d1, .slice D2 s.bs.length d2, .slice D3 s.cs.length d3, .slice D4 s.as_.length d4] 27) := ⟨_, rfl⟩
    rw [← hW5] at TN TB5 B5 HP5 HS5
    have SM := Lib.hid (rsame10_any A1 n1 c1 A2 n2 c2 A3 n3 c3 A4 n4 c4 D1 s.ps.length d1 D2 s.bs.length d2 D3 s.cs.length d3 D4 s.as_.length d4 s W5 HS5.out HP5.out)
    clear HP BN TB4 B4 HP5 HS5 HS
    generalize s.ps.length = m1 at *
    generalize s.bs.length = m2 at *
    generalize s.cs.length = m3 at *
    generalize s.as_.length = m4 at *
    go_upto_region 5 with (fail)
    rw [← hW5]
    clear hW5
    generalize w4.heap.size = g4 at *
    obtain ⟨t0, t1, t2, t3⟩ := TB5.out.cells
    obtain ⟨u0, u1, u2, u3⟩ := TN.out.cells
    go_wp2_with fail
    refine SM.out.mono ?_
    rintro e w6 ⟨rfl, hb⟩
    have B6 := Lib.hid (B5.out.trans (hb.mono B5.out.size))
    clear hb SM TB5 TN B5 t0 t1 t2 t3 u0 u1 u2 u3 HT
    go_wp2_with fail
    refine (AW.out _ B6.out).mono ?_
    rintro e wz ⟨rfl, hb⟩
    have BZ := Lib.hid (B6.out.trans (hb.mono B6.out.size))
    clear hb
    go_wp2
    go_ret
    exact ⟨rfl, BZ.out⟩
end Go.Proofs.YtigfgeanofccgaaGreatDoor
