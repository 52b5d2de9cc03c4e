/- The walk of SetupFormats: no claim of its own. -/
import Derived.Test.YtigfgeanofccgaaGreatDoorUWalkC
import Derived.Test.YtigfgeanofccgaaGreatDoorUPFmt
import Derived.Test.YtigfgeanofccgaaGreatDoorJMu
import Derived.Test.YtigfgeanofccgaaGreatDoorURFmt
import Derived.Deep.DeepCutAuto
namespace Go.Proofs.YtigfgeanofccgaaGreatDoor
open Go.RowKit
open MU (Su Cp As)
set_option maxRecDepth 100000 in
set_option maxHeartbeats 8000000 in
theorem setupFormats_walk (A1 : Option Addr) (n1 c1 : Nat) (A2 : Option Addr) (n2 c2 : Nat) (A3 : Option Addr) (n3 c3 : Nat) (A4 : Option Addr) (n4 c4 : Nat) (s : Su) (w : World) (h : SuIn w A1 n1 c1 A2 n2 c2 A3 n3 c3 A4 n4 c4 s) (ht : Tab w) :
    Calls Tryz.prog 3 #[.agg #[.slice A1 n1 c1, .slice A2 n2 c2, .slice A3 n3 c3, .slice A4 n4 c4]] w (Gives (.bool true) w) := by
  have TB0 := Lib.hid (TB.new w 27 (.slice A1 n1 c1) (.slice A2 n2 c2) (.slice A3 n3 c3) (.slice A4 n4 c4))
  have B0 := Lib.hid (below_new w (.cells #[.slice A1 n1 c1, .slice A2 n2 c2, .slice A3 n3 c3, .slice A4 n4 c4] 27))
  have AW := Lib.hid (fun w' (hb : Below w.heap.size w w') => awake_any w' (ht.keep hb))
  have HT := Lib.hid (fun w' (hb : Below w.heap.size w w') => ht.keep hb)
  have HH := Lib.hid h
  clear ht h
  obtain ⟨t0, t1, t2, t3⟩ := TB0.out.cells
  go_enter Tryz.func3, Tryz.ntmps3
  go_wp2_with fail
  obtain ⟨W0, hW0⟩ : ∃ W0, W0 = w.alloc (.cells #[.slice A1 n1 c1, .slice A2 n2 c2, .slice A3 n3 c3, .slice A4 n4 c4] 27) := ⟨_, rfl⟩
  rw [← hW0] at TB0 B0 ⊢
  clear hW0 t0 t1 t2 t3
  refine (great_any A1 n1 c1 A2 n2 c2 A3 n3 c3 A4 n4 c4 W0).mono ?_
  rintro e w1 ⟨rfl, hb⟩
  have TB1 := Lib.hid (TB0.out.keep hb)
  have B1 := Lib.hid (B0.out.trans (hb.mono B0.out.size))
  clear hb TB0 B0
  by_cases hg : (decide (50 < n1) || decide (50 < n2) || decide (50 < n3) || decide (50 < n4)) = true
  · rw [hg]
    clear hg HH HT
    go_wp2_with fail
    refine (AW.out _ B1.out).mono ?_
    rintro e wz ⟨rfl, hb⟩
    have BZ := Lib.hid (B1.out.trans (hb.mono B1.out.size))
    clear hb
    go_wp2
    go_ret
    exact ⟨rfl, BZ.out⟩
  · have hn : n1 ≤ 5000 := by
      simp at hg
      omega
    have HS := Lib.hid (HH.out.at hn)
    have hg' := Bool.eq_false_iff.2 hg
    rw [hg']
    clear hg hg' HH
    obtain ⟨t0, t1, t2, t3⟩ := TB1.out.cells
    have RF := Lib.hid (fun w' (hb : Below w.heap.size w w') => rformat10_any A1 n1 c1 A2 n2 c2 A3 n3 c3 A4 n4 c4 s w' (HS.out.keep hb))
    have PF := Lib.hid (fun w' (hb : Below w.heap.size w w') => pformat_any A1 n1 c1 A2 n2 c2 A3 n3 c3 A4 n4 c4 s w' (HS.out.keep hb) (HT.out w' hb))
    unfold fmtV at PF RF
    generalize str (MU.fmtS s).1 = tx at *
    generalize (MU.fmtS s).2 = er at *
    have de : (er == er) = true := beq_self_eq_true er
    have dt : (tx.toList == tx.toList) = true := beq_self_eq_true _
    clear HS HT
    go_wp2_with fail
    refine (PF.out _ B1.out).mono ?_
    rintro e w2 ⟨rfl, hb⟩
    have TB2 := Lib.hid (TB1.out.keep hb)
    have B2 := Lib.hid (B1.out.trans (hb.mono B1.out.size))
    clear hb TB1 B1 PF t0 t1 t2 t3
    obtain ⟨t0, t1, t2, t3⟩ := TB2.out.cells
    go_wp2_with fail
    refine (RF.out _ B2.out).mono ?_
    rintro e w3 ⟨rfl, hb⟩
    have TB3 := Lib.hid (TB2.out.keep hb)
    have B3 := Lib.hid (B2.out.trans (hb.mono B2.out.size))
    clear hb TB2 B2 RF t0 t1 t2 t3 TB3
    go_wp2_with fail
    refine (AW.out _ B3.out).mono ?_
    rintro e wz ⟨rfl, hb⟩
    have BZ := Lib.hid (B3.out.trans (hb.mono B3.out.size))
    clear hb
    go_wp2
    go_ret
    exact ⟨rfl, BZ.out⟩
end Go.Proofs.YtigfgeanofccgaaGreatDoor
