/- The law FlattenTables. No claim of its own. -/
import Derived.Test.YtbnillkihmooeaaJFG
import Derived.Test.YtbnillkihmooeaaJFH
namespace Go.Proofs.Ytbnillkihmooeaa
open Go.RowKit
attribute [local go_sem] Oper.semAt_some
set_option maxRecDepth 100000 in
set_option maxHeartbeats 8000000 in
theorem flattenTables_walk (A : Option Addr) (n c : Nat) (L : List Int) (q0 q1 q2 q3 q4 q5 : Int) (w : World) (hl : LstIn intE w A n c L) : Calls Try.prog 4 #[.slice A n c, .agg #[.int .i64 q0, .int .i64 q1, .int .i64 q2, .int .i64 q3, .int .i64 q4, .int .i64 q5]] w (Gives (.bool true) w) := by
  have hb0 := below_new w (.cells #[.int .i64 q0, .int .i64 q1, .int .i64 q2, .int .i64 q3, .int .i64 q4, .int .i64 q5] 23)
  have B0 := Lib.hid hb0
  have S0 := Lib.hid (BB.new w 23 q0 q1 q2 q3 q4 q5)
  have L0 := Lib.hid (hl.lst.keep hb0)
  clear hl hb0
  have CC := Lib.hid (fun w' => rcount_any q0 q1 q2 q3 q4 q5 w')
  have CF := Lib.hid (fun w' h => ffrom_any A n c L q0 q1 q2 q3 q4 q5 w' h)
  have CR := Lib.hid (fun w' h => rffrom_any A n c L q0 q1 q2 q3 q4 q5 w' h)
  generalize hT : fromE L [q0, q1, q2, q3, q4, q5] = T at *
  clear hT
  obtain ⟨TL, te⟩ := T
  generalize cntB [q0, q1, q2, q3, q4, q5] = cn at *
  go_enter Try.func4, Try.ntmps4
  go_upto_region 1 with (fail)
  generalize w.alloc (.cells #[.int .i64 q0, .int .i64 q1, .int .i64 q2, .int .i64 q3, .int .i64 q4, .int .i64 q5] 23) = w1 at *
  obtain ⟨r0, r1, r2, r3, r4, r5⟩ := cells6 S0.out
  by_cases h1 : 100 < cn
  · have d1 : decide (100 < cn) = true := decide_eq_true h1
    go_wp2_with fail
    refine (CC.out _).mono ?_
    rintro ev w2 ⟨rfl, nb⟩
    have B2 := Lib.hid (B0.out.trans (nb.mono B0.out.size))
    have S2 := Lib.hid (S0.out.keep nb S0.out.lt)
    have L2 := Lib.hid (L0.out.keep nb)
    clear nb r0 r1 r2 r3 r4 r5 B0 S0 L0
    go_wp2_with fail
    refine (awake14_any _).mono ?_
    rintro ev w3 ⟨rfl, nb⟩
    have B3 := Lib.hid (B2.out.trans (nb.mono B2.out.size))
    clear nb
    go_wp2
    go_ret
    exact ⟨rfl, B3.out⟩
  · have d1 : decide (100 < cn) = false := decide_eq_false h1
    go_wp2_with fail
    refine (CC.out _).mono ?_
    rintro ev w2 ⟨rfl, nb⟩
    have B2 := Lib.hid (B0.out.trans (nb.mono B0.out.size))
    have S2 := Lib.hid (S0.out.keep nb S0.out.lt)
    have L2 := Lib.hid (L0.out.keep nb)
    clear nb r0 r1 r2 r3 r4 r5 B0 S0 L0
    obtain ⟨r0, r1, r2, r3, r4, r5⟩ := cells6 S2.out
    go_wp2_with fail
    refine (CF.out _ L2.out).mono ?_
    rintro ev w3 ⟨A3, n3, c3, rfl, hl3, nb⟩
    have K3 := Lib.hid hl3
    have B3 := Lib.hid (B2.out.trans (nb.mono B2.out.size))
    have S3 := Lib.hid (S2.out.keep nb S2.out.lt)
    have L3 := Lib.hid (L2.out.keep nb)
    clear nb r0 r1 r2 r3 r4 r5 B2 S2 L2
    clear hl3
    dsimp only at K3 ⊢
    obtain ⟨r0, r1, r2, r3, r4, r5⟩ := cells6 S3.out
    go_wp2_with fail
    refine (CR.out _ L3.out).mono ?_
    rintro ev w4 ⟨A4, n4, c4, rfl, hl4, nb⟩
    have K4 := Lib.hid (K3.out.keep nb)
    have M4 := Lib.hid hl4
    have B4 := Lib.hid (B3.out.trans (nb.mono B3.out.size))
    have S4 := Lib.hid (S3.out.keep nb S3.out.lt)
    have L4 := Lib.hid (L3.out.keep nb)
    clear nb r0 r1 r2 r3 r4 r5 B3 S3 L3
    clear hl4 K3
    dsimp only at M4 ⊢
    go_wp2_with fail
    refine (rsame14_any A3 A4 n3 c3 n4 c4 TL _ K4.out M4.out).mono ?_
    rintro ev w5 ⟨rfl, nb⟩
    have B5 := Lib.hid (B4.out.trans (nb.mono B4.out.size))
    clear nb B4 S4 L4 K4 M4
    go_wp2_with fail
    refine (awake14_any _).mono ?_
    rintro ev w6 ⟨rfl, nb⟩
    have B6 := Lib.hid (B5.out.trans (nb.mono B5.out.size))
    clear nb
    go_wp2
    go_ret
    exact ⟨rfl, B6.out⟩
end Go.Proofs.Ytbnillkihmooeaa
