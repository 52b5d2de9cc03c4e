/- The law FlattenOffers. No claim of its own. -/
import Derived.Test.YtbnillkihmooeaaJFG
import Derived.Test.YtbnillkihmooeaaJFH
namespace Go.Proofs.Ytbnillkihmooeaa
open Go.RowKit
attribute [local go_sem] Oper.semAt_some
set_option maxRecDepth 100000 in
set_option maxHeartbeats 8000000 in
theorem flattenOffers_walk (x : NT) (hx : x.size ≤ 1000000) (q0 q1 q2 q3 q4 q5 : Int) (w : World) (ok : Nat → Prop) (hok : x.Ok w ok) : Calls Try.prog 3 #[x.val, .agg #[.int .i64 q0, .int .i64 q1, .int .i64 q2, .int .i64 q3, .int .i64 q4, .int .i64 q5]] w (Gives (.bool true) w) := by
  have CS := Lib.hid (fun w' (hb : Below w.heap.size w w') => small14_any x hx q0 q1 q2 q3 q4 q5 w' ok (hok.below hb))
  have CF := Lib.hid (fun w' (hb : Below w.heap.size w w') => foffers_any x (Nat.le_trans hx (by decide)) q0 q1 q2 q3 q4 q5 w' ok (hok.below hb))
  have CR := Lib.hid (fun w' (hb : Below w.heap.size w w') => rfoffers_any x hx q0 q1 q2 q3 q4 q5 w' ok (hok.below hb))
  generalize hT : offersE x.n [q0, q1, q2, q3, q4, q5] = T at *
  clear hT
  obtain ⟨TL, te⟩ := T
  obtain ⟨o, bb, v, A, cc, k⟩ := x
  obtain ⟨x0, x1, x2, x3, x4, x5, rfl⟩ := six hok.six
  rw [NT.val_lit] at CS CF CR ⊢
  clear hok hx
  generalize (decide (NT.size ⟨o, [x0, x1, x2, x3, x4, x5], v, A, cc, k⟩ ≤ 60) && decide (cntB [q0, q1, q2, q3, q4, q5] ≤ 100)) = sm at *
  have I0 := Lib.hid (IV14.start w (.int .i64 o) (.int .i64 x0) (.int .i64 x1) (.int .i64 x2) (.int .i64 x3) (.int .i64 x4) (.int .i64 x5) (.int .i64 v) (.slice A k.len cc) q0 q1 q2 q3 q4 q5)
  go_enter Try.func3, Try.ntmps3
  go_upto_region 1 with (fail)
  generalize (w.alloc (.cells #[.int .i64 o, .int .i64 x0, .int .i64 x1, .int .i64 x2, .int .i64 x3, .int .i64 x4, .int .i64 x5, .int .i64 v, .slice A k.len cc] 26)).alloc (.cells #[.int .i64 q0, .int .i64 q1, .int .i64 q2, .int .i64 q3, .int .i64 q4, .int .i64 q5] 23) = w1 at *
  obtain ⟨e0, e1, e2, e3, e4, e5, e6, e7, e8⟩ := I0.out.e.cells
  obtain ⟨r0, r1, r2, r3, r4, r5⟩ := cells6 I0.out.q
  go_wp2_with fail
  refine (CS.out _ I0.out.below).mono ?_
  rintro ev w2 ⟨rfl, nb⟩
  have I2 := Lib.hid (I0.out.keep nb)
  clear nb I0 CS e0 e1 e2 e3 e4 e5 e6 e7 e8 r0 r1 r2 r3 r4 r5
  cases sm with
  | false =>
    go_wp2_with fail
    refine (awake14_any _).mono ?_
    rintro ev w3 ⟨rfl, nb⟩
    have B3 := Lib.hid (I2.out.below.trans (nb.mono I2.out.below.size))
    clear nb
    go_wp2
    go_ret
    exact ⟨rfl, B3.out⟩
  | true =>
    obtain ⟨e0, e1, e2, e3, e4, e5, e6, e7, e8⟩ := I2.out.e.cells
    obtain ⟨r0, r1, r2, r3, r4, r5⟩ := cells6 I2.out.q
    go_wp2_with fail
    refine (CF.out _ I2.out.below).mono ?_
    rintro ev w3 ⟨A3, n3, c3, rfl, hl3, nb⟩
    have I3 := Lib.hid (I2.out.keep nb)
    have K3 := Lib.hid hl3
    clear nb hl3 I2 CF e0 e1 e2 e3 e4 e5 e6 e7 e8 r0 r1 r2 r3 r4 r5
    dsimp only at K3 ⊢
    obtain ⟨e0, e1, e2, e3, e4, e5, e6, e7, e8⟩ := I3.out.e.cells
    obtain ⟨r0, r1, r2, r3, r4, r5⟩ := cells6 I3.out.q
    go_wp2_with fail
    refine (CR.out _ I3.out.below).mono ?_
    rintro ev w4 ⟨A4, n4, c4, rfl, hl4, nb⟩
    have I4 := Lib.hid (I3.out.keep nb)
    have K4 := Lib.hid (K3.out.keep nb)
    have M4 := Lib.hid hl4
    clear nb hl4 I3 K3 CR e0 e1 e2 e3 e4 e5 e6 e7 e8 r0 r1 r2 r3 r4 r5
    dsimp only at M4 ⊢
    go_wp2_with fail
    refine (rsame14_any A3 A4 n3 c3 n4 c4 TL _ K4.out M4.out).mono ?_
    rintro ev w5 ⟨rfl, nb⟩
    have I5 := Lib.hid (I4.out.keep nb)
    clear nb I4 K4 M4
    go_wp2_with fail
    refine (awake14_any _).mono ?_
    rintro ev w6 ⟨rfl, nb⟩
    have B6 := Lib.hid (I5.out.below.trans (nb.mono I5.out.below.size))
    clear nb
    go_wp2
    go_ret
    exact ⟨rfl, B6.out⟩
end Go.Proofs.Ytbnillkihmooeaa
