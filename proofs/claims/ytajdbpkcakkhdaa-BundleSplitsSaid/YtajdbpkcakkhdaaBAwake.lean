/- lives of chapter 7's law: no claim of its own. -/
import Derived.Test.YtajdbpkcakkhdaaBUnr
import Derived.Test.YtajdbpkcakkhdaaBCmp
import Derived.Test.YtajdbpkcakkhdaaBEq
namespace Go.Proofs.Ytajdbpkcakkhdaa
open Go.RowKit
theorem tot_ex : totB [1, 2, 0, 0, 0, 0] 6 = 3 := by decide +kernel
theorem cst_ex : cstB [10, 3, 0, 0, 0, 0] [1, 2, 0, 0, 0, 0] 6 = 16 := by decide +kernel
set_option maxRecDepth 100000 in
set_option maxHeartbeats 2000000 in
theorem lives_any (w : World) : Calls Try.prog 19 #[] w (Gives (.bool true) w) := by
  have H1 := Lib.hid (show ∀ w, Calls Try.prog 29 #[.agg #[.int .i64 2, .int .i64 2, .int .i64 0, .int .i64 0, .int .i64 0, .int .i64 0], .agg #[.int .i64 1, .int .i64 2, .int .i64 0, .int .i64 0, .int .i64 0, .int .i64 0]] w (Gives (.tuple #[.int .i64 5, .int .i64 0]) w) from fun w => rank_any (2) (2) (0) (0) (0) (0) (1) (2) (0) (0) (0) (0) w)
  have H2 := Lib.hid (show ∀ w, Calls Try.prog 33 #[.agg #[.int .i64 2, .int .i64 2, .int .i64 0, .int .i64 0, .int .i64 0, .int .i64 0], .int .i64 5] w (Gives (.tuple #[.agg #[.int .i64 1, .int .i64 2, .int .i64 0, .int .i64 0, .int .i64 0, .int .i64 0], .int .i64 0]) w) from fun w => unr_any (2) (2) (0) (0) (0) (0) 5 w)
  have H3 := Lib.hid (show ∀ w, Calls Try.prog 31 #[.agg #[.int .i64 2, .int .i64 2, .int .i64 0, .int .i64 0, .int .i64 0, .int .i64 0]] w (Gives (.int .i64 9) w) from fun w => count_any (2) (2) (0) (0) (0) (0) w)
  have H4 := Lib.hid (show ∀ w, Calls Try.prog 25 #[.agg #[.int .i64 1, .int .i64 2, .int .i64 0, .int .i64 0, .int .i64 0, .int .i64 0]] w (Gives (.int .i64 3) w) from fun w => tot_ex ▸ total_any (1) (2) (0) (0) (0) (0) w)
  have H5 := Lib.hid (show ∀ w, Calls Try.prog 27 #[.agg #[.int .i64 10, .int .i64 3, .int .i64 0, .int .i64 0, .int .i64 0, .int .i64 0], .agg #[.int .i64 1, .int .i64 2, .int .i64 0, .int .i64 0, .int .i64 0, .int .i64 0]] w (Gives (.int .i64 16) w) from fun w => cst_ex ▸ cost_any (10) (3) (0) (0) (0) (0) (1) (2) (0) (0) (0) (0) w)
  have H6 := Lib.hid (show ∀ w, Calls Try.prog 15 #[.agg #[.int .i64 1, .int .i64 2, .int .i64 0, .int .i64 0, .int .i64 0, .int .i64 0], .agg #[.int .i64 2, .int .i64 2, .int .i64 0, .int .i64 0, .int .i64 0, .int .i64 0]] w (Gives (.bool true) w) from fun w => within_any (1) (2) (0) (0) (0) (0) (2) (2) (0) (0) (0) (0) w)
  have H7 := Lib.hid (show ∀ w, Calls Try.prog 9 #[.agg #[.int .i64 5, .int .i64 0, .int .i64 0, .int .i64 0, .int .i64 0, .int .i64 0]] w (Gives (.int .i64 4) w) from fun w => check_any (5) (0) (0) (0) (0) (0) w)
  have H8 := Lib.hid (show ∀ w, Calls Try.prog 17 #[.agg #[.int .i64 0, .int .i64 4, .int .i64 0, .int .i64 0, .int .i64 0, .int .i64 0], .agg #[.int .i64 1, .int .i64 0, .int .i64 0, .int .i64 0, .int .i64 0, .int .i64 0]] w (Gives (.int .i64 (-1)) w) from fun w => compare_any (0) (4) (0) (0) (0) (0) (1) (0) (0) (0) (0) (0) w)
  have q1 := fun w => (show (Op.equalIn 10000 23 (.agg #[.int .i64 1, .int .i64 2, .int .i64 0, .int .i64 0, .int .i64 0, .int .i64 0]) (.agg #[.int .i64 1, .int .i64 2, .int .i64 0, .int .i64 0, .int .i64 0, .int .i64 0])).run Try.prog w = .ok true w from run_same [1, 2, 0, 0, 0, 0] [1, 2, 0, 0, 0, 0] rfl rfl w)
  have S0 := Lib.hid (two_boxes w 23 23 (2) (2) (0) (0) (0) (0) (1) (2) (0) (0) (0) (0)).1
  have T0 := Lib.hid (two_boxes w 23 23 (2) (2) (0) (0) (0) (0) (1) (2) (0) (0) (0) (0)).2
  have B0 := Lib.hid (below_two w (.cells #[.int .i64 2, .int .i64 2, .int .i64 0, .int .i64 0, .int .i64 0, .int .i64 0] 23) (.cells #[.int .i64 1, .int .i64 2, .int .i64 0, .int .i64 0, .int .i64 0, .int .i64 0] 23))
  go_enter Try.func19, Try.ntmps19
  go_wp2_with fail
  refine (H1.out _).mono ?_
  rintro e1 w1 ⟨rfl, hb⟩
  have B1 := Lib.hid (B0.out.trans (hb.mono B0.out.size))
  have S1 := Lib.hid (S0.out.keep hb S0.out.lt)
  have T1 := Lib.hid (T0.out.keep hb T0.out.lt)
  clear hb B0 S0 T0
  obtain ⟨x0, x1, x2, x3, x4, x5⟩ := cells6 S1.out
  obtain ⟨y0, y1, y2, y3, y4, y5⟩ := cells6 T1.out
  go_wp2_with fail
  refine (H2.out _).mono ?_
  rintro e2 w2 ⟨rfl, hb⟩
  have B2 := Lib.hid (B1.out.trans (hb.mono B1.out.size))
  have S2 := Lib.hid (S1.out.keep hb S1.out.lt)
  have T2 := Lib.hid (T1.out.keep hb T1.out.lt)
  clear hb B1 S1 T1
  clear x0 x1 x2 x3 x4 x5 y0 y1 y2 y3 y4 y5
  go_upto_region 4 with (fail)
  have U2 := Lib.hid (BB.new w2 23 (1) (2) (0) (0) (0) (0))
  have S2' := Lib.hid (S2.out.alloc (.cells #[.int .i64 1, .int .i64 2, .int .i64 0, .int .i64 0, .int .i64 0, .int .i64 0] 23))
  have T2' := Lib.hid (T2.out.alloc (.cells #[.int .i64 1, .int .i64 2, .int .i64 0, .int .i64 0, .int .i64 0, .int .i64 0] 23))
  have B2' := Lib.hid (B2.out.alloc B2.out.size (.cells #[.int .i64 1, .int .i64 2, .int .i64 0, .int .i64 0, .int .i64 0, .int .i64 0] 23))
  clear S2 T2 B2
  generalize w2.alloc (.cells #[.int .i64 1, .int .i64 2, .int .i64 0, .int .i64 0, .int .i64 0, .int .i64 0] 23) = w2' at *
  generalize w2.heap.size = B9 at *
  have S2 := S2'
  have T2 := T2'
  have B2 := B2'
  clear S2' T2' B2'
  obtain ⟨x0, x1, x2, x3, x4, x5⟩ := cells6 S2.out
  obtain ⟨y0, y1, y2, y3, y4, y5⟩ := cells6 T2.out
  obtain ⟨z0, z1, z2, z3, z4, z5⟩ := cells6 U2.out
  go_wp2_with fail
  refine (H3.out _).mono ?_
  rintro e3 w3 ⟨rfl, hb⟩
  have B3 := Lib.hid (B2.out.trans (hb.mono B2.out.size))
  have S3 := Lib.hid (S2.out.keep hb S2.out.lt)
  have T3 := Lib.hid (T2.out.keep hb T2.out.lt)
  have U3 := Lib.hid (U2.out.keep hb U2.out.lt)
  clear hb B2 S2 T2 U2
  clear x0 x1 x2 x3 x4 x5 y0 y1 y2 y3 y4 y5 z0 z1 z2 z3 z4 z5
  obtain ⟨x0, x1, x2, x3, x4, x5⟩ := cells6 S3.out
  obtain ⟨y0, y1, y2, y3, y4, y5⟩ := cells6 T3.out
  obtain ⟨z0, z1, z2, z3, z4, z5⟩ := cells6 U3.out
  go_wp2_with fail
  refine (H4.out _).mono ?_
  rintro e4 w4 ⟨rfl, hb⟩
  have B4 := Lib.hid (B3.out.trans (hb.mono B3.out.size))
  have S4 := Lib.hid (S3.out.keep hb S3.out.lt)
  have T4 := Lib.hid (T3.out.keep hb T3.out.lt)
  have U4 := Lib.hid (U3.out.keep hb U3.out.lt)
  clear hb B3 S3 T3 U3
  clear x0 x1 x2 x3 x4 x5 y0 y1 y2 y3 y4 y5 z0 z1 z2 z3 z4 z5
  obtain ⟨x0, x1, x2, x3, x4, x5⟩ := cells6 S4.out
  obtain ⟨y0, y1, y2, y3, y4, y5⟩ := cells6 T4.out
  obtain ⟨z0, z1, z2, z3, z4, z5⟩ := cells6 U4.out
  go_wp2_with fail
  refine (H5.out _).mono ?_
  rintro e5 w5 ⟨rfl, hb⟩
  have B5 := Lib.hid (B4.out.trans (hb.mono B4.out.size))
  have S5 := Lib.hid (S4.out.keep hb S4.out.lt)
  have T5 := Lib.hid (T4.out.keep hb T4.out.lt)
  have U5 := Lib.hid (U4.out.keep hb U4.out.lt)
  clear hb B4 S4 T4 U4
  clear x0 x1 x2 x3 x4 x5 y0 y1 y2 y3 y4 y5 z0 z1 z2 z3 z4 z5
  obtain ⟨x0, x1, x2, x3, x4, x5⟩ := cells6 S5.out
  obtain ⟨y0, y1, y2, y3, y4, y5⟩ := cells6 T5.out
  obtain ⟨z0, z1, z2, z3, z4, z5⟩ := cells6 U5.out
  go_wp2_with fail
  refine (H6.out _).mono ?_
  rintro e6 w6 ⟨rfl, hb⟩
  have B6 := Lib.hid (B5.out.trans (hb.mono B5.out.size))
  have S6 := Lib.hid (S5.out.keep hb S5.out.lt)
  have T6 := Lib.hid (T5.out.keep hb T5.out.lt)
  have U6 := Lib.hid (U5.out.keep hb U5.out.lt)
  clear hb B5 S5 T5 U5
  clear x0 x1 x2 x3 x4 x5 y0 y1 y2 y3 y4 y5 z0 z1 z2 z3 z4 z5
  obtain ⟨x0, x1, x2, x3, x4, x5⟩ := cells6 S6.out
  obtain ⟨y0, y1, y2, y3, y4, y5⟩ := cells6 T6.out
  obtain ⟨z0, z1, z2, z3, z4, z5⟩ := cells6 U6.out
  go_wp2_with fail
  refine (H7.out _).mono ?_
  rintro e7 w7 ⟨rfl, hb⟩
  have B7 := Lib.hid (B6.out.trans (hb.mono B6.out.size))
  have S7 := Lib.hid (S6.out.keep hb S6.out.lt)
  have T7 := Lib.hid (T6.out.keep hb T6.out.lt)
  have U7 := Lib.hid (U6.out.keep hb U6.out.lt)
  clear hb B6 S6 T6 U6
  clear x0 x1 x2 x3 x4 x5 y0 y1 y2 y3 y4 y5 z0 z1 z2 z3 z4 z5
  obtain ⟨x0, x1, x2, x3, x4, x5⟩ := cells6 S7.out
  obtain ⟨y0, y1, y2, y3, y4, y5⟩ := cells6 T7.out
  obtain ⟨z0, z1, z2, z3, z4, z5⟩ := cells6 U7.out
  go_wp2_with fail
  refine (H8.out _).mono ?_
  rintro e8 w8 ⟨rfl, hb⟩
  have B8 := Lib.hid (B7.out.trans (hb.mono B7.out.size))
  have S8 := Lib.hid (S7.out.keep hb S7.out.lt)
  have T8 := Lib.hid (T7.out.keep hb T7.out.lt)
  have U8 := Lib.hid (U7.out.keep hb U7.out.lt)
  clear hb B7 S7 T7 U7
  clear x0 x1 x2 x3 x4 x5 y0 y1 y2 y3 y4 y5 z0 z1 z2 z3 z4 z5
  go_wp2
  go_ret
  exact ⟨rfl, B8.out⟩
end Go.Proofs.Ytajdbpkcakkhdaa
