/- The walk of CatalogSums: no claim of its own. -/
import Derived.Test.YtdlpolnnhhnecaaDoorCWalkChecks
namespace Go.Proofs.YtdlpolnnhhnecaaDoor
open Go.RowKit
open MC (Pr)
set_option maxRecDepth 100000 in
set_option maxHeartbeats 4000000 in
theorem sums_walk (A : Option Addr) (n c : Nat) (L : List Pr) (g x0 x1 x2 x3 x4 x5 : Int) (w : World) (h : PrsIn w A n c L) :
    Calls Tryd.prog 4 #[.slice A n c, .int .i64 g, .agg #[.int .i64 x0, .int .i64 x1, .int .i64 x2, .int .i64 x3, .int .i64 x4, .int .i64 x5]] w (Gives (.bool true) w) := by
  have AW := Lib.hid (fun w' => awake8 w')
  have hmax := h.cap_
  have B0 := Lib.hid (below_new w (.cells #[.int .i64 x0, .int .i64 x1, .int .i64 x2, .int .i64 x3, .int .i64 x4, .int .i64 x5] 29))
  by_cases h100 : 100 < n
  · clear h
    go_enter Tryd.func4, Tryd.ntmps4
    go_wp2_with fail
    refine (AW.out _).mono ?_
    rintro e w1 ⟨rfl, hb⟩
    have B1 := Lib.hid (B0.out.trans (hb.mono B0.out.size))
    clear hb
    go_wp2
    go_ret
    exact ⟨rfl, B1.out⟩
  · have H := Lib.hid (h.prs (by omega))
    clear h
    have N0 := Lib.hid (BB.new w 29 x0 x1 x2 x3 x4 x5)
    have RS := Lib.hid (fun w' (hb : Below w.heap.size w w') => rsums_any g A n c L x0 x1 x2 x3 x4 x5 w' (H.out.keep hb))
    have P1 := Lib.hid (fun w' (hb : Below w.heap.size w w') => points_any A n c L x0 x1 x2 x3 x4 x5 w' (H.out.keep hb))
    have P2 := Lib.hid (fun w' (hb : Below w.heap.size w w') => reserve_any A n c L x0 x1 x2 x3 x4 x5 w' (H.out.keep hb))
    have P3 := Lib.hid (fun w' (hb : Below w.heap.size w w') => units_any g A n c L x0 x1 x2 x3 x4 x5 w' (H.out.keep hb))
    unfold sumsV at RS
    generalize MC.sumG fP L [x0, x1, x2, x3, x4, x5] = s1 at *
    generalize MC.sumG fR L [x0, x1, x2, x3, x4, x5] = s2 at *
    generalize MC.sumG (fU g) L [x0, x1, x2, x3, x4, x5] = s3 at *
    obtain ⟨c0, c1, c2, c3, c4, c5⟩ := cells6 N0.out
    go_enter Tryd.func4, Tryd.ntmps4
    go_wp2_with fail
    refine (RS.out _ B0.out).mono ?_
    rintro q1 w1 ⟨rfl, hb⟩
    have B1 := Lib.hid (B0.out.trans (hb.mono B0.out.size))
    have N1 := Lib.hid (N0.out.keep hb N0.out.lt)
    clear hb N0 B0 c0 c1 c2 c3 c4 c5 RS
    obtain ⟨c0, c1, c2, c3, c4, c5⟩ := cells6 N1.out
    go_wp2_with fail
    refine (P1.out _ B1.out).mono ?_
    rintro q2 w2 ⟨rfl, hb⟩
    have B2 := Lib.hid (B1.out.trans (hb.mono B1.out.size))
    have N2 := Lib.hid (N1.out.keep hb N1.out.lt)
    clear hb N1 B1 c0 c1 c2 c3 c4 c5 P1
    obtain ⟨c0, c1, c2, c3, c4, c5⟩ := cells6 N2.out
    go_wp2_with fail
    refine (P2.out _ B2.out).mono ?_
    rintro q3 w3 ⟨rfl, hb⟩
    have B3 := Lib.hid (B2.out.trans (hb.mono B2.out.size))
    have N3 := Lib.hid (N2.out.keep hb N2.out.lt)
    clear hb N2 B2 c0 c1 c2 c3 c4 c5 P2
    obtain ⟨c0, c1, c2, c3, c4, c5⟩ := cells6 N3.out
    go_wp2_with fail
    refine (P3.out _ B3.out).mono ?_
    rintro q4 w4 ⟨rfl, hb⟩
    have B4 := Lib.hid (B3.out.trans (hb.mono B3.out.size))
    clear hb N3 B3 c0 c1 c2 c3 c4 c5 P3
    go_wp2_with fail
    refine (AW.out _).mono ?_
    rintro q5 w5 ⟨rfl, hb⟩
    have B5 := Lib.hid (B4.out.trans (hb.mono B4.out.size))
    clear hb
    go_wp2
    go_ret
    exact ⟨rfl, B5.out⟩
end Go.Proofs.YtdlpolnnhhnecaaDoor
