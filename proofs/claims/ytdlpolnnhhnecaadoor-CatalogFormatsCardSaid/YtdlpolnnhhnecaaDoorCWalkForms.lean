/- The walk of CatalogFormats: no claim of its own. -/
import Derived.Test.YtdlpolnnhhnecaaDoorCWalkChecks
import Derived.Test.YtdlpolnnhhnecaaDoorCRFmt
import Derived.Lib.QuietBelow
namespace Go.Proofs.YtdlpolnnhhnecaaDoor
open Go.RowKit
open MC (Pr)
theorem test_same (s : ByteArray) : (s.toList == s.toList) = true := beq_self_eq_true _
set_option maxRecDepth 100000 in
set_option maxHeartbeats 4000000 in
theorem formats_walk (A : Option Addr) (n c : Nat) (L : List Pr) (x0 x1 x2 x3 x4 x5 : Int) (w : World) (h : PrsIn w A n c L) :
    Calls Tryd.prog 6 #[.slice A n c, .agg #[.int .i64 x0, .int .i64 x1, .int .i64 x2, .int .i64 x3, .int .i64 x4, .int .i64 x5]] w (Gives (.bool true) w) := by
  have AW := Lib.hid (fun w' => awake8 w')
  have hmax := h.cap_
  have B0 := Lib.hid (below_new w (.cells #[.int .i64 x0, .int .i64 x1, .int .i64 x2, .int .i64 x3, .int .i64 x4, .int .i64 x5] 29))
  by_cases h100 : 100 < n
  · clear h
    go_enter Tryd.func6, Tryd.ntmps6
    go_wp2_with fail
    refine (AW.out _).mono ?_
    rintro e w1 ⟨rfl, hb⟩
    have B1 := Lib.hid (B0.out.trans (hb.mono B0.out.size))
    clear hb
    go_wp2
    go_ret
    exact ⟨rfl, B1.out⟩
  · have H := Lib.hid (h.prs (by omega))
    clear h
    have N0 := Lib.hid (BB.new w 29 x0 x1 x2 x3 x4 x5)
    have P1 := Lib.hid (fun w' (hb : Below w.heap.size w w') => format_any A n c L x0 x1 x2 x3 x4 x5 w' (H.out.keep hb))
    have P2 := Lib.hid (fun w' (hb : Below w.heap.size w w') => rformat_any A n c L x0 x1 x2 x3 x4 x5 w' (H.out.keep hb))
    generalize str (MC.fmtL L [x0, x1, x2, x3, x4, x5]) = s at *
    have hss := test_same s
    have hmo : Tryd.prog.follows .mixedOrders = true := by kernel_rfl
    go_enter Tryd.func6, Tryd.ntmps6
    go_wp2_with fail
    obtain ⟨X, hX⟩ : ∃ X, X = w.alloc (.cells #[.int .i64 x0, .int .i64 x1, .int .i64 x2, .int .i64 x3, .int .i64 x4, .int .i64 x5] 29) := ⟨_, rfl⟩
    rw [← hX] at B0 N0 ⊢
    clear hX
    obtain ⟨c0, c1, c2, c3, c4, c5⟩ := cells6 N0.out
    have k0 := cell_regrown c0
    have k1 := cell_regrown c1
    have k2 := cell_regrown c2
    have k3 := cell_regrown c3
    have k4 := cell_regrown c4
    have k5 := cell_regrown c5
    clear c0 c1 c2 c3 c4 c5
    have s1 := fun d os => Calls.regrown_of (P1.out (Go.Sort.grow (redrawn X d) os) (B0.out.trans ((below_regrown X d os).mono B0.out.size)))
    have s2 := fun d os => Calls.regrown_of (P2.out (Go.Sort.grow (redrawn X d) os) (B0.out.trans ((below_regrown X d os).mono B0.out.size)))
    have s3 := fun d os => Calls.regrown_of (AW.out (Go.Sort.grow (redrawn X d) os))
    refine wp_region_quiet_below hmo (by kernel_rfl) ?_
    repeat (quiet_step (first | exact s1 _ _ | exact s2 _ _ | exact s3 _ _))
    refine wpQuiet_nil ?_
    rintro _ ⟨pz, rfl⟩
    have B2 := Lib.hid (B0.out.trans ((below_regrown X pz.d pz.os).mono B0.out.size))
    clear s1 s2 s3 k0 k1 k2 k3 k4 k5
    generalize Go.Sort.grow (redrawn X pz.d) pz.os = V at *
    go_wp2
    go_ret
    exact ⟨rfl, B2.out⟩
end Go.Proofs.YtdlpolnnhhnecaaDoor
