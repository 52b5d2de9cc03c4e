/- The walk of CatalogChecks: no claim of its own. -/
import Derived.Test.YtdlpolnnhhnecaaDoorCAwake
import Derived.Test.YtdlpolnnhhnecaaDoorCOpen
namespace Go.Proofs.YtdlpolnnhhnecaaDoor
open Go.RowKit
open MC (Pr)
theorem same_lit (a b c d e f : Int) (w : World) : (Op.equalIn 10000 29 (.agg #[.int .i64 a, .int .i64 b, .int .i64 c, .int .i64 d, .int .i64 e, .int .i64 f]) (.agg #[.int .i64 a, .int .i64 b, .int .i64 c, .int .i64 d, .int .i64 e, .int .i64 f])).run Tryd.prog w = .ok true w := by
  have := run_same [a, b, c, d, e, f] [a, b, c, d, e, f] rfl rfl w
  rw [decide_eq_true rfl] at this
  exact this
set_option maxRecDepth 100000 in
set_option maxHeartbeats 4000000 in
theorem checks_walk (A : Option Addr) (n c : Nat) (L : List Pr) (s : ByteArray) (w : World) (h : PrsIn w A n c L) :
    Calls Tryd.prog 3 #[.slice A n c, .string s] w (Gives (.bool true) w) := by
  have AW := Lib.hid (fun w' => awake8 w')
  have hmax := h.cap_
  by_cases h100 : 100 < n
  · clear h
    go_enter Tryd.func3, Tryd.ntmps3
    go_wp2_with fail
    refine (AW.out _).mono ?_
    rintro e w1 ⟨rfl, hb⟩
    have B1 := Lib.hid hb
    clear hb
    go_wp2
    go_ret
    exact ⟨rfl, B1.out⟩
  · have H := Lib.hid (h.prs (by omega))
    clear h
    have F1 := Lib.hid (fun w' (hb : Below w.heap.size w w') => find_any A n c L s.data.toList w' (H.out.keep hb))
    have F2 := Lib.hid (fun w' (hb : Below w.heap.size w w') => rfind_any A n c L s.data.toList w' (H.out.keep hb))
    rw [str_self] at F1 F2
    have C1 := Lib.hid (fun w' (hb : Below w.heap.size w w') => check_any A n c L w' (H.out.keep hb))
    have C2 := Lib.hid (fun w' (hb : Below w.heap.size w w') => rcheck8_any A n c L w' (H.out.keep hb))
    have S1 := Lib.hid (fun w' (hb : Below w.heap.size w w') => supply_any A n c L w' (H.out.keep hb))
    have S2 := Lib.hid (fun w' (hb : Below w.heap.size w w') => rsupply_any A n c L w' (H.out.keep hb))
    obtain ⟨z0, z1, z2, z3, z4, z5, hz⟩ := six (MC.supB_length L)
    rw [hz, aggB_lit] at S1 S2
    have E1 := same_lit z0 z1 z2 z3 z4 z5
    have B0 := Lib.hid (Below.refl w.heap.size w)
    clear hz
    generalize MC.chkL L = er at *
    obtain ⟨k, b, hkb⟩ : ∃ (k : Nat) (b : Bool), fndV (MC.findL L s.data.toList) = .tuple #[.int .i64 k, .bool b] := by
      cases MC.findL L s.data.toList with
      | none => exact ⟨0, false, rfl⟩
      | some k => exact ⟨k, true, rfl⟩
    rw [hkb] at F1 F2
    clear hkb
    go_enter Tryd.func3, Tryd.ntmps3
    go_wp2_with fail
    refine (F1.out _ B0.out).mono ?_
    rintro q1 w1 ⟨rfl, hb⟩
    have B1 := Lib.hid hb
    clear hb F1
    go_wp2_with fail
    refine (F2.out _ B1.out).mono ?_
    rintro q2 w2 ⟨rfl, hb⟩
    have B2 := Lib.hid (B1.out.trans (hb.mono B1.out.size))
    clear hb F2
    go_wp2_with fail
    refine (C1.out _ B2.out).mono ?_
    rintro q3 w3 ⟨rfl, hb⟩
    have B3 := Lib.hid (B2.out.trans (hb.mono B2.out.size))
    clear hb C1
    go_wp2_with fail
    refine (C2.out _ B3.out).mono ?_
    rintro q4 w4 ⟨rfl, hb⟩
    have B4 := Lib.hid (B3.out.trans (hb.mono B3.out.size))
    clear hb C2
    go_wp2_with fail
    refine (S1.out _ B4.out).mono ?_
    rintro q5 w5 ⟨rfl, hb⟩
    have B5 := Lib.hid (B4.out.trans (hb.mono B4.out.size))
    clear hb S1
    go_wp2_with fail
    refine (S2.out _ B5.out).mono ?_
    rintro q6 w6 ⟨rfl, hb⟩
    have B6 := Lib.hid (B5.out.trans (hb.mono B5.out.size))
    clear hb S2
    go_wp2_with fail
    refine (AW.out _).mono ?_
    rintro q7 w7 ⟨rfl, hb⟩
    have B7 := Lib.hid (B6.out.trans (hb.mono B6.out.size))
    clear hb
    go_wp2
    go_ret
    exact ⟨rfl, B7.out⟩
end Go.Proofs.YtdlpolnnhhnecaaDoor
