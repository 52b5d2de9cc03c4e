/- The walks of CatalogParses and of CatalogRoundTrip: no claim of its own. -/
import Derived.Test.YtdlpolnnhhnecaaDoorCWalkChecks
namespace Go.Proofs.YtdlpolnnhhnecaaDoor
open Go.RowKit
open MC (Pr)
theorem parse_length (L : List Pr) (s : List UInt8) : (MC.parseL L s).1.length = 6 := by
  unfold MC.parseL
  by_cases h1 : MC.chkL L = 0
  · rw [if_pos h1]
    by_cases h2 : (toks s).2 = 0
    · rw [if_pos h2]
      by_cases h3 : (MC.scanL L (toks s).1).2.2 = 0
      · rw [if_pos h3]
        by_cases h4 : (MC.scanL L (toks s).1).2.1 = []
        · rw [if_pos h4]; exact scan_length L _
        · rw [if_neg h4]; rfl
      · rw [if_neg h3]; rfl
    · rw [if_neg h2]; rfl
  · rw [if_neg h1]; rfl
set_option maxRecDepth 100000 in
set_option maxHeartbeats 4000000 in
theorem parses_walk (A : Option Addr) (n c : Nat) (L : List Pr) (s : ByteArray) (w : World) (h : PrsIn w A n c L) (hs : s.size ≤ maxLen) :
    Calls Tryd.prog 7 #[.slice A n c, .string s] w (Gives (.bool true) w) := by
  have AW := Lib.hid (fun w' => awake8 w')
  have hmax := h.cap_
  have hs' : s.size ≤ 9223372036854775807 := hs
  have B0 := Lib.hid (Below.refl w.heap.size w)
  by_cases h100 : 100 < n
  · clear h
    go_enter Tryd.func7, Tryd.ntmps7
    go_wp2_with fail
    refine (AW.out _).mono ?_
    rintro e w1 ⟨rfl, hb⟩
    have B1 := Lib.hid (B0.out.trans (hb.mono B0.out.size))
    clear hb
    go_wp2
    go_ret
    exact ⟨rfl, B1.out⟩
  · have d1 : decide (100 < (n : Int)) = false := decide_eq_false (by omega)
    by_cases h5 : 5000 < s.size
    · have d2 : decide (5000 < (s.size : Int)) = true := decide_eq_true (by omega)
      clear h
      go_enter Tryd.func7, Tryd.ntmps7
      go_wp2_with fail
      refine (AW.out _).mono ?_
      rintro e w1 ⟨rfl, hb⟩
      have B1 := Lib.hid (B0.out.trans (hb.mono B0.out.size))
      clear hb
      go_wp2
      go_ret
      exact ⟨rfl, B1.out⟩
    · have d2 : decide (5000 < (s.size : Int)) = false := decide_eq_false (by omega)
      have H := Lib.hid (h.prs (by omega))
      clear h
      have P1 := Lib.hid (fun w' (hb : Below w.heap.size w w') => parse_any A n c L s hs' w' (H.out.keep hb))
      have P2 := Lib.hid (fun w' (hb : Below w.heap.size w w') => rparse_any A n c L s hs' w' (H.out.keep hb))
      obtain ⟨z0, z1, z2, z3, z4, z5, hz⟩ := six (parse_length L s.data.toList)
      unfold parV at P1 P2
      rw [hz, aggB_lit] at P1 P2
      generalize (MC.parseL L s.data.toList).2 = er at *
      have E1 := same_lit z0 z1 z2 z3 z4 z5
      clear hz
      go_enter Tryd.func7, Tryd.ntmps7
      go_wp2_with fail
      refine (P1.out _ B0.out).mono ?_
      rintro q1 w1 ⟨rfl, hb⟩
      have B1 := Lib.hid hb
      have B2 := Lib.hid (B1.out.trans ((below_new w1 (.cells #[.int .i64 z0, .int .i64 z1, .int .i64 z2, .int .i64 z3, .int .i64 z4, .int .i64 z5] 29)).mono B1.out.size))
      have N2 := Lib.hid (BB.new w1 29 z0 z1 z2 z3 z4 z5)
      clear hb P1
      go_wp2_with fail
      refine (P2.out _ B2.out).mono ?_
      rintro q2 w2 ⟨rfl, hb⟩
      have B3 := Lib.hid (B2.out.trans (hb.mono B2.out.size))
      have N3 := Lib.hid (N2.out.keep hb N2.out.lt)
      have hl3 := N3.out.lt
      have B4 := Lib.hid (B3.out.trans ((below_new w2 (.cells #[.int .i64 z0, .int .i64 z1, .int .i64 z2, .int .i64 z3, .int .i64 z4, .int .i64 z5] 29)).mono B3.out.size))
      clear hb P2 N2 B1 B2
      obtain ⟨c0, c1, c2, c3, c4, c5⟩ := cells6 N3.out
      go_wp2_with fail
      refine (AW.out _).mono ?_
      rintro q3 w3 ⟨rfl, hb⟩
      have B5 := Lib.hid (B4.out.trans (hb.mono B4.out.size))
      clear hb
      go_wp2
      go_ret
      exact ⟨rfl, B5.out⟩
set_option maxRecDepth 100000 in
set_option maxHeartbeats 4000000 in
theorem trip_walk (A : Option Addr) (n c : Nat) (L : List Pr) (x0 x1 x2 x3 x4 x5 : Int) (w : World) (h : PrsIn w A n c L) :
    Calls Tryd.prog 8 #[.slice A n c, .agg #[.int .i64 x0, .int .i64 x1, .int .i64 x2, .int .i64 x3, .int .i64 x4, .int .i64 x5]] w (Gives (.bool true) w) := by
  have AW := Lib.hid (fun w' => awake8 w')
  have hmax := h.cap_
  have B0 := Lib.hid (below_new w (.cells #[.int .i64 x0, .int .i64 x1, .int .i64 x2, .int .i64 x3, .int .i64 x4, .int .i64 x5] 29))
  by_cases h100 : 100 < n
  · clear h
    go_enter Tryd.func8, Tryd.ntmps8
    go_wp2_with fail
    refine (AW.out _).mono ?_
    rintro e w1 ⟨rfl, hb⟩
    have B1 := Lib.hid (B0.out.trans (hb.mono B0.out.size))
    clear hb
    go_wp2
    go_ret
    exact ⟨rfl, B1.out⟩
  · have d1 : decide (100 < (n : Int)) = false := decide_eq_false (by omega)
    have H := Lib.hid (h.prs (by omega))
    clear h
    have N0 := Lib.hid (BB.new w 29 x0 x1 x2 x3 x4 x5)
    obtain ⟨c0, c1, c2, c3, c4, c5⟩ := cells6 N0.out
    have FT := Lib.hid (fun w' (hb : Below w.heap.size w w') => rfits_any A n c L x0 x1 x2 x3 x4 x5 w' (H.out.keep hb))
    cases hf : fitsB L [x0, x1, x2, x3, x4, x5] with
    | false =>
      rw [hf] at FT
      go_enter Tryd.func8, Tryd.ntmps8
      go_wp2_with fail
      refine (FT.out _ B0.out).mono ?_
      rintro q1 w1 ⟨rfl, hb⟩
      have B1 := Lib.hid (B0.out.trans (hb.mono B0.out.size))
      clear hb
      go_wp2_with fail
      refine (AW.out _).mono ?_
      rintro q2 w2 ⟨rfl, hb⟩
      have B2 := Lib.hid (B1.out.trans (hb.mono B1.out.size))
      clear hb
      go_wp2
      go_ret
      exact ⟨rfl, B2.out⟩
    | true =>
      rw [hf] at FT
      have hF := (fitsB_iff rfl).1 hf
      have P1 := Lib.hid (fun w' (hb : Below w.heap.size w w') => format_any A n c L x0 x1 x2 x3 x4 x5 w' (H.out.keep hb))
      rw [fmt_yes hF] at P1
      have P2 := Lib.hid (fun w' (hb : Below w.heap.size w w') => parse_any A n c L (str (MC.textL L [x0, x1, x2, x3, x4, x5])) (by rw [str_size]; have := hF.text_len; omega) w' (H.out.keep hb))
      rw [str_data, hF.parse rfl] at P2
      unfold parV at P2
      simp only [aggB_lit] at P2
      have E1 := same_lit x0 x1 x2 x3 x4 x5
      generalize str (MC.textL L [x0, x1, x2, x3, x4, x5]) = tx at *
      clear hf hF
      go_enter Tryd.func8, Tryd.ntmps8
      go_wp2_with fail
      refine (FT.out _ B0.out).mono ?_
      rintro q1 w1 ⟨rfl, hb⟩
      have B1 := Lib.hid (B0.out.trans (hb.mono B0.out.size))
      have N1 := Lib.hid (N0.out.keep hb N0.out.lt)
      clear hb FT N0 c0 c1 c2 c3 c4 c5
      obtain ⟨c0, c1, c2, c3, c4, c5⟩ := cells6 N1.out
      go_wp2_with fail
      refine (P1.out _ B1.out).mono ?_
      rintro q2 w2 ⟨rfl, hb⟩
      have B2 := Lib.hid (B1.out.trans (hb.mono B1.out.size))
      have N2 := Lib.hid (N1.out.keep hb N1.out.lt)
      clear hb P1 N1 c0 c1 c2 c3 c4 c5
      go_wp2_with fail
      refine (P2.out _ B2.out).mono ?_
      rintro q3 w3 ⟨rfl, hb⟩
      have B3 := Lib.hid (B2.out.trans (hb.mono B2.out.size))
      have N3 := Lib.hid (N2.out.keep hb N2.out.lt)
      have hl3 := N3.out.lt
      have B4 := Lib.hid (B3.out.trans ((below_new w3 (.cells #[.int .i64 x0, .int .i64 x1, .int .i64 x2, .int .i64 x3, .int .i64 x4, .int .i64 x5] 29)).mono B3.out.size))
      clear hb P2 N2
      obtain ⟨c0, c1, c2, c3, c4, c5⟩ := cells6 N3.out
      go_wp2_with fail
      refine (AW.out _).mono ?_
      rintro q4 w4 ⟨rfl, hb⟩
      have B5 := Lib.hid (B4.out.trans (hb.mono B4.out.size))
      clear hb
      go_wp2
      go_ret
      exact ⟨rfl, B5.out⟩
end Go.Proofs.YtdlpolnnhhnecaaDoor
