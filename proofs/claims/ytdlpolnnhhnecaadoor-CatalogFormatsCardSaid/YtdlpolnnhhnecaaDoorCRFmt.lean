/- Format of the reference: no claim of its own. -/
import Derived.Test.YtdlpolnnhhnecaaDoorCItoa
import Derived.Test.YtdlpolnnhhnecaaDoorMathV
namespace Go.Proofs.YtdlpolnnhhnecaaDoor
open Go.RowKit
open MC (Pr)
set_option maxRecDepth 100000 in
set_option maxHeartbeats 4000000 in
theorem rformat_any (A : Option Addr) (n cp : Nat) (L : List Pr) (a b c d e f : Int) (w : World) (h : Prs w A n cp L) :
    Calls Tryd.prog 23 #[.slice A n cp, .agg #[.int .i64 a, .int .i64 b, .int .i64 c, .int .i64 d, .int .i64 e, .int .i64 f]] w (Gives (.string (str (MC.fmtL L [a, b, c, d, e, f]))) w) := by
  have hn := h.few
  have hc := h.cap
  have HL := Lib.hid h.len
  have H := Lib.hid h
  clear h
  have H1 := Lib.hid (BB.new w 29 a b c d e f)
  have HB := Lib.hid (below_new w (.cells #[.int .i64 a, .int .i64 b, .int .i64 c, .int .i64 d, .int .i64 e, .int .i64 f] 29))
  have FT := Lib.hid (fun w' (hb : Below w.heap.size w w') => rfits_any A n cp L a b c d e f w' (H.out.keep hb))
  obtain ⟨c0, c1, c2, c3, c4, c5⟩ := cells6 H1.out
  by_cases hfit : MC.Fits L [a, b, c, d, e, f]
  · rw [(fitsB_iff rfl).2 hfit] at FT
    have GL := Lib.hid (Good_of hfit.1)
    have h6 : n ≤ 6 := by have := GL.out.few; rw [HL.out] at this; exact this
    have HOK := Lib.hid hfit.2.1
    have G := Lib.hid (ret_str (show (⟨#[123]⟩ : ByteArray) ++ str (MC.inK L [a, b, c, d, e, f] n) ++ ⟨#[125]⟩ = str (MC.fmtL L [a, b, c, d, e, f]) by rw [fmt_yes hfit, ← HL.out]; exact text_str L _))
    clear hfit
    go_enter Tryd.func23, Tryd.ntmps23
    go_wp2_with fail
    refine (FT.out _ HB.out).mono ?_
    rintro e1 w1 ⟨rfl, hb⟩
    have B1 := Lib.hid (HB.out.trans (hb.mono HB.out.size))
    have N1 := Lib.hid (H1.out.keep hb H1.out.lt)
    clear hb c0 c1 c2 c3 c4 c5 H1 HB FT
    go_wp2_with fail
    obtain ⟨xs, hxs⟩ : ∃ xs, [a, b, c, d, e, f] = xs := ⟨_, rfl⟩
    rw [hxs] at N1 HOK G
    have HXS := Lib.hid hxs
    clear hxs
    go_loopw [5, 6] (fun s i wr => ∃ k : Nat, k ≤ n ∧ i = .int .i64 k ∧ s = .string (str (MC.inK L xs k)) ∧ Hid (BB wr w.heap.size 29 xs) ∧ Hid (Below w.heap.size w wr)) (fun _ i _ => n - (intOf i).toNat)
    case atStart => exact ⟨0, Nat.zero_le _, rfl, rfl, N1, B1⟩
    case round =>
      rename_i _ wr
      clear N1 B1
      obtain ⟨k, hk, rfl, rfl, N1, B1⟩ := hrel
      have S1 : (str (MC.inK L xs k)).size ≤ 90 := by rw [str_size]; have := inK_short GL.out xs k; omega
      by_cases hlt : k < n
      · have hc1 := N1.out.cell (k := k) (by omega)
        obtain ⟨q, hq, hq4⟩ : ∃ q : Nat, MB.at_ xs k = q ∧ q ≤ 4 := by
          have := MC.okB_at HOK.out k
          exact ⟨(MB.at_ xs k).toNat, by omega, by omega⟩
        have HQ := Lib.hid hq
        rw [hq] at hc1
        clear hq
        by_cases h0 : 0 < q
        · obtain ⟨ad, p, rfl, q1, hbk, x0, x1, x2, x3, x4⟩ := (H.out.keep B1.out).at_ hlt
          have S2 : (str p.name).size ≤ 12 := by rw [str_size]; exact MC.nameB_len (GL.out.each k p q1).1
          have hd0 : decide (0 < (q : Int)) = true := decide_eq_true (by omega)
          have hx := dig5_lit q (by omega)
          have S3 : (str [UInt8.ofNat (48 + q)]).size = 1 := by rw [str_size]; rfl
          by_cases he : MC.inK L xs k = []
          · have E := Lib.hid (val_str (in_first q1 HQ.out h0 he))
            have n1 : (str (MC.inK L xs k)).toList.isEmpty = true := by rw [he, ByteArray.toList_eq]; rfl
            have n2 : ((str (MC.inK L xs k)).toList == []) = true := by rw [he, ByteArray.toList_eq]; rfl
            clear he q1 hbk x1 x2 x3 x4
            generalize str p.name = s1 at *
            generalize str (MC.inK L xs k) = s2 at *
            generalize str [UInt8.ofNat (48 + q)] = s3 at *
            go_wp2_with fail
            go_quiet (fail)
            have N2 := Lib.hid (N1.out.drewN nq)
            have B2 := Lib.hid (below_drewN B1.out nq)
            go_wp2
            go_roundw
            case rel => exact ⟨k + 1, by omega, by go_num, E.out, N2, B2⟩
            case measure => simp [intOf]; omega
          · have E := Lib.hid (val_str (in_more q1 HQ.out h0 he))
            have n1 : (str (MC.inK L xs k)).toList.isEmpty = false := by
              rw [ByteArray.toList_eq, str_data]; cases hh : MC.inK L xs k with | nil => exact absurd hh he | cons _ _ => rfl
            have n2 : ((str (MC.inK L xs k)).toList == []) = false := by
              rw [ByteArray.toList_eq, str_data]; exact beq_eq_false_iff_ne.2 he
            clear he q1 hbk x1 x2 x3 x4
            generalize str p.name = s1 at *
            generalize str (MC.inK L xs k) = s2 at *
            generalize str [UInt8.ofNat (48 + q)] = s3 at *
            go_wp2_with fail
            go_quiet (fail)
            have N2 := Lib.hid (N1.out.drewN nq)
            have B2 := Lib.hid (below_drewN B1.out nq)
            go_wp2
            go_roundw
            case rel => exact ⟨k + 1, by omega, by go_num, E.out, N2, B2⟩
            case measure => simp [intOf]; omega
        · have hd0 : decide (0 < (q : Int)) = false := decide_eq_false (by omega)
          have E := Lib.hid (MC.inK_skip (l := L) (b := xs) (k := k) (by rw [HQ.out]; omega))
          go_wp2
          go_roundw
          case rel => exact ⟨k + 1, by omega, by go_num, by rw [E.out], N1, B1⟩
          case measure => simp [intOf]; omega
      · obtain rfl : k = n := by omega
        clear H HL GL HOK N1
        generalize str (MC.inK L xs k) = s2 at *
        go_wp2_with fail
        go_ret
        refine ⟨?_, B1.out⟩
        rw [HXS.out]
        exact G.out
  · have hfb : fitsB L [a, b, c, d, e, f] = false := by
      cases hh : fitsB L [a, b, c, d, e, f] with
      | false => rfl
      | true => exact absurd ((fitsB_iff rfl).1 hh) hfit
    rw [hfb] at FT
    have G := Lib.hid (ret_str (show (⟨#[]⟩ : ByteArray) = str (MC.fmtL L [a, b, c, d, e, f]) by rw [fmt_no hfit]; rfl))
    clear hfb hfit
    go_enter Tryd.func23, Tryd.ntmps23
    go_wp2_with fail
    refine (FT.out _ HB.out).mono ?_
    rintro e1 w1 ⟨rfl, hb⟩
    have B1 := Lib.hid (HB.out.trans (hb.mono HB.out.size))
    clear hb
    go_wp2
    go_ret
    exact ⟨G.out, B1.out⟩
end Go.Proofs.YtdlpolnnhhnecaaDoor
