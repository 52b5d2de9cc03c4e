/- The reference's List and Halves: no claim of its own. -/
import Derived.Test.YtjjpfpgjpmedmaaBRows
import Derived.Test.YtjjpfpgjpmedmaaBRank
import Derived.Deep.DeepCutAuto
import Derived.OneCell
namespace Go.Proofs.Ytjjpfpgjpmedmaa
open Go.RowKit
theorem row_start (w : World) : OwnR (w.alloc (.cells #[.int .i64 0, .int .i64 0, .int .i64 0, .int .i64 0, .int .i64 0, .int .i64 0] 24)) w.heap.size (.slice (some ⟨w.heap.size, 0, none⟩) 1 1) (MB.row [] 0 1) :=
  ⟨World.ownsRow_lit w #[.int .i64 0, .int .i64 0, .int .i64 0, .int .i64 0, .int .i64 0, .int .i64 0] 1 (Nat.le_refl _) (by unfold maxLen; decide) rfl, row_all _ _ _ (by decide)⟩
theorem row_zero' (s : List Int) : MB.row s 0 1 = MB.row [] 0 1 := rfl
theorem row_at' {s : List Int} {i n k : Nat} (h : k < n) : (MB.row s i n)[k]? = some (MB.pad (MB.D s i k)) := MB.row_at h
theorem row_get {s : List Int} {i n k : Nat} {r : List Int} (hk : k < n) (h : (MB.row s i n)[k]? = some r) : MB.pad (MB.D s i k) = r := by
  rw [row_at' hk] at h; injection h
set_option maxRecDepth 100000 in
set_option maxHeartbeats 4000000 in
theorem list_yes (a b c d e f : Int) (w : World) (hok : MB.okB [a, b, c, d, e, f] = true) (hP : MB.P [a, b, c, d, e, f] 6 ≤ 1024) : Calls Try.prog 27 #[.agg #[.int .i64 a, .int .i64 b, .int .i64 c, .int .i64 d, .int .i64 e, .int .i64 f]] w (GivesRws (MB.row [a, b, c, d, e, f] 6 (MB.P [a, b, c, d, e, f] 6)) w) := by
  have HC := Lib.hid (fun w => rcount_any a b c d e f w)
  rw [cnt_yes hok hP] at HC
  have hP0 := P_pos' [a, b, c, d, e, f] 6
  have hP1 := Lib.hid hP
  generalize hPP : ((MB.P [a, b, c, d, e, f] 6 : Nat) : Int) = PP at HC hP0
  have hq : (PP == 0) = false := by simp; omega
  clear hPP hP
  have H0 := Lib.hid (BB.new w 24 a b c d e f)
  have B0 := Lib.hid (below_new w (.cells #[.int .i64 a, .int .i64 b, .int .i64 c, .int .i64 d, .int .i64 e, .int .i64 f] 24))
  have HSa := Lib.hid (show ∀ k, k < 6 → 0 ≤ MB.at_ [a, b, c, d, e, f] k ∧ MB.at_ [a, b, c, d, e, f] k ≤ 4 from fun k hk => okB_at hok (b := [a, b, c, d, e, f]) (k := k) hk)
  have HPs := Lib.hid (show ∀ k, k ≤ 6 → MB.P [a, b, c, d, e, f] k ≤ 15625 from fun k hk => P_small hok rfl hk)
  obtain ⟨i0, hi, hz0, hz1, hz2⟩ := info_parts infoBun
  clear hok
  go_enter Try.func27, Try.ntmps27
  go_wp2_with fail
  refine (HC.out _).mono ?_
  rintro e1 w1 ⟨rfl, hb⟩
  have B1 := Lib.hid (B0.out.trans (hb.mono B0.out.size))
  have H1 := Lib.hid (H0.out.keep hb H0.out.lt)
  have hlt0 := H1.out.lt
  clear hb B0 H0 HC
  go_wp2
  have R1 := Lib.hid (row_start w1)
  have B2 := Lib.hid (B1.out.alloc B1.out.size (.cells #[.int .i64 0, .int .i64 0, .int .i64 0, .int .i64 0, .int .i64 0, .int .i64 0] 24))
  have H2 := Lib.hid (H1.out.alloc (.cells #[.int .i64 0, .int .i64 0, .int .i64 0, .int .i64 0, .int .i64 0, .int .i64 0] 24))
  obtain ⟨s, hs⟩ : ∃ s, [a, b, c, d, e, f] = s := ⟨_, rfl⟩
  rw [← row_zero' [a, b, c, d, e, f]] at R1
  rw [hs] at R1 H2 HSa HPs
  have HS := Lib.hid hs
  clear hs B1 H1
  have hw1 := B2.out.size
  generalize w1.alloc (.cells #[.int .i64 0, .int .i64 0, .int .i64 0, .int .i64 0, .int .i64 0, .int .i64 0] 24) = w2 at *
  generalize w1.heap.size = g1 at *
  go_loopw [3, 4] (fun v t wr => ∃ (i : Nat) (Ad : Option Addr) (cap : Nat), i ≤ 6 ∧ t = .int .i64 i ∧ v = .slice Ad (MB.P s i) cap ∧ Rws wr Ad (MB.P s i) cap (MB.row s i (MB.P s i)) ∧ BB wr w.heap.size 24 s ∧ Below w.heap.size w wr) (fun _ t _ => 6 - (intOf t).toNat)
  case atStart =>
    obtain ⟨Ad, cap, hv, hr⟩ := R1.out.form (by show (1 : Nat) ≤ _; decide)
    injection hv with h1 h2 h3
    subst h1; subst h3
    exact ⟨0, _, _, Nat.zero_le _, rfl, rfl, hr, H2.out, B2.out⟩
  case round =>
    obtain ⟨i, Ad, cap, hi6, rfl, rfl, hr, hbb, hbw⟩ := hrel
    have RW := Lib.hid hr
    have G := Lib.hid hbb
    have HW := Lib.hid hbw
    clear hr hbb hbw R1 H2 B2
    by_cases hlt : i < 6
    · have hs04 := HSa.out i hlt
      have hp1 := HPs.out (i + 1) hlt
      have hp0 := HPs.out i hi6
      obtain ⟨q4, hq4⟩ : ∃ q : Nat, MB.at_ s i = (q : Int) := ⟨(MB.at_ s i).toNat, by omega⟩
      have HQ4 := Lib.hid hq4
      rw [hq4] at hs04
      have hPn : MB.P s (i + 1) = MB.P s i * (q4 + 1) := by rw [MB.P]; congr 1; omega
      rw [hPn] at hp1
      have HPn := Lib.hid hPn
      clear hq4 hPn
      obtain ⟨wo, hwo⟩ : ∃ wo : World, wo = wr := ⟨_, rfl⟩
      rw [← hwo] at RW G HW ⊢
      clear hwo
      have hd1 : decide ((i : Int) < 6) = true := by simp; omega
      go_wp2_with fail
      clear hd1
      go_loopw [5, 6] (fun v t wr => ∃ (k : Nat), k ≤ MB.P s i ∧ t = .int .i64 k ∧ OwnR wr wo.heap.size v (MB.row s (i + 1) (k * (q4 + 1))) ∧ Below wo.heap.size wo wr) (fun _ t _ => MB.P s i - (intOf t).toNat)
      case atStart => exact ⟨0, Nat.zero_le _, rfl, by rw [Nat.zero_mul]; exact OwnR.nil _ _, Below.refl _ _⟩
      case round =>
        obtain ⟨k, hk, rfl, ho, hb2⟩ := hrel
        have O2 := Lib.hid ho
        have B2 := Lib.hid hb2
        clear ho hb2
        by_cases hkl : k < MB.P s i
        · obtain ⟨w3, hw3⟩ : ∃ w3 : World, w3 = wr := ⟨_, rfl⟩
          rw [← hw3] at O2 B2 ⊢
          clear hw3
          go_wp2_with fail
          go_loopw [5, 7] (fun v t wr => ∃ (q : Nat), q ≤ q4 + 1 ∧ t = .int .i64 q ∧ OwnR wr wo.heap.size v (MB.row s (i + 1) (k * (q4 + 1) + q)) ∧ Below wo.heap.size wo wr) (fun _ t _ => q4 + 1 - (intOf t).toNat)
          case atStart => exact ⟨0, Nat.zero_le _, rfl, O2.out, B2.out⟩
          case round =>
            obtain ⟨q, hq, rfl, ho, hb3⟩ := hrel
            have O3 := Lib.hid ho
            have B3 := Lib.hid hb3
            have G3 := Lib.hid (G.out.keep hb3 G.out.lt)
            clear ho hb3 O2 B2
            have cs := G3.out.cell hlt
            rw [HQ4.out] at cs
            by_cases hql : q ≤ q4
            · obtain ⟨ad, x0, x1, x2, x3, x4, x5, rfl, hrow, hadl, e0, e1, e2, e3, e4, e5⟩ := (RW.out.keep B3.out).at_ hkl
              have HR := Lib.hid (row_get hkl hrow)
              clear hrow
              go_upto_region 15 with (fail)
              have k1 := Lib.hid (BB.new wr 24 x0 x1 x2 x3 x4 x5)
              have k2 := Lib.hid (below_new wr (.cells #[.int .i64 x0, .int .i64 x1, .int .i64 x2, .int .i64 x3, .int .i64 x4, .int .i64 x5] 24))
              have O4 := Lib.hid (O3.out.keep k2.out)
              have B4 := Lib.hid (B3.out.trans (k2.out.mono B3.out.size))
              have LT := Lib.hid (fun g hg => (World.ownsRow.lt O3.out.1 g hg).2)
              have hbw := B3.out.size
              generalize wr.alloc (.cells #[.int .i64 x0, .int .i64 x1, .int .i64 x2, .int .i64 x3, .int .i64 x4, .int .i64 x5] 24) = w5 at *
              generalize hg8 : wr.heap.size = g8 at *
              rw [← HR.out] at k1
              have k3 := Lib.hid (MB.pad_set s i k q hlt (by rw [HQ4.out]; omega))
              rw [HQ4.out, Int.toNat_natCast] at k3
              have hc8 := k1.out.cell hlt
              have hf8 := k1.out.free i
              have hs8 := k1.out.lt
              go_upto_region 16 with (fail)
              have k4 := k1.out.set i (q : Int)
              have O5 := Lib.hid (show OwnR (w5.setCell ⟨g8, i, none⟩ (.int .i64 (q : Int))) wo.heap.size u5 (MB.row s (i + 1) (k * (q4 + 1) + q)) from ⟨ownsRow_setCell_other O4.out.1 (fun e => absurd (LT.out g8 e) (by omega)) _, O4.out.2⟩)
              have B5 := Lib.hid (B4.out.setCell (p := ⟨g8, i, none⟩) (by show wo.heap.size ≤ g8; exact hbw) (.int .i64 (q : Int)))
              generalize w5.setCell ⟨g8, i, none⟩ (.int .i64 (q : Int)) = w6 at k4 O5 B5 ⊢
              rw [k3.out] at k4
              have hpl := MB.pad_length (l := MB.D s (i + 1) (k * (q4 + 1) + q)) (by rw [MB.D_length]; exact hlt)
              obtain ⟨y0, y1, y2, y3, y4, y5, hy⟩ := six hpl
              rw [hy] at k4
              have HY := Lib.hid hy
              obtain ⟨d0, d1, d2, d3, d4, d5⟩ := cells6 k4
              have X2 := BB.new w6 24 y0 y1 y2 y3 y4 y5
              have hb6 := B5.out.size
              have O6 := Lib.hid (O5.out.keep (below_new w6 (.cells #[.int .i64 y0, .int .i64 y1, .int .i64 y2, .int .i64 y3, .int .i64 y4, .int .i64 y5] 24)))
              have B6 := Lib.hid (B5.out.alloc hb6 (.cells #[.int .i64 y0, .int .i64 y1, .int .i64 y2, .int .i64 y3, .int .i64 y4, .int .i64 y5] 24))
              have HX2 := Lib.hid X2.row
              have hfew : k * (q4 + 1) + q < 15625 := by
                have := Nat.mul_le_mul_right (q4 + 1) (Nat.succ_le_of_lt hkl)
                rw [Nat.succ_eq_add_one, Nat.add_mul, Nat.one_mul] at this
                omega
              have FW := Lib.hid (show (MB.row s (i + 1) (k * (q4 + 1) + q)).length < 15625 by rw [MB.row_length]; exact hfew)
              clear hfew hy hpl k4 k3 k2 k1 X2 O3 O4 O5 B3 B4 B5 LT hc8 hf8 hs8 hbw e0 e1 e2 e3 e4 e5 HR cs
              go_wp2_with (at_builtin; refine wpList_append_own _ rfl _ _ 45 rfl wo.heap.size 24 i0 (.agg #[.int .i64 0, .int .i64 0, .int .i64 0, .int .i64 0, .int .i64 0, .int .i64 0]) 6 48 Try.underlying45 hi hz0 hz1 hz2 rfl (by decide) _ _ _ rfl O6.out.1 ⟨w6.heap.size, 0, none⟩ 1 1 (cellsR [y0, y1, y2, y3, y4, y5]) rfl rfl ?c1 ?c2 ?c3 ?c4 ?c5 ?_)
              case c1 => exact HX2.out
              case c2 => exact cellsR_one _
              case c3 => have := FW.out; unfold maxLen; omega
              case c4 => have := FW.out; omega
              case c5 => simp; omega
              intro v' w7 hown' hgrow _
              have R := O6.out.app rfl B6.out B6.out.size hown' hgrow
              rw [← HY.out, ← MB.row_snoc] at R
              have O7 := Lib.hid R.1
              have B7 := Lib.hid R.2
              clear R hown' hgrow O6 B6 FW HX2 d0 d1 d2 d3 d4 d5
              go_wp2
              go_roundw
              case rel => exact ⟨q + 1, by omega, by go_num, O7.out, B7.out⟩
              case measure => simp [intOf]; omega
            · obtain rfl : q = q4 + 1 := by omega
              go_wp2
              go_roundw
              case rel => exact ⟨k + 1, hkl, by go_num, by rw [Nat.add_mul, Nat.one_mul]; exact O3.out, B3.out⟩
              case measure => simp [intOf]; omega
        · obtain rfl : k = MB.P s i := by omega
          rw [← HPn.out] at O2
          obtain ⟨Ad', cap', hv, hr'⟩ := O2.out.form (by rw [MB.row_length]; rw [HPn.out]; omega)
          subst hv
          rw [MB.row_length] at hr' ⊢
          have RW' := Lib.hid hr'
          have G' := Lib.hid (G.out.keep B2.out G.out.lt)
          have HW' := Lib.hid (HW.out.trans (B2.out.mono HW.out.size))
          clear hr' O2 B2
          go_wp2
          go_roundw
          case rel => exact ⟨i + 1, _, _, hlt, by go_num, rfl, RW'.out, G'.out, HW'.out⟩
          case measure => simp [intOf]; omega
    · obtain rfl : i = 6 := by omega
      go_wp2
      go_ret
      exact ⟨_, _, _, rfl, by rw [HS.out]; exact RW.out, HW.out⟩

set_option maxRecDepth 100000 in
set_option maxHeartbeats 1000000 in
theorem list_no (a b c d e f : Int) (w : World) (h : ¬ (MB.okB [a, b, c, d, e, f] = true ∧ MB.P [a, b, c, d, e, f] 6 ≤ 1024)) : Calls Try.prog 27 #[.agg #[.int .i64 a, .int .i64 b, .int .i64 c, .int .i64 d, .int .i64 e, .int .i64 f]] w (GivesRws [] w) := by
  have HC := Lib.hid (fun w => rcount_any a b c d e f w)
  rw [cnt_no h] at HC
  clear h
  have B0 := Lib.hid (below_new w (.cells #[.int .i64 a, .int .i64 b, .int .i64 c, .int .i64 d, .int .i64 e, .int .i64 f] 24))
  go_enter Try.func27, Try.ntmps27
  go_wp2_with fail
  refine (HC.out _).mono ?_
  rintro e1 w1 ⟨rfl, hb⟩
  have B1 := Lib.hid (B0.out.trans (hb.mono B0.out.size))
  clear hb
  go_wp2
  go_ret
  exact ⟨_, _, _, rfl, Rws.nil _, B1.out⟩
/-- What List answers; what Halves answers. -/
def listB (s : List Int) : List (List Int) := if MB.okB s then (if MB.P s 6 ≤ 1024 then MB.row s 6 (MB.P s 6) else []) else []
theorem list_any (a b c d e f : Int) (w : World) : Calls Try.prog 27 #[.agg #[.int .i64 a, .int .i64 b, .int .i64 c, .int .i64 d, .int .i64 e, .int .i64 f]] w (GivesRws (listB [a, b, c, d, e, f]) w) := by
  by_cases h : MB.okB [a, b, c, d, e, f] = true ∧ MB.P [a, b, c, d, e, f] 6 ≤ 1024
  · have ee : listB [a, b, c, d, e, f] = MB.row [a, b, c, d, e, f] 6 (MB.P [a, b, c, d, e, f] 6) := by unfold listB; rw [if_pos h.1, if_pos h.2]
    rw [ee]; exact list_yes a b c d e f w h.1 h.2
  · have ee : listB [a, b, c, d, e, f] = [] := by
      unfold listB
      split
      · next h1 => rw [if_neg (fun h2 => h ⟨h1, h2⟩)]
      · rfl
    rw [ee]; exact list_no a b c d e f w h
end Go.Proofs.Ytjjpfpgjpmedmaa
