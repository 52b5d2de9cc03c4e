/- The reference's Clean. No claim of its own. -/
import Derived.Test.YtbnillkihmooeaaFDom
import Derived.Test.YtbnillkihmooeaaJFM
namespace Go.Proofs.Ytbnillkihmooeaa
open Go.RowKit
attribute [local go_sem] Oper.semAt_some
/-- The i-th offer is kept, as far as the first k others say. -/
def kpB (l : List MF.Of) (a : MF.Of) (i k : Nat) : Bool := decide (1 ≤ a.value) && (List.range k).all fun j => !(domB a (l.getD j a) i j)
theorem kpB_yes {l : List MF.Of} {a b : MF.Of} {i k : Nat} (hb : l[k]? = some b) (h : domB a b i k = false) : kpB l a i (k + 1) = kpB l a i k := by
  unfold kpB
  rw [List.range_succ, List.all_append]
  simp [List.getD_eq_getElem?_getD, hb, h]
theorem kpB_no {l : List MF.Of} {a b : MF.Of} {i k : Nat} (hb : l[k]? = some b) (h : domB a b i k = true) : kpB l a i (k + 1) = false := by
  unfold kpB
  rw [List.range_succ, List.all_append]
  simp [List.getD_eq_getElem?_getD, hb, h]
theorem domB_iff {l : List MF.Of} {a b : MF.Of} {i k : Nat} (ha : l[i]? = some a) (hb : l[k]? = some b) : domB a b i k = true ↔ MF.dom l i k := by
  unfold domB MF.dom
  constructor
  · intro h
    rw [Bool.and_eq_true, Bool.and_eq_true, decide_eq_true_eq] at h
    obtain ⟨⟨h1, h2⟩, h3⟩ := h
    refine ⟨h1, a, b, ha, hb, h2, ?_⟩
    rw [Bool.or_eq_true, Bool.or_eq_true, decide_eq_true_eq, decide_eq_true_eq, decide_eq_true_eq] at h3
    rcases h3 with (h3 | h3) | h3
    · exact .inl (fun e => h3 (by rw [e]))
    · exact .inl (fun e => h3 (by rw [e]))
    · exact .inr h3
  · rintro ⟨h1, a', b', ha', hb', h2, h3⟩
    rw [ha] at ha'; rw [hb] at hb'
    injection ha' with ha'; injection hb' with hb'
    subst ha' hb'
    rw [Bool.and_eq_true, Bool.and_eq_true, decide_eq_true_eq]
    refine ⟨⟨h1, h2⟩, ?_⟩
    rw [Bool.or_eq_true, Bool.or_eq_true, decide_eq_true_eq, decide_eq_true_eq, decide_eq_true_eq]
    rcases h3 with h3 | h3
    · refine .inl ?_
      by_cases e1 : a.want = b.want
      · by_cases e2 : a.value = b.value
        · exfalso
          have hbd := (MF.good_iff.1 h2).1
          obtain ⟨ai, a0, a1, a2, a3, a4, a5, av⟩ := a
          obtain ⟨bi, b0, b1, b2, b3, b4, b5, bv⟩ := b
          unfold MF.Of.want at e1
          dsimp only at e1 e2 hbd
          injection e1 with z0 e1
          injection e1 with z1 e1
          injection e1 with z2 e1
          injection e1 with z3 e1
          injection e1 with z4 e1
          injection e1 with z5 _
          subst hbd e2 z0 z1 z2 z3 z4 z5
          exact h3 rfl
        · exact .inr e2
      · exact .inl e1
    · exact .inr h3
theorem kpB_keep {l : List MF.Of} {a : MF.Of} {i : Nat} (ha : l[i]? = some a) : kpB l a i l.length = true ↔ MF.Keep l i := by
  unfold kpB
  rw [Bool.and_eq_true, decide_eq_true_eq, List.all_eq_true]
  constructor
  · rintro ⟨h1, h2⟩
    refine ⟨a, ha, h1, fun k hd => ?_⟩
    obtain ⟨_, _, b, _, hb, _⟩ := id hd
    have hk := (List.getElem?_eq_some_iff.1 hb).1
    have := h2 k (List.mem_range.2 hk)
    rw [List.getD_eq_getElem?_getD, hb] at this
    have h3 := (domB_iff ha hb).2 hd
    simp [h3] at this
  · rintro ⟨a', ha', h1, h2⟩
    rw [ha] at ha'
    injection ha' with ha'
    subst ha'
    refine ⟨h1, fun k hk => ?_⟩
    have hk' := List.mem_range.1 hk
    have hb : l[k]? = some l[k] := List.getElem?_eq_getElem hk'
    rw [List.getD_eq_getElem?_getD, hb]
    cases h : domB a l[k] i k with
    | false => simp [h]
    | true => exact absurd ((domB_iff ha hb).1 h) (h2 k)
open Classical in
theorem refC_succ {l : List MF.Of} {a : MF.Of} {i : Nat} (ha : l[i]? = some a) : MF.refC l (i + 1) = MF.refC l i ++ (if kpB l a i l.length = true then [a] else []) := by
  unfold MF.refC
  rw [List.range_succ, List.filterMap_append]
  congr 1
  by_cases h : MF.Keep l i
  · rw [if_pos ((kpB_keep ha).2 h)]
    simp [h, ha]
  · rw [if_neg (fun q => h ((kpB_keep ha).1 q))]
    simp [h]
theorem refC_len (l : List MF.Of) (i : Nat) : (MF.refC l i).length ≤ i := by
  unfold MF.refC
  refine Nat.le_trans (List.length_filterMap_le _ _) ?_
  rw [List.length_range]
  exact Nat.le_refl _
theorem refC_clean (l : List MF.Of) : MF.refC l l.length = MF.cleanL l := ((MF.clean_ref l.length l rfl).1).symm
set_option maxRecDepth 100000 in
set_option maxHeartbeats 8000000 in
theorem rclean_any (A : Option Addr) (n c : Nat) (l : List MF.Of) (hn : n ≤ 100000) (w : World) (hl : Lst ofE w A n c l) : Calls Try.prog 34 #[.slice A n c] w (GivesL ofE (MF.cleanL l) w) := by
  have HL := Lib.hid hl
  have HLN := Lib.hid hl.len
  clear hl
  obtain ⟨i1, hi1, hy0, hy1, hy2⟩ := info_parts infoOff
  go_enter Try.func34, Try.ntmps34
  go_wp2_with fail
  go_loopw [3, 4] (fun v i wr => ∃ k : Nat, k ≤ n ∧ i = .int .i64 k ∧ OwnL ofE 52 wr w.heap.size v (MF.refC l k) ∧ Below w.heap.size w wr) (fun _ i _ => n - (intOf i).toNat)
  case atStart => exact ⟨0, Nat.zero_le _, rfl, OwnL.nil _ _ _, Below.refl _ _⟩
  case round =>
    obtain ⟨i, hi, rfl, hown, hbw⟩ := hrel
    have O0 := Lib.hid hown
    have B0 := Lib.hid hbw
    clear hown hbw
    by_cases hlt : i < n
    · obtain ⟨ad, x, rfl, hrow, hfx, hadl, e0, e1, e2, e3, e4, e5, e6, e7⟩ := of_at (HL.out.keep B0.out) hlt
      have HX := Lib.hid hrow
      have HFX := Lib.hid hfx
      obtain ⟨xi, x0, x1, x2, x3, x4, x5, xv⟩ := x
      dsimp only at e0 e1 e2 e3 e4 e5 e6 e7
      have HK0 := Lib.hid (show kpB l ⟨xi, x0, x1, x2, x3, x4, x5, xv⟩ i 0 = decide (1 ≤ xv) from by unfold kpB; simp)
      clear hrow hfx
      go_wp2_with fail
      go_loopw [5, 6] (fun b k wr => ∃ k0 : Nat, k0 ≤ n ∧ k = .int .i64 k0 ∧ b = .bool (kpB l ⟨xi, x0, x1, x2, x3, x4, x5, xv⟩ i k0) ∧ Below w.heap.size w wr ∧ OwnL ofE 52 wr w.heap.size u3 (MF.refC l i)) (fun _ k _ => n - (intOf k).toNat)
      case atStart => exact ⟨0, Nat.zero_le _, rfl, by rw [HK0.out], B0.out, O0.out⟩
      case round =>
        obtain ⟨k, hk, rfl, rfl, hbw2, hown2⟩ := hrel
        have O1 := Lib.hid hown2
        have B1 := Lib.hid hbw2
        clear hbw2 hown2 e0 e1 e2 e3 e4 e5 e6 e7
        by_cases hltk : k < n
        · obtain ⟨b, hb⟩ : ∃ b, l[k]? = some b := ⟨l[k]'(by rw [HLN.out]; exact hltk), List.getElem?_eq_getElem _⟩
          have HC := Lib.hid (rdom_any ad n c i k l ⟨xi, x0, x1, x2, x3, x4, x5, xv⟩ b wr (HL.out.keep B1.out) hlt hltk HX.out hb)
          have HY := Lib.hid (kpB_yes (a := ⟨xi, x0, x1, x2, x3, x4, x5, xv⟩) (i := i) hb)
          have HN := Lib.hid (kpB_no (a := ⟨xi, x0, x1, x2, x3, x4, x5, xv⟩) (i := i) hb)
          clear hb
          generalize domB ⟨xi, x0, x1, x2, x3, x4, x5, xv⟩ b i k = db at *
          generalize kpB l ⟨xi, x0, x1, x2, x3, x4, x5, xv⟩ i k = kb at *
          go_wp2_with fail
          refine HC.out.mono ?_
          rintro ev w2 ⟨rfl, nb⟩
          have B2 := Lib.hid (B1.out.trans (nb.mono B1.out.size))
          have O2 := Lib.hid (O1.out.keep nb)
          clear nb HC B1 O1
          cases db with
          | false =>
            have HE := Lib.hid (HY.out rfl)
            clear HY HN
            go_wp2
            go_roundw
            case rel => exact ⟨k + 1, by omega, by go_num, by rw [HE.out], B2.out, O2.out⟩
            case measure => simp [intOf]; omega
          | true =>
            have HE := Lib.hid (HN.out rfl)
            clear HY HN
            go_wp2
            go_roundw
            case rel => exact ⟨k + 1, by omega, by go_num, by rw [HE.out], B2.out, O2.out⟩
            case measure => simp [intOf]; omega
        · have hkn : k = l.length := by rw [HLN.out]; omega
          have HS := Lib.hid (refC_succ HX.out)
          have HLE := refC_len l i
          rw [show kpB l ⟨xi, x0, x1, x2, x3, x4, x5, xv⟩ i k = kpB l ⟨xi, x0, x1, x2, x3, x4, x5, xv⟩ i l.length from by rw [hkn]]
          cases hkp : kpB l ⟨xi, x0, x1, x2, x3, x4, x5, xv⟩ i l.length with
          | false =>
            have HE := Lib.hid (show MF.refC l (i + 1) = MF.refC l i from by rw [HS.out, hkp]; simp)
            clear hkp hkn HS
            generalize MF.refC l i = Rs at *
            go_wp2
            go_roundw
            case rel => exact ⟨i + 1, by omega, by go_num, by rw [HE.out]; exact O1.out, B1.out⟩
            case measure => simp [intOf]; omega
          | true =>
            have HE := Lib.hid (show MF.refC l i ++ [⟨xi, x0, x1, x2, x3, x4, x5, xv⟩] = MF.refC l (i + 1) from by rw [HS.out, hkp]; simp)
            clear hkp hkn HS
            obtain ⟨e0, e1, e2, e3, e4, e5, e6, e7⟩ := of_cells (HL.out.keep B1.out) hlt HX.out
            dsimp only at e0 e1 e2 e3 e4 e5 e6 e7
            generalize MF.refC l i = Rs at *
            have hX := heap_new wr (.cells #[.int .i64 xi, .int .i64 x0, .int .i64 x1, .int .i64 x2, .int .i64 x3, .int .i64 x4, .int .i64 x5, .int .i64 xv] 52)
            have K3 := Lib.hid (O1.out.keep (below_new wr (.cells #[.int .i64 xi, .int .i64 x0, .int .i64 x1, .int .i64 x2, .int .i64 x3, .int .i64 x4, .int .i64 x5, .int .i64 xv] 52)))
            have HB3 := Lib.hid (B1.out.trans ((below_new wr (.cells #[.int .i64 xi, .int .i64 x0, .int .i64 x1, .int .i64 x2, .int .i64 x3, .int .i64 x4, .int .i64 x5, .int .i64 xv] 52)).mono B1.out.size))
            have hs3 : w.heap.size ≤ (wr.alloc (.cells #[.int .i64 xi, .int .i64 x0, .int .i64 x1, .int .i64 x2, .int .i64 x3, .int .i64 x4, .int .i64 x5, .int .i64 xv] 52)).heap.size := HB3.out.size
            go_wp2_with (at_builtin; refine wpList_append_own _ rfl _ _ 29 rfl w.heap.size 52 i1 (.agg #[.int .i64 0, .int .i64 0, .int .i64 0, .int .i64 0, .int .i64 0, .int .i64 0, .int .i64 0, .int .i64 0]) 8 64 Try.underlying29 hi1 hy0 hy1 hy2 rfl (by decide) _ _ _ rfl K3.out.1 ⟨wr.heap.size, 0, none⟩ 1 1 [.int .i64 xi, .int .i64 x0, .int .i64 x1, .int .i64 x2, .int .i64 x3, .int .i64 x4, .int .i64 x5, .int .i64 xv] rfl rfl ?c1 ?c2 ?c3 ?c4 ?c5 ?_)
            case c1 => exact World.news_of_block hX
            case c2 => exact ofE.one ⟨xi, x0, x1, x2, x3, x4, x5, xv⟩
            case c3 => unfold maxLen; omega
            case c4 => omega
            case c5 => exact hs3
            intro v' w4 hown' hgrow _
            have RR := K3.out.app (x := ⟨xi, x0, x1, x2, x3, x4, x5, xv⟩) HFX.out HB3.out HB3.out.size (by exact hown') hgrow
            have K4 := Lib.hid RR.1
            have HB4 := Lib.hid RR.2
            clear RR hown' hgrow K3 HB3 hX e0 e1 e2 e3 e4 e5 e6 e7
            rw [HE.out] at K4
            go_wp2
            go_roundw
            case rel => exact ⟨i + 1, by omega, by go_num, K4.out, HB4.out⟩
            case measure => simp [intOf]; omega
    · have hin : i = l.length := by rw [HLN.out]; omega
      rw [hin, refC_clean] at O0
      obtain ⟨A8, c8, hv8, hl8, _⟩ := O0.out.form2 (by have := refC_len l l.length; rw [refC_clean] at this; rw [HLN.out] at this; omega)
      have L8 := Lib.hid hl8
      clear hl8 hin
      subst hv8
      go_wp2
      go_ret
      exact ⟨A8, _, c8, rfl, L8.out, B0.out⟩
end Go.Proofs.Ytbnillkihmooeaa
