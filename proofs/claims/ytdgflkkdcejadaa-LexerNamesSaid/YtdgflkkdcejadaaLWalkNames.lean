/- The walk of LexerNames: no claim of its own. -/
import Derived.Test.YtdgflkkdcejadaaLAwake
namespace Go.Proofs.Ytdgflkkdcejadaa
open Go.RowKit
set_option maxRecDepth 100000 in
set_option maxHeartbeats 4000000 in
theorem names_walk (s : ByteArray) (w : World) (hs : s.size ≤ maxLen) :
    Calls Try.prog 4 #[.string s] w (Gives (.bool true) w) := by
  unfold maxLen at hs
  have AW := Lib.hid (fun w' => awake6 w')
  by_cases h5 : 5000 < s.size
  · go_enter Try.func4, Try.ntmps4
    go_wp2_with fail
    refine (AW.out _).mono ?_
    rintro e w1 ⟨rfl, hb⟩
    have B1 := Lib.hid hb
    clear hb
    go_wp2
    go_ret
    exact ⟨rfl, B1.out⟩
  · have T1 := Lib.hid (fun w' => tokens_any s hs w')
    have N1 := Lib.hid (fun w' => isName_any s hs w')
    have N2 := Lib.hid (fun w' => risName_any s hs w')
    cases hN : nameB s.data.toList with
    | true =>
      rw [hN] at N1 N2
      rw [nameB_tok hN] at T1
      have hq : ((str s.data.toList).toList == s.toList) = true := test_yes (by rw [str_data])
      clear hN
      generalize s.data.toList = l at *
      go_enter Try.func4, Try.ntmps4
      go_wp2_with fail
      refine (T1.out _).mono ?_
      rintro e w1 ⟨A1, n1, c1, rfl, ht, hb⟩
      obtain rfl : n1 = 1 := ht.len.symm
      obtain ⟨ad, hA, _, x0, x1, x2, x3⟩ := ht.head
      subst hA
      simp only at x0 x1 x2 x3
      have B1 := Lib.hid hb
      clear hb ht T1
      go_wp2_with fail
      refine (N1.out _).mono ?_
      rintro e w2 ⟨rfl, hb⟩
      have B2 := Lib.hid (B1.out.trans (hb.mono B1.out.size))
      clear hb B1
      go_wp2_with fail
      refine (N2.out _).mono ?_
      rintro e w3 ⟨rfl, hb⟩
      have B3 := Lib.hid (B2.out.trans (hb.mono B2.out.size))
      clear hb B2
      go_wp2_with fail
      refine (N1.out _).mono ?_
      rintro e w4 ⟨rfl, hb⟩
      have B4 := Lib.hid (B3.out.trans (hb.mono B3.out.size))
      clear hb B3
      go_wp2_with fail
      refine (AW.out _).mono ?_
      rintro e w5 ⟨rfl, hb⟩
      have B5 := Lib.hid (B4.out.trans (hb.mono B4.out.size))
      clear hb B4
      go_wp2
      go_ret
      exact ⟨rfl, B5.out⟩
    | false =>
      rw [hN] at N1 N2
      have TN := fun t h hk ht => Bool.eq_false_iff.1 hN (tok_nameB (l := s.data.toList) (t := t) h hk ht)
      clear hN
      have SD := Lib.hid (str_data)
      generalize hT : toks s.data.toList = T at *
      obtain ⟨ts, er⟩ := T
      by_cases he : er = 0
      · subst he
        by_cases h1 : ts.length = 1
        · obtain ⟨t, rfl⟩ := List.length_eq_one_iff.1 h1
          by_cases hk : t.kind = 1
          · have hq : ((str t.text).toList == s.toList) = false := test_no (by rw [str_data]; exact fun h => TN t rfl hk h)
            clear TN hT h1 SD
            obtain ⟨kd, tx, vv, a⟩ := t
            simp only at hk hq
            subst hk
            go_enter Try.func4, Try.ntmps4
            go_wp2_with fail
            refine (T1.out _).mono ?_
            rintro e w1 ⟨A1, n1, c1, rfl, ht, hb⟩
            obtain rfl : n1 = 1 := ht.len.symm
            obtain ⟨ad, hA, _, x0, x1, x2, x3⟩ := ht.head
            subst hA
            simp only at x0 x1 x2 x3
            have B1 := Lib.hid hb
            clear hb ht T1
            go_wp2_with fail
            refine (N1.out _).mono ?_
            rintro e w2 ⟨rfl, hb⟩
            have B2 := Lib.hid (B1.out.trans (hb.mono B1.out.size))
            clear hb B1
            go_wp2_with fail
            refine (N2.out _).mono ?_
            rintro e w3 ⟨rfl, hb⟩
            have B3 := Lib.hid (B2.out.trans (hb.mono B2.out.size))
            clear hb B2
            go_wp2_with fail
            refine (N1.out _).mono ?_
            rintro e w4 ⟨rfl, hb⟩
            have B4 := Lib.hid (B3.out.trans (hb.mono B3.out.size))
            clear hb B3
            go_wp2_with fail
            refine (AW.out _).mono ?_
            rintro e w5 ⟨rfl, hb⟩
            have B5 := Lib.hid (B4.out.trans (hb.mono B4.out.size))
            clear hb B4
            go_wp2
            go_ret
            exact ⟨rfl, B5.out⟩
          · have hq : ((t.kind : Int) == 1) = false := beq_eq_false_iff_ne.2 hk
            clear TN hT h1 SD hk
            obtain ⟨kd, tx, vv, a⟩ := t
            simp only at hq
            go_enter Try.func4, Try.ntmps4
            go_wp2_with fail
            refine (T1.out _).mono ?_
            rintro e w1 ⟨A1, n1, c1, rfl, ht, hb⟩
            obtain rfl : n1 = 1 := ht.len.symm
            obtain ⟨ad, hA, _, x0, x1, x2, x3⟩ := ht.head
            subst hA
            simp only at x0 x1 x2 x3
            have B1 := Lib.hid hb
            clear hb ht T1
            go_wp2_with fail
            refine (N1.out _).mono ?_
            rintro e w2 ⟨rfl, hb⟩
            have B2 := Lib.hid (B1.out.trans (hb.mono B1.out.size))
            clear hb B1
            go_wp2_with fail
            refine (N2.out _).mono ?_
            rintro e w3 ⟨rfl, hb⟩
            have B3 := Lib.hid (B2.out.trans (hb.mono B2.out.size))
            clear hb B2
            go_wp2_with fail
            refine (N1.out _).mono ?_
            rintro e w4 ⟨rfl, hb⟩
            have B4 := Lib.hid (B3.out.trans (hb.mono B3.out.size))
            clear hb B3
            go_wp2_with fail
            refine (AW.out _).mono ?_
            rintro e w5 ⟨rfl, hb⟩
            have B5 := Lib.hid (B4.out.trans (hb.mono B4.out.size))
            clear hb B4
            go_wp2
            go_ret
            exact ⟨rfl, B5.out⟩
        · have HL := Lib.hid h1
          clear TN hT h1 SD
          go_enter Try.func4, Try.ntmps4
          go_wp2_with fail
          refine (T1.out _).mono ?_
          rintro e w1 ⟨A1, n1, c1, rfl, ht, hb⟩
          have hq : ((n1 : Int) == 1) = false := beq_eq_false_iff_ne.2 (by have h2 := ht.len; have h3 := HL.out; have h4 : ts.length = n1 := h2; omega)
          have hfew := ht.few
          have B1 := Lib.hid hb
          clear hb ht T1
          go_wp2_with fail
          refine (N1.out _).mono ?_
          rintro e w2 ⟨rfl, hb⟩
          have B2 := Lib.hid (B1.out.trans (hb.mono B1.out.size))
          clear hb B1
          go_wp2_with fail
          refine (N2.out _).mono ?_
          rintro e w3 ⟨rfl, hb⟩
          have B3 := Lib.hid (B2.out.trans (hb.mono B2.out.size))
          clear hb B2
          go_wp2_with fail
          refine (N1.out _).mono ?_
          rintro e w4 ⟨rfl, hb⟩
          have B4 := Lib.hid (B3.out.trans (hb.mono B3.out.size))
          clear hb B3
          go_wp2_with fail
          refine (AW.out _).mono ?_
          rintro e w5 ⟨rfl, hb⟩
          have B5 := Lib.hid (B4.out.trans (hb.mono B4.out.size))
          clear hb B4
          go_wp2
          go_ret
          exact ⟨rfl, B5.out⟩
      · have hq : ((er : Int) == 0) = false := beq_eq_false_iff_ne.2 he
        clear TN hT he SD
        go_enter Try.func4, Try.ntmps4
        go_wp2_with fail
        refine (T1.out _).mono ?_
        rintro e w1 ⟨A1, n1, c1, rfl, ht, hb⟩
        have B1 := Lib.hid hb
        clear hb ht T1
        go_wp2_with fail
        refine (N1.out _).mono ?_
        rintro e w2 ⟨rfl, hb⟩
        have B2 := Lib.hid (B1.out.trans (hb.mono B1.out.size))
        clear hb B1
        go_wp2_with fail
        refine (N2.out _).mono ?_
        rintro e w3 ⟨rfl, hb⟩
        have B3 := Lib.hid (B2.out.trans (hb.mono B2.out.size))
        clear hb B2
        go_wp2_with fail
        refine (N1.out _).mono ?_
        rintro e w4 ⟨rfl, hb⟩
        have B4 := Lib.hid (B3.out.trans (hb.mono B3.out.size))
        clear hb B3
        go_wp2_with fail
        refine (AW.out _).mono ?_
        rintro e w5 ⟨rfl, hb⟩
        have B5 := Lib.hid (B4.out.trans (hb.mono B4.out.size))
        clear hb B4
        go_wp2
        go_ret
        exact ⟨rfl, B5.out⟩
end Go.Proofs.Ytdgflkkdcejadaa
