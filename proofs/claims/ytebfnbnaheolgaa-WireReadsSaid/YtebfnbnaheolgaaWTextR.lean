/- The contract of a reader's Text: no claim of its own. -/
import Derived.Test.YtebfnbnaheolgaaWText
namespace Go.Proofs.Ytebfnbnaheolgaa
open Go.RowKit
theorem RP.dead {w : World} {g : Nat} {e : Int} (h : RP w g [] e) (he : e ≠ 0) : Dead w (.pointer (some ⟨g, 0, none⟩)) e := .inr ⟨g, rfl, h, he⟩
theorem uintS_le (l : List UInt8) (most : Nat) : (uintS l most).1 ≤ most := by
  unfold uintS
  split
  · exact Nat.zero_le _
  · split
    · exact Nat.zero_le _
    · omega
set_option maxRecDepth 100000 in
set_option maxHeartbeats 1000000 in
theorem textR_neg (g : Nat) (l : List UInt8) (most : Int) (w : World) (hm0 : -9223372036854775808 ≤ most) (hm : most < 0) (h : RP w g l 0) (hl : l.length ≤ 1000000) :
    Calls Try.prog 20 #[.pointer (some ⟨g, 0, none⟩), .int .i64 most] w (Rd (.string (str (textS l most).1)) g (textS l most).2.1 (textS l most).2.2 w) := by
  have U := uintR_any g l 0 w h hl
  clear h
  have e1 : most.toNat = 0 := by omega
  have T : textS l most = if (uintS l 0).2.2 ≠ 0 then ([], [], (uintS l 0).2.2) else ([], [], 4) := by unfold textS; rw [e1, if_pos hm]
  have z1 := uintS_le l 0
  have z2 := uintS_dead (l := l) (most := 0)
  rw [T]
  clear T e1
  generalize uintS l 0 = r at *
  obtain ⟨x, l', e⟩ := r
  simp only at z1 z2 U
  obtain rfl : x = 0 := by omega
  have UU := Lib.hid U
  clear U z1
  by_cases he : e = 0
  · subst he
    rw [if_neg (by simp)]
    clear z2
    go_enter Try.func20, Try.ntmps20
    go_wp2_with fail
    refine UU.out.mono ?_
    rintro en w1 ⟨rfl, hr, hg⟩
    have F := Lib.hid (fail_live g l' 4 w1 hr (by decide))
    have G := Lib.hid hg
    clear hr hg
    go_wp2_with fail
    refine F.out.mono ?_
    rintro en w2 ⟨rfl, hr, hg⟩
    have L := Lib.hid (left_live g [] 4 w2 hr)
    have E := Lib.hid (err_live g [] 4 w2 hr)
    have R := Lib.hid hr
    have G2 := Lib.hid (grown_trans G.out hg)
    clear hr hg
    go_wp2_with fail
    refine L.out.mono ?_
    rintro en w' ⟨rfl, rfl⟩
    go_wp2_with fail
    refine E.out.mono ?_
    rintro en w' ⟨rfl, rfl⟩
    go_wp2
    go_ret
    exact ⟨rfl, R.out, G2.out⟩
  · rw [if_pos he]
    obtain rfl := (z2 he).2
    have hne : ((e : Nat) : Int) ≠ 0 := by omega
    have HE := Lib.hid hne
    have n0 : ((e : Int) != 0) = true := bne_iff_ne.2 hne
    clear z2 hne he
    go_enter Try.func20, Try.ntmps20
    go_wp2_with fail
    refine UU.out.mono ?_
    rintro en w1 ⟨rfl, hr, hg⟩
    have F := Lib.hid (fail_dead _ e 4 w1 (hr.dead HE.out))
    have L := Lib.hid (left_live g [] e w1 hr)
    have E := Lib.hid (err_live g [] e w1 hr)
    have R := Lib.hid hr
    have G := Lib.hid hg
    clear hr hg
    go_wp2_with fail
    refine F.out.mono ?_
    rintro en w' ⟨rfl, rfl⟩
    go_wp2_with fail
    refine L.out.mono ?_
    rintro en w' ⟨rfl, rfl⟩
    go_wp2_with fail
    refine E.out.mono ?_
    rintro en w' ⟨rfl, rfl⟩
    go_wp2
    go_ret
    exact ⟨rfl, R.out, G.out⟩
set_option maxRecDepth 100000 in
set_option maxHeartbeats 1000000 in
theorem textR_pos (g : Nat) (l : List UInt8) (m : Nat) (w : World) (hm1 : m ≤ 9223372036854775807) (h : RP w g l 0) (hl : l.length ≤ 1000000) :
    Calls Try.prog 20 #[.pointer (some ⟨g, 0, none⟩), .int .i64 m] w (Rd (.string (str (textS l m).1)) g (textS l m).2.1 (textS l m).2.2 w) := by
  have U := uintR_any g l m w h hl
  clear h
  have T : textS l m = if (uintS l m).2.2 ≠ 0 then ([], [], (uintS l m).2.2) else if (uintS l m).2.1.length < (uintS l m).1 then ([], [], 1)
      else ((uintS l m).2.1.take (uintS l m).1, (uintS l m).2.1.drop (uintS l m).1, 0) := by unfold textS; rw [Int.toNat_natCast, if_neg (show ¬ (m : Int) < 0 by omega)]
  have z1 := uintS_lt l m
  have z2 := uintS_dead (l := l) (most := m)
  have z3 := uintS_len l m
  rw [T]
  clear T
  generalize uintS l m = r at *
  obtain ⟨x, l', e⟩ := r
  simp only at z1 z2 z3 U ⊢
  have UU := Lib.hid U
  clear U
  by_cases he : e = 0
  · subst he
    rw [if_neg (by simp)]
    clear z2
    by_cases hlt : l'.length < x
    · rw [if_pos hlt]
      go_enter Try.func20, Try.ntmps20
      go_wp2_with fail
      refine UU.out.mono ?_
      rintro en w1 ⟨rfl, hr, hg⟩
      have L := Lib.hid (left_live g l' 0 w1 hr)
      have F := Lib.hid (fail_live g l' 1 w1 hr (by decide))
      have G := Lib.hid hg
      clear hr hg
      go_wp2_with fail
      refine L.out.mono ?_
      rintro en w' ⟨rfl, rfl⟩
      go_wp2_with fail
      refine F.out.mono ?_
      rintro en w2 ⟨rfl, hr, hg⟩
      have E := Lib.hid (err_live g [] 1 w2 hr)
      have R := Lib.hid hr
      have G2 := Lib.hid (grown_trans G.out hg)
      clear hr hg
      go_wp2_with fail
      refine E.out.mono ?_
      rintro en w' ⟨rfl, rfl⟩
      go_wp2
      go_ret
      exact ⟨rfl, R.out, G2.out⟩
    · rw [if_neg hlt]
      have e1 := Lib.hid (str_take l' x)
      go_enter Try.func20, Try.ntmps20
      go_wp2_with fail
      refine UU.out.mono ?_
      rintro en w1 ⟨rfl, hr, hg⟩
      have L := Lib.hid (left_live g l' 0 w1 hr)
      have E := Lib.hid (err_live g l' 0 w1 hr)
      have T := Lib.hid (hr.rest (str_drop l' x))
      obtain ⟨h0, h1, h2, h3⟩ := hr.facts
      have hz : x ≤ (str l').size := by rw [str_size]; omega
      have hz2 : (str l').size ≤ 1000000 := by rw [str_size]; omega
      have G := Lib.hid hg
      clear hr hg
      go_wp2_with fail
      refine L.out.mono ?_
      rintro en w' ⟨rfl, rfl⟩
      go_wp2_with fail
      refine E.out.mono ?_
      rintro en w' ⟨rfl, rfl⟩
      generalize str l' = s at *
      go_wp2
      go_ret
      exact ⟨ret_s e1.out, T.out, grown_trans G.out (grown_set _ _ _ _)⟩
  · rw [if_pos he]
    obtain ⟨rfl, rfl⟩ := z2 he
    have hne : ((e : Nat) : Int) ≠ 0 := by omega
    have HE := Lib.hid hne
    have n0 : ((e : Int) != 0) = true := bne_iff_ne.2 hne
    clear z2 hne he
    go_enter Try.func20, Try.ntmps20
    go_wp2_with fail
    refine UU.out.mono ?_
    rintro en w1 ⟨rfl, hr, hg⟩
    have L := Lib.hid (left_live g [] e w1 hr)
    have E := Lib.hid (err_live g [] e w1 hr)
    have R := Lib.hid hr
    have G := Lib.hid hg
    clear hr hg
    go_wp2_with fail
    refine L.out.mono ?_
    rintro en w' ⟨rfl, rfl⟩
    go_wp2_with fail
    refine E.out.mono ?_
    rintro en w' ⟨rfl, rfl⟩
    go_wp2
    go_ret
    exact ⟨rfl, R.out, G.out⟩
theorem textR_any (g : Nat) (l : List UInt8) (most : Int) (w : World) (hm0 : -9223372036854775808 ≤ most) (hm1 : most ≤ 9223372036854775807) (h : RP w g l 0) (hl : l.length ≤ 1000000) :
    Calls Try.prog 20 #[.pointer (some ⟨g, 0, none⟩), .int .i64 most] w (Rd (.string (str (textS l most).1)) g (textS l most).2.1 (textS l most).2.2 w) := by
  by_cases hm : most < 0
  · exact textR_neg g l most w hm0 hm h hl
  · obtain ⟨m, rfl⟩ := Int.eq_ofNat_of_zero_le (show 0 ≤ most by omega)
    exact textR_pos g l m w (by omega) h hl
end Go.Proofs.Ytebfnbnaheolgaa
