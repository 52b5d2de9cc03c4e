/- The reference's reader: Int, Text, digits, Fraction. No claim of its own. -/
import Derived.Test.YtebfnbnaheolgaaWRefRead
namespace Go.Proofs.Ytebfnbnaheolgaa
open Go.RowKit
/-- Uint on a reader with an error or without. -/
def uintS2 (l : List UInt8) (e : Nat) (most : Nat) : Nat × List UInt8 × Nat := if e ≠ 0 then (0, l, e) else uintS l most
/-- Int of the reference. -/
theorem half_pos (x : Nat) (hx : x < 18446744073709551616) (h : x % 2 = 0) : IntKind.i64.wrap ((x : Int) / 2) = unfoldI x := by
  unfold unfoldI; rw [if_pos h, IntWalk.i64_in] <;> omega
set_option maxRecDepth 100000 in
set_option maxHeartbeats 1000000 in
theorem rintR_any (g : Nat) (l : List UInt8) (w : World) (h : RR w g l 0) (hl : l.length ≤ 1000000) :
    Calls Try.prog 47 #[.pointer (some ⟨g, 0, none⟩)] w (Rr (.int .i64 (unfoldI (uintS l 18446744073709551615).1)) g (uintS l 18446744073709551615).2.1 (uintS l 18446744073709551615).2.2 w) := by
  have U := Lib.hid (ruintR_any g l 18446744073709551615 w h hl)
  have ul := uintS_lt l 18446744073709551615
  clear h hl
  generalize uintS l 18446744073709551615 = r at *
  obtain ⟨x, l1, e1⟩ := r
  simp only at U ul
  rcases Nat.mod_two_eq_zero_or_one x with h2 | h2
  · have hm : (x : Int) % 2 = 0 := by omega
    have F := Lib.hid (show ((x : Int) / 2) = unfoldI x by unfold unfoldI; rw [if_pos h2]; omega)
    clear h2
    go_enter Try.func47, Try.ntmps47
    go_wp2_with fail
    refine U.out.mono ?_
    rintro en w1 ⟨rfl, hr, hG⟩
    have R := Lib.hid hr
    have G := Lib.hid hG
    clear hr hG
    go_wp2
    go_ret
    exact ⟨ret_i F.out, R.out, G.out⟩
  · have hm : (x : Int) % 2 = 1 := by omega
    have F := Lib.hid (show (-((x : Int) / 2) - 1) = unfoldI x by unfold unfoldI; rw [if_neg (by omega)]; omega)
    clear h2
    go_enter Try.func47, Try.ntmps47
    go_wp2_with fail
    refine U.out.mono ?_
    rintro en w1 ⟨rfl, hr, hG⟩
    have R := Lib.hid hr
    have G := Lib.hid hG
    clear hr hG
    go_wp2
    go_ret
    exact ⟨ret_i F.out, R.out, G.out⟩
set_option maxRecDepth 100000 in
theorem rintR_dead (g : Nat) (l : List UInt8) (e : Int) (w : World) (h : RR w g l e) (he : e ≠ 0) :
    Calls Try.prog 47 #[.pointer (some ⟨g, 0, none⟩)] w fun en w' => en = .returned (.int .i64 0) ∧ w = w' := by
  have U := Lib.hid (ruintR_dead g l e 18446744073709551615 w h he)
  clear h he
  go_enter Try.func47, Try.ntmps47
  go_wp2_with fail
  refine U.out.mono ?_
  rintro en w' ⟨rfl, rfl⟩
  go_wp2
  go_ret
  exact ⟨rfl, rfl⟩
/-- Text, said over the number that Uint reads with no limit. -/
theorem textS_max (l : List UInt8) (most : Int) (hm : most ≤ 9223372036854775807) {n : Nat} {l1 : List UInt8} {e1 : Nat} (h : uintS l 18446744073709551615 = (n, l1, e1)) :
    textS l most = if e1 ≠ 0 then ([], [], e1) else if most < 0 ∨ most < (n : Int) then ([], [], 4) else if l1.length < n then ([], [], 1) else (l1.take n, l1.drop n, 0) := by
  obtain ⟨v, k, e, hd⟩ : ∃ v k e, decGo l 0 0 = (v, k, e) := ⟨_, _, _, rfl⟩
  have hv := decGo_lt l 0 0 (by decide) (by decide)
  rw [hd] at hv
  by_cases he : e = 0
  · subst he
    rw [uintS_ok hd (by simp only at hv; omega)] at h
    simp only [Prod.mk.injEq] at h
    obtain ⟨rfl, rfl, rfl⟩ := h
    rw [if_neg (fun h => h rfl)]
    unfold textS
    by_cases h1 : most.toNat < v
    · rw [uintS_most hd h1, if_pos (by decide), if_pos (by omega)]
    · rw [uintS_ok hd (by omega), if_neg (fun h => h rfl)]
      by_cases h2 : most < 0
      · rw [if_pos h2, if_pos (.inl h2)]
      · rw [if_neg h2, if_neg (show ¬ (most < 0 ∨ most < (v : Int)) by omega)]
  · rw [uintS_err hd he] at h
    simp only [Prod.mk.injEq] at h
    obtain ⟨rfl, rfl, rfl⟩ := h
    rw [if_pos he]
    unfold textS
    rw [uintS_err hd he, if_pos he]
set_option maxRecDepth 100000 in
set_option maxHeartbeats 2000000 in
theorem rtextR_any (g : Nat) (l : List UInt8) (most : Int) (w : World) (hm0 : -9223372036854775808 ≤ most) (hm1 : most ≤ 9223372036854775807) (h : RR w g l 0) (hl : l.length ≤ 1000000) :
    Calls Try.prog 48 #[.pointer (some ⟨g, 0, none⟩), .int .i64 most] w (Rr (.string (str (textS l most).1)) g (textS l most).2.1 (textS l most).2.2 w) := by
  have U := ruintR_any g l 18446744073709551615 w h hl
  obtain ⟨n, l1, e1, hu⟩ : ∃ n l1 e1, uintS l 18446744073709551615 = (n, l1, e1) := ⟨_, _, _, rfl⟩
  have ul := uintS_lt l 18446744073709551615
  have uz := uintS_len l 18446744073709551615
  have ud := uintS_dead (l := l) (most := 18446744073709551615)
  rw [textS_max l most hm1 hu]
  rw [hu] at U ul uz ud
  clear h hu
  simp only at U ul uz ud
  have UU := Lib.hid U
  clear U
  by_cases he : e1 = 0
  · subst he
    rw [if_neg (fun h => h rfl)]
    by_cases h4 : most < 0 ∨ most < (n : Int)
    · rw [if_pos h4]
      by_cases hneg : most < 0
      · clear h4 ud
        go_enter Try.func48, Try.ntmps48
        go_wp2_with fail
        refine UU.out.mono ?_
        rintro en w1 ⟨rfl, hr, hG⟩
        obtain ⟨s, hs, hz, q0, q1, q2, q3⟩ := hr.facts
        have K := Lib.hid (hr.err (k := 4) (by decide))
        have G := Lib.hid hG
        clear hr hG hs
        go_wp2
        go_ret
        exact ⟨rfl, K.out, grown_trans G.out (grown_set _ _ _ _)⟩
      · obtain ⟨m, rfl⟩ := Int.eq_ofNat_of_zero_le (show 0 ≤ most by omega)
        have hmn : m < n := by omega
        clear h4 ud
        go_enter Try.func48, Try.ntmps48
        go_wp2_with fail
        refine UU.out.mono ?_
        rintro en w1 ⟨rfl, hr, hG⟩
        obtain ⟨s, hs, hz, q0, q1, q2, q3⟩ := hr.facts
        have K := Lib.hid (hr.err (k := 4) (by decide))
        have G := Lib.hid hG
        clear hr hG hs
        go_wp2
        go_ret
        exact ⟨rfl, K.out, grown_trans G.out (grown_set _ _ _ _)⟩
    · rw [if_neg h4]
      obtain ⟨m, rfl⟩ := Int.eq_ofNat_of_zero_le (show 0 ≤ most by omega)
      have hmn : ¬ m < n := by omega
      clear h4 ud
      by_cases hlt : l1.length < n
      · rw [if_pos hlt]
        go_enter Try.func48, Try.ntmps48
        go_wp2_with fail
        refine UU.out.mono ?_
        rintro en w1 ⟨rfl, hr, hG⟩
        obtain ⟨s, hs, hz, q0, q1, q2, q3⟩ := hr.facts
        have hsz : s.size < n := by rw [hs rfl, str_size]; exact hlt
        have K := Lib.hid (hr.err (k := 1) (by decide))
        have G := Lib.hid hG
        clear hr hG hs
        go_wp2
        go_ret
        exact ⟨rfl, K.out, grown_trans G.out (grown_set _ _ _ _)⟩
      · rw [if_neg hlt]
        go_enter Try.func48, Try.ntmps48
        go_wp2_with fail
        refine UU.out.mono ?_
        rintro en w1 ⟨rfl, hr, hG⟩
        obtain ⟨s, hs, hz, q0, q1, q2, q3⟩ := hr.facts
        have hs1 := hs rfl
        have hsz : ¬ s.size < n := by rw [hs1, str_size]; exact hlt
        have hle : n ≤ s.size := by omega
        have T1 : Hid (s.extract 0 n = str (l1.take n)) := Lib.hid (by rw [hs1]; exact str_take l1 n)
        have K := Lib.hid (hr.rest (s := s.extract n s.size) (l' := l1.drop n) (by rw [hs1]; exact str_drop l1 n) (by simp; omega))
        have G := Lib.hid hG
        clear hr hG hs hs1
        go_wp2
        go_ret
        exact ⟨ret_s T1.out, K.out, grown_trans G.out (grown_set _ _ _ _)⟩
  · rw [if_pos he]
    have n0 : ((e1 : Int) != 0) = true := bne_iff_ne.2 (by omega)
    obtain ⟨rfl, rfl⟩ := ud he
    clear he ud
    go_enter Try.func48, Try.ntmps48
    go_wp2_with fail
    refine UU.out.mono ?_
    rintro en w1 ⟨rfl, hr, hG⟩
    obtain ⟨s, hs, hz, q0, q1, q2, q3⟩ := hr.facts
    have K := Lib.hid hr
    have G := Lib.hid hG
    clear hr hG hs
    go_wp2
    go_ret
    exact ⟨rfl, K.out, G.out⟩
set_option maxRecDepth 100000 in
theorem rtextR_dead (g : Nat) (l : List UInt8) (e most : Int) (w : World) (h : RR w g l e) (he : e ≠ 0) :
    Calls Try.prog 48 #[.pointer (some ⟨g, 0, none⟩), .int .i64 most] w fun en w' => en = .returned (.string ⟨#[]⟩) ∧ w = w' := by
  have U := Lib.hid (ruintR_dead g l e 18446744073709551615 w h he)
  obtain ⟨s, hs, hz, q0, q1, q2, q3⟩ := h.facts
  have n0 : (e != 0) = true := bne_iff_ne.2 he
  clear h he hs
  go_enter Try.func48, Try.ntmps48
  go_wp2_with fail
  refine U.out.mono ?_
  rintro en w' ⟨rfl, rfl⟩
  go_wp2
  go_ret
  exact ⟨rfl, rfl⟩
end Go.Proofs.Ytebfnbnaheolgaa
