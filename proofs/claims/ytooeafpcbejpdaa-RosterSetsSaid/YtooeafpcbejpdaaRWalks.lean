/- The walks of RosterChecks, RosterFinds and RosterSets: no claim of its own. -/
import Derived.Test.YtooeafpcbejpdaaRAwake
import Derived.Test.YtooeafpcbejpdaaRFew
namespace Go.Proofs.Ytooeafpcbejpdaa
open Go.RowKit
open MR (Bd)
set_option maxRecDepth 100000 in
set_option maxHeartbeats 2000000 in
theorem checks_walk (A : Option Addr) (n c : Nat) (L : List Bd) (w : World) (h : LstIn bdE w A n c L) :
    Calls Try.prog 4 #[.slice A n c] w (Gives (.bool true) w) := by
  have AW := Lib.hid (fun w' => awake_any w')
  have H := Lib.hid h.lst
  clear h
  have FW := Lib.hid (few_any A n c L w H.out)
  go_enter Try.func4, Try.ntmps4
  go_wp2_with fail
  refine FW.out.mono ?_
  rintro e w1 ⟨b, rfl, hb12, hb⟩
  have B1 := Lib.hid hb
  clear hb FW
  cases b with
  | false =>
    go_wp2_with fail
    refine (AW.out _).mono ?_
    rintro e w2 ⟨rfl, hb⟩
    have B2 := Lib.hid (B1.out.trans (hb.mono B1.out.size))
    clear hb
    go_wp2
    go_ret
    exact ⟨rfl, B2.out⟩
  | true =>
    have P1 := Lib.hid (fun w' (hb : Below w.heap.size w w') => check_any A n c L w' (H.out.keep hb))
    have P2 := Lib.hid (fun w' (hb : Below w.heap.size w w') => rcheck_any A n c L w' (H.out.keep hb))
    generalize MR.chkL L = er at *
    have de : (er == er) = true := beq_self_eq_true er
    go_wp2_with fail
    refine (P1.out _ B1.out).mono ?_
    rintro e w2 ⟨rfl, hb⟩
    have B2 := Lib.hid (B1.out.trans (hb.mono B1.out.size))
    clear hb
    go_wp2_with fail
    refine (P2.out _ B2.out).mono ?_
    rintro e w3 ⟨rfl, hb⟩
    have B3 := Lib.hid (B2.out.trans (hb.mono B2.out.size))
    clear hb
    go_wp2_with fail
    refine (AW.out _).mono ?_
    rintro e w4 ⟨rfl, hb⟩
    have B4 := Lib.hid (B3.out.trans (hb.mono B3.out.size))
    clear hb
    go_wp2
    go_ret
    exact ⟨rfl, B4.out⟩
set_option maxRecDepth 100000 in
set_option maxHeartbeats 2000000 in
theorem finds_walk (A : Option Addr) (n c : Nat) (L : List Bd) (s : ByteArray) (cl : Int) (w : World) (h : LstIn bdE w A n c L) (hs : s.size ≤ 9223372036854775807) (_hc : -9223372036854775808 ≤ cl ∧ cl ≤ 9223372036854775807) :
    Calls Try.prog 5 #[.slice A n c, .string s, .int .i64 cl] w (Gives (.bool true) w) := by
  have AW := Lib.hid (fun w' => awake_any w')
  have HL := Lib.hid h.lst.len
  have H := Lib.hid h.lst
  clear h
  have FW := Lib.hid (few_any A n c L w H.out)
  go_enter Try.func5, Try.ntmps5
  go_wp2_with fail
  refine FW.out.mono ?_
  rintro e w1 ⟨b, rfl, hb12, hb⟩
  have B1 := Lib.hid hb
  clear hb FW
  cases b with
  | false =>
    go_wp2_with fail
    refine (AW.out _).mono ?_
    rintro e w2 ⟨rfl, hb⟩
    have B2 := Lib.hid (B1.out.trans (hb.mono B1.out.size))
    clear hb
    go_wp2
    go_ret
    exact ⟨rfl, B2.out⟩
  | true =>
    have h12 : n ≤ 12 := by rw [← HL.out]; exact hb12 rfl
    by_cases h40 : 40 < s.size
    · have d : decide (40 < (s.size : Int)) = true := decide_eq_true (by omega)
      go_wp2_with fail
      refine (AW.out _).mono ?_
      rintro e w2 ⟨rfl, hb⟩
      have B2 := Lib.hid (B1.out.trans (hb.mono B1.out.size))
      clear hb
      go_wp2
      go_ret
      exact ⟨rfl, B2.out⟩
    · have d : decide (40 < (s.size : Int)) = false := decide_eq_false (by omega)
      have P1 := Lib.hid (fun w' (hb : Below w.heap.size w w') => find_any A n c L s.data.toList w' (H.out.keep hb))
      have P2 := Lib.hid (fun w' (hb : Below w.heap.size w w') => rfind_any A n c L s.data.toList w' (H.out.keep hb))
      rw [str_self] at P1 P2
      have P3 := Lib.hid (fun w' (hb : Below w.heap.size w w') => class_any A n c L cl w' (H.out.keep hb) (by omega))
      have P4 := Lib.hid (fun w' (hb : Below w.heap.size w w') => rclass_any A n c L cl w' (H.out.keep hb) (by omega))
      generalize MR.classK L cl n = xs at *
      obtain ⟨kv, bv, hkv⟩ : ∃ (kv : Int) (bv : Bool), fndV (MR.findL L s.data.toList) = .tuple #[.int .i64 kv, .bool bv] := by
        cases MR.findL L s.data.toList with
        | none => exact ⟨0, false, rfl⟩
        | some k => exact ⟨(k : Int), true, rfl⟩
      rw [hkv] at P1 P2
      clear hkv
      have de : (kv == kv) = true := beq_self_eq_true kv
      have db : (bv == bv) = true := beq_self_eq_true bv
      go_wp2_with fail
      refine (P1.out _ B1.out).mono ?_
      rintro e w2 ⟨rfl, hb⟩
      have B2 := Lib.hid (B1.out.trans (hb.mono B1.out.size))
      clear hb
      go_wp2_with fail
      refine (P2.out _ B2.out).mono ?_
      rintro e w3 ⟨rfl, hb⟩
      have B3 := Lib.hid (B2.out.trans (hb.mono B2.out.size))
      clear hb
      go_wp2_with fail
      refine (P3.out _ B3.out).mono ?_
      rintro e w4 ⟨U, nu, cu, rfl, hu, hb⟩
      have B4 := Lib.hid (B3.out.trans (hb.mono B3.out.size))
      have U4 := Lib.hid hu
      clear hb hu
      go_wp2_with fail
      refine (P4.out _ B4.out).mono ?_
      rintro e w5 ⟨U', nu', cu', rfl, hu, hb⟩
      have B5 := Lib.hid (B4.out.trans (hb.mono B4.out.size))
      have P5 := Lib.hid (sameInts_yes U U' nu cu nu' cu' xs w5 (U4.out.keep hb) hu)
      clear hb hu
      go_wp2_with fail
      refine P5.out.mono ?_
      rintro e w6 ⟨rfl, hb⟩
      have B6 := Lib.hid (B5.out.trans (hb.mono B5.out.size))
      clear hb
      go_wp2_with fail
      refine (AW.out _).mono ?_
      rintro e w7 ⟨rfl, hb⟩
      have B7 := Lib.hid (B6.out.trans (hb.mono B6.out.size))
      clear hb
      go_wp2
      go_ret
      exact ⟨rfl, B7.out⟩
set_option maxRecDepth 100000 in
set_option maxHeartbeats 2000000 in
theorem sets_walk (n most : Int) (w : World) (_hn : -9223372036854775808 ≤ n ∧ n ≤ 9223372036854775807) (_hm : -9223372036854775808 ≤ most ∧ most ≤ 9223372036854775807) :
    Calls Try.prog 3 #[.int .i64 n, .int .i64 most] w (Gives (.bool true) w) := by
  have AW := Lib.hid (fun w' => awake_any w')
  obtain ⟨M, hM, hxs⟩ := MR.setsL_P n
  have hlen : (MR.setsL n).length ≤ 256 := by rw [hxs, MR.setsP_len]; exact hM
  have P1 := Lib.hid (fun w' => lsets_any n 300 w')
  rw [show (MR.setsL n).take (300 : Int).toNat = MR.setsL n from List.take_of_length_le (by show (MR.setsL n).length ≤ 300; omega)] at P1
  have P2 := Lib.hid (fun w' => rsets_any n w')
  have P3 := Lib.hid (fun w' => lsets_any n most w')
  generalize MR.setsL n = xs at *
  clear hxs
  go_enter Try.func3, Try.ntmps3
  go_wp2_with fail
  refine (P1.out _).mono ?_
  rintro e w1 ⟨U, nu, cu, rfl, hu, hb⟩
  have B1 := Lib.hid hb
  have U1 := Lib.hid hu
  clear hb hu
  go_wp2_with fail
  refine (P2.out _).mono ?_
  rintro e w2 ⟨U', nu', cu', rfl, hu, hb⟩
  have B2 := Lib.hid (B1.out.trans (hb.mono B1.out.size))
  have U2 := Lib.hid (U1.out.keep hb)
  have P4 := Lib.hid (sameInts_yes U U' nu cu nu' cu' xs w2 (U1.out.keep hb) hu)
  clear hb hu
  go_wp2_with fail
  refine P4.out.mono ?_
  rintro e w3 ⟨rfl, hb⟩
  have B3 := Lib.hid (B2.out.trans (hb.mono B2.out.size))
  have U3 := Lib.hid (U2.out.keep hb)
  clear hb
  obtain rfl : xs.length = nu := U3.out.len
  have hcu := U3.out.cap
  by_cases h1 : most < 1
  · have d1 : decide (most < 1) = true := decide_eq_true h1
    go_wp2_with fail
    refine (AW.out _).mono ?_
    rintro e w4 ⟨rfl, hb⟩
    have B4 := Lib.hid (B3.out.trans (hb.mono B3.out.size))
    clear hb
    go_wp2
    go_ret
    exact ⟨rfl, B4.out⟩
  · have d1 : decide (most < 1) = false := decide_eq_false h1
    by_cases h2 : (xs.length : Int) ≤ most
    · have d2 : decide ((xs.length : Int) ≤ most) = true := decide_eq_true h2
      go_wp2_with fail
      refine (AW.out _).mono ?_
      rintro e w4 ⟨rfl, hb⟩
      have B4 := Lib.hid (B3.out.trans (hb.mono B3.out.size))
      clear hb
      go_wp2
      go_ret
      exact ⟨rfl, B4.out⟩
    · have d2 : decide ((xs.length : Int) ≤ most) = false := decide_eq_false h2
      obtain ⟨K, rfl⟩ := Int.eq_ofNat_of_zero_le (show 0 ≤ most by omega)
      have hK : K ≤ xs.length := by omega
      have hKc : K ≤ cu := by omega
      have hKc' : (K : Int) ≤ (cu : Int) := by omega
      rw [Int.toNat_natCast] at P3
      go_wp2_with fail
      refine (P3.out _).mono ?_
      rintro e w4 ⟨T, nt, ct, rfl, ht, hb⟩
      have B4 := Lib.hid (B3.out.trans (hb.mono B3.out.size))
      have P5 := Lib.hid (sameInts_yes T U nt ct K cu (xs.take K) w4 ht ((U3.out.keep hb).take hK))
      clear hb ht
      go_wp2_with fail
      refine P5.out.mono ?_
      rintro e w5 ⟨rfl, hb⟩
      have B5 := Lib.hid (B4.out.trans (hb.mono B4.out.size))
      clear hb
      go_wp2_with fail
      refine (AW.out _).mono ?_
      rintro e w6 ⟨rfl, hb⟩
      have B6 := Lib.hid (B5.out.trans (hb.mono B5.out.size))
      clear hb
      go_wp2
      go_ret
      exact ⟨rfl, B6.out⟩
end Go.Proofs.Ytooeafpcbejpdaa
