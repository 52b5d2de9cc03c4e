/- The walks of RosterNames and RosterBack: no claim of its own. -/
import Derived.Test.YtooeafpcbejpdaaRAwake
import Derived.Test.YtooeafpcbejpdaaRFew
namespace Go.Proofs.Ytooeafpcbejpdaa
open Go.RowKit
open MR (Bd)
set_option maxRecDepth 100000 in
set_option maxHeartbeats 2000000 in
theorem names_walk (A : Option Addr) (n c : Nat) (L : List Bd) (m : Int) (B : Option Addr) (q d : Nat) (ns : List (List UInt8)) (w : World) (h : LstIn bdE w A n c L) (hm : -9223372036854775808 ≤ m ∧ m ≤ 9223372036854775807) (h' : LstIn strE w B q d ns) :
    Calls Try.prog 6 #[.slice A n c, .int .i64 m, .slice B q d] w (Gives (.bool true) w) := by
  have AW := Lib.hid (fun w' => awake_any w')
  have H := Lib.hid h.lst
  have H' := Lib.hid h'.lst
  clear h h'
  have FW := Lib.hid (few_any A n c L w H.out)
  have hq := H'.out.few
  have hd := H'.out.cap
  go_enter Try.func6, Try.ntmps6
  go_wp2_with fail
  refine FW.out.mono ?_
  rintro e w1 ⟨b, rfl, hb12, hb⟩
  have B1 := Lib.hid hb
  clear hb FW
  cases b with
  | false =>
    go_wp2_with fail
    refine (AW.out _).mono ?_
    rintro e w2 ⟨rfl, hb⟩
    have B2 := Lib.hid (B1.out.trans (hb.mono B1.out.size))
    clear hb
    go_wp2
    go_ret
    exact ⟨rfl, B2.out⟩
  | true =>
    by_cases h12 : 12 < q
    · have d : decide (12 < (q : Int)) = true := decide_eq_true (by omega)
      go_wp2_with fail
      refine (AW.out _).mono ?_
      rintro e w2 ⟨rfl, hb⟩
      have B2 := Lib.hid (B1.out.trans (hb.mono B1.out.size))
      clear hb
      go_wp2
      go_ret
      exact ⟨rfl, B2.out⟩
    · have d12 : decide (12 < (q : Int)) = false := decide_eq_false (by omega)
      have H1' := Lib.hid (H'.out.keep B1.out)
      go_wp2
      go_loopw [7] (fun i wr => (∃ k : Nat, k ≤ q ∧ i = .int .i64 k) ∧ wr = w1) (fun i _ => q - (intOf i).toNat)
      case atStart => exact ⟨⟨0, Nat.zero_le _, rfl⟩, rfl⟩
      case round =>
        obtain ⟨⟨k, hk, rfl⟩, rfl⟩ := hrel
        by_cases hlt : k < q
        · obtain ⟨ad, x, rfl, e1, hx, hbk, hcell⟩ := str_at H1'.out hlt
          have hz := str_size x
          clear e1 hbk
          generalize str x = s at *
          rw [← hz] at hx
          clear hz
          by_cases h40 : 40 < s.size
          · have dd : decide (40 < (s.size : Int)) = true := decide_eq_true (by omega)
            go_wp2_with fail
            refine (AW.out _).mono ?_
            rintro e w2 ⟨rfl, hb⟩
            have B2 := Lib.hid (B1.out.trans (hb.mono B1.out.size))
            clear hb
            go_wp2
            go_ret
            exact ⟨rfl, B2.out⟩
          · have dd : decide (40 < (s.size : Int)) = false := decide_eq_false (by omega)
            go_wp2
            go_roundw
            case rel => exact ⟨⟨k + 1, by omega, by go_num⟩, by trivial⟩
            case measure => simp [intOf]; omega
        · have P1 := Lib.hid (fun w' (hb : Below w.heap.size w w') => members_any A n c L B q d ns w' (H.out.keep hb) (H'.out.keep hb))
          have P2 := Lib.hid (fun w' (hb : Below w.heap.size w w') => rmembers_any A n c L B q d ns w' (H.out.keep hb) (H'.out.keep hb))
          have P3 := Lib.hid (fun w' (hb : Below w.heap.size w w') => names_any A n c L m w' (H.out.keep hb))
          have P4 := Lib.hid (fun w' (hb : Below w.heap.size w w') => rnames_any A n c L m w' (H.out.keep hb) hm)
          obtain ⟨r1, r2, hr⟩ : ∃ r1 r2 : Int, mbV (MR.membersL L ns) = .tuple #[.int .i64 r1, .int .i64 r2] := ⟨_, _, rfl⟩
          rw [hr] at P1 P2
          clear hr
          generalize MR.namesL L m = xs at *
          have de : (r1 == r1) = true := beq_self_eq_true r1
          have db : (r2 == r2) = true := beq_self_eq_true r2
          go_wp2_with fail
          refine (P1.out _ B1.out).mono ?_
          rintro e w2 ⟨rfl, hb⟩
          have B2 := Lib.hid (B1.out.trans (hb.mono B1.out.size))
          clear hb
          go_wp2_with fail
          refine (P2.out _ B2.out).mono ?_
          rintro e w3 ⟨rfl, hb⟩
          have B3 := Lib.hid (B2.out.trans (hb.mono B2.out.size))
          clear hb
          go_wp2_with fail
          refine (P3.out _ B3.out).mono ?_
          rintro e w4 ⟨U, nu, cu, rfl, hu, hb⟩
          have B4 := Lib.hid (B3.out.trans (hb.mono B3.out.size))
          have U4 := Lib.hid hu
          clear hb hu
          go_wp2_with fail
          refine (P4.out _ B4.out).mono ?_
          rintro e w5 ⟨U', nu', cu', rfl, hu, hb⟩
          have B5 := Lib.hid (B4.out.trans (hb.mono B4.out.size))
          have P5 := Lib.hid (sameTexts_yes U U' nu cu nu' cu' xs w5 (U4.out.keep hb) hu)
          clear hb hu
          go_wp2_with fail
          refine P5.out.mono ?_
          rintro e w6 ⟨rfl, hb⟩
          have B6 := Lib.hid (B5.out.trans (hb.mono B5.out.size))
          clear hb
          go_wp2_with fail
          refine (AW.out _).mono ?_
          rintro e w7 ⟨rfl, hb⟩
          have B7 := Lib.hid (B6.out.trans (hb.mono B6.out.size))
          clear hb
          go_wp2
          go_ret
          exact ⟨rfl, B7.out⟩
set_option maxRecDepth 100000 in
set_option maxHeartbeats 2000000 in
theorem back_walk (A : Option Addr) (n c : Nat) (L : List Bd) (m : Int) (w : World) (h : LstIn bdE w A n c L) (_hm : -9223372036854775808 ≤ m ∧ m ≤ 9223372036854775807) :
    Calls Try.prog 7 #[.slice A n c, .int .i64 m] w (Gives (.bool true) w) := by
  have AW := Lib.hid (fun w' => awake_any w')
  have H := Lib.hid h.lst
  have HL := Lib.hid h.lst.len
  clear h
  have FW := Lib.hid (few_any A n c L w H.out)
  have hn := H.out.few
  go_enter Try.func7, Try.ntmps7
  go_wp2_with fail
  refine FW.out.mono ?_
  rintro e w1 ⟨b, rfl, hb12, hb⟩
  have B1 := Lib.hid hb
  clear hb FW
  cases b with
  | false =>
    go_wp2_with fail
    refine (AW.out _).mono ?_
    rintro e w2 ⟨rfl, hb⟩
    have B2 := Lib.hid (B1.out.trans (hb.mono B1.out.size))
    clear hb
    go_wp2
    go_ret
    exact ⟨rfl, B2.out⟩
  | true =>
    have P1 := Lib.hid (fun w' (hb : Below w.heap.size w w') => rcheck_any A n c L w' (H.out.keep hb))
    by_cases hg : MR.chkL L = 0
    · have GD := Lib.hid (MR.chk_good hg)
      have h8 : n ≤ 8 := by rw [← HL.out]; exact GD.out.few
      have BT := Lib.hid (fun w' => bit_any n (by omega) w')
      rw [hg] at P1
      clear hg
      by_cases h0 : m < 0
      · have d0 : decide (m < 0) = true := decide_eq_true h0
        go_wp2_with fail
        refine (P1.out _ B1.out).mono ?_
        rintro e w2 ⟨rfl, hb⟩
        have B2 := Lib.hid (B1.out.trans (hb.mono B1.out.size))
        clear hb
        go_wp2_with fail
        refine (AW.out _).mono ?_
        rintro e w3 ⟨rfl, hb⟩
        have B3 := Lib.hid (B2.out.trans (hb.mono B2.out.size))
        clear hb
        go_wp2
        go_ret
        exact ⟨rfl, B3.out⟩
      · have d0 : decide (m < 0) = false := decide_eq_false h0
        by_cases h1 : ((2 ^ n : Nat) : Int) ≤ m
        · generalize ((2 ^ n : Nat) : Int) = p2 at *
          have d1 : decide (p2 ≤ m) = true := decide_eq_true h1
          go_wp2_with fail
          refine (P1.out _ B1.out).mono ?_
          rintro e w2 ⟨rfl, hb⟩
          have B2 := Lib.hid (B1.out.trans (hb.mono B1.out.size))
          clear hb
          go_wp2_with fail
          refine (BT.out _).mono ?_
          rintro e w3 ⟨rfl, hb⟩
          have B3 := Lib.hid (B2.out.trans (hb.mono B2.out.size))
          clear hb
          go_wp2_with fail
          refine (AW.out _).mono ?_
          rintro e w4 ⟨rfl, hb⟩
          have B4 := Lib.hid (B3.out.trans (hb.mono B3.out.size))
          clear hb
          go_wp2
          go_ret
          exact ⟨rfl, B4.out⟩
        · have BK := Lib.hid (MR.back (m := m) GD.out (by omega) (by rw [HL.out]; omega))
          generalize ((2 ^ n : Nat) : Int) = p2 at *
          have d1 : decide (p2 ≤ m) = false := decide_eq_false h1
          have P3 := Lib.hid (fun w' (hb : Below w.heap.size w w') => names_any A n c L m w' (H.out.keep hb))
          obtain ⟨xs, hxs⟩ : ∃ xs, MR.namesL L m = xs := ⟨_, rfl⟩
          rw [hxs] at P3 BK
          clear hxs
          have P4 := Lib.hid (fun B q d w' (hb : Below w.heap.size w w') (h' : Lst strE w' B q d xs) => members_any A n c L B q d xs w' (H.out.keep hb) h')
          rw [BK.out] at P4
          have P5 : Hid (∀ B q d w', Below w.heap.size w w' → Lst strE w' B q d xs → Calls Try.prog 19 #[.slice A n c, .slice B q d] w' (Gives (.tuple #[.int .i64 m, .int .i64 0]) w')) := P4
          clear P4 BK
          have de : (m == m) = true := beq_self_eq_true m
          go_wp2_with fail
          refine (P1.out _ B1.out).mono ?_
          rintro e w2 ⟨rfl, hb⟩
          have B2 := Lib.hid (B1.out.trans (hb.mono B1.out.size))
          clear hb
          go_wp2_with fail
          refine (BT.out _).mono ?_
          rintro e w3 ⟨rfl, hb⟩
          have B3 := Lib.hid (B2.out.trans (hb.mono B2.out.size))
          clear hb
          go_wp2_with fail
          refine (P3.out _ B3.out).mono ?_
          rintro e w4 ⟨U, nu, cu, rfl, hu, hb⟩
          have B4 := Lib.hid (B3.out.trans (hb.mono B3.out.size))
          have U4 := Lib.hid hu
          clear hb hu
          go_wp2_with fail
          refine (P5.out _ _ _ _ B4.out U4.out).mono ?_
          rintro e w5 ⟨rfl, hb⟩
          have B5 := Lib.hid (B4.out.trans (hb.mono B4.out.size))
          clear hb
          go_wp2_with fail
          refine (AW.out _).mono ?_
          rintro e w6 ⟨rfl, hb⟩
          have B6 := Lib.hid (B5.out.trans (hb.mono B5.out.size))
          clear hb
          go_wp2
          go_ret
          exact ⟨rfl, B6.out⟩
    · obtain ⟨er, her⟩ : ∃ er, MR.chkL L = er := ⟨_, rfl⟩
      rw [her] at P1 hg
      clear her
      have de : (er != 0) = true := bne_iff_ne.2 hg
      go_wp2_with fail
      refine (P1.out _ B1.out).mono ?_
      rintro e w2 ⟨rfl, hb⟩
      have B2 := Lib.hid (B1.out.trans (hb.mono B1.out.size))
      clear hb
      go_wp2_with fail
      refine (AW.out _).mono ?_
      rintro e w3 ⟨rfl, hb⟩
      have B3 := Lib.hid (B2.out.trans (hb.mono B2.out.size))
      clear hb
      go_wp2
      go_ret
      exact ⟨rfl, B3.out⟩
end Go.Proofs.Ytooeafpcbejpdaa
