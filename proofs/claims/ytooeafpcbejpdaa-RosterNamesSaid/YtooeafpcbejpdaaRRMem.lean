/- Names and Members of the reference: no claim of its own. -/
import Derived.Test.YtooeafpcbejpdaaRClass
import Derived.Test.YtooeafpcbejpdaaRBits
import Derived.Test.YtooeafpcbejpdaaMathR3
namespace Go.Proofs.Ytooeafpcbejpdaa
open Go.RowKit
open MR (Bd)
def mbV (r : Int × Int) : Value := .tuple #[.int .i64 r.1, .int .i64 r.2]
theorem ret_mb {r : Int × Int} {a b : Int} (h : r = (a, b)) : Ending.returned (.tuple #[.int .i64 a, .int .i64 b]) = .returned (mbV r) := by rw [h]; rfl
theorem add_bit {s : Int} {j : Nat} (h : 0 ≤ s + ((2 ^ j : Nat) : Int) ∧ s + ((2 ^ j : Nat) : Int) ≤ 255) : IntKind.i64.wrap (s + ((2 ^ j : Nat) : Int)) = s + ((2 ^ j : Nat) : Int) := IntWalk.i64_in _ (by omega)
set_option maxRecDepth 100000 in
set_option maxHeartbeats 1000000 in
theorem rnames_any (A : Option Addr) (n c : Nat) (L : List Bd) (m : Int) (w : World) (h : Lst bdE w A n c L) (hm : -9223372036854775808 ≤ m ∧ m ≤ 9223372036854775807) :
    Calls Try.prog 23 #[.slice A n c, .int .i64 m] w (GivesL strE (MR.namesL L m) w) := by
  have hn := h.few
  have hc := h.cap
  have HE : Hid (MR.namesL L m = MR.namesK L m (min n 8)) := Lib.hid (by unfold MR.namesL; rw [h.len])
  rw [HE.out]
  have H := Lib.hid h
  clear h HE
  have HH := Lib.hid (fun i (hi : i ≤ 100) w' => r_has_any m i hm hi w')
  clear hm
  obtain ⟨i0, hi, hz0, hz1, hz2⟩ := info_parts infoStr
  go_enter Try.func23, Try.ntmps23
  go_wp2
  go_loopw [5, 6] (fun v i wr => ∃ k : Nat, (k ≤ n ∧ k ≤ 8) ∧ i = .int .i64 k ∧ Hid (OwnL strE 9 wr w.heap.size v (MR.namesK L m k)) ∧ Hid (Below w.heap.size w wr)) (fun _ i _ => n - (intOf i).toNat)
  case atStart => exact ⟨0, ⟨Nat.zero_le _, Nat.zero_le _⟩, rfl, Lib.hid (OwnL.nil _ _ _), Lib.hid (Below.refl _ _)⟩
  case round =>
    obtain ⟨k, ⟨hk, hk8⟩, rfl, HO, HB⟩ := hrel
    have hcl := MR.namesK_len L m k
    by_cases hlt : k < n ∧ k < 8
    · obtain ⟨hlt, hlt8⟩ := hlt
      obtain ⟨ad, p, rfl, q1, hfi, hbk, x0, x1, x2, x3⟩ := bd_at (H.out.keep HB.out) hlt
      have bridge : ∀ w', Below w.heap.size w w' → w'.cell? (ad.add (k * 4)) = some (.string (str p.name)) := by
        intro w' hb
        obtain ⟨ad1, p1, ha1, q2, _, _, y0, y1, y2, y3⟩ := bd_at (H.out.keep hb) hlt
        injection ha1 with ha1
        subst ha1
        obtain rfl : p = p1 := by rw [q1] at q2; injection q2
        exact y0
      have BR := Lib.hid bridge
      have HHk := Lib.hid (fun w' => HH.out k (by omega) w')
      have d1 : decide ((k : Int) < (n : Int)) = true := decide_eq_true (by omega)
      have d2 : decide ((k : Int) < 8) = true := decide_eq_true (by omega)
      have HF := Lib.hid hfi.1
      clear x0 x1 x2 x3 bridge hbk hfi
      cases hh : MR.has m k with
      | true =>
        have E := Lib.hid (MR.namesK_yes q1 hh)
        rw [hh] at HHk
        clear hh q1
        go_wp2_with fail
        refine (HHk.out _).mono ?_
        rintro e w1 ⟨rfl, hb⟩
        have B1 := Lib.hid (HB.out.trans (hb.mono HB.out.size))
        have O1 := Lib.hid (HO.out.keep hb)
        have y0 := BR.out w1 B1.out
        clear hb HO HB
        generalize hs : str p.name = s at *
        have HS := Lib.hid hs
        clear hs
        have O2 := Lib.hid (O1.out.keep (below_new w1 (.cells #[.string s] 9)))
        have B2 := Lib.hid (B1.out.alloc B1.out.size (.cells #[.string s] 9))
        have HX := Lib.hid (lone (heap_new w1 (.cells #[.string s] 9)))
        have hsz := B1.out.size
        clear B1 O1
        go_wp2_with (at_builtin; refine wpList_append_own _ rfl _ _ 37 rfl w.heap.size 9 i0 (.string ⟨#[]⟩) 1 16 Try.underlying37 hi hz0 hz1 hz2 rfl (by decide) _ _ _ rfl O2.out.1 ⟨w1.heap.size, 0, none⟩ 1 1 [.string s] rfl rfl ?c1 ?c2 ?c3 ?c4 ?c5 ?_)
        case c1 => exact HX.out
        case c2 => intro u hu; rw [List.mem_singleton.1 hu]; rfl
        case c3 => unfold maxLen; omega
        case c4 => omega
        case c5 => simp; omega
        intro v' w2 hown' hgrow _
        have R := OwnL.app (x := p.name) O2.out HF.out B2.out B2.out.size (by rw [← HS.out] at hown'; exact hown') hgrow
        rw [← E.out] at R
        have O3 := Lib.hid R.1
        have B3 := Lib.hid R.2
        clear R hown' hgrow O2 B2 HX E
        go_wp2
        go_roundw
        case rel => exact ⟨k + 1, ⟨by omega, by omega⟩, by go_num, O3, B3⟩
        case measure => simp [intOf]; omega
      | false =>
        rw [hh] at HHk
        rw [← MR.namesK_no (l := L) hh] at HO
        clear hh q1
        go_wp2_with fail
        refine (HHk.out _).mono ?_
        rintro e w1 ⟨rfl, hb⟩
        have B1 := Lib.hid (HB.out.trans (hb.mono HB.out.size))
        have O1 := Lib.hid (HO.out.keep hb)
        clear hb HO HB
        go_wp2
        go_roundw
        case rel => exact ⟨k + 1, ⟨by omega, by omega⟩, by go_num, O1, B1⟩
        case measure => simp [intOf]; omega
    · have hkm : k = min n 8 := by omega
      obtain ⟨A', c', rfl, hl⟩ := HO.out.form (by omega)
      have HL := Lib.hid hl
      have HK := Lib.hid hkm
      clear hl HO hkm
      by_cases hkn : k < n
      · have d1 : decide ((k : Int) < (n : Int)) = true := decide_eq_true (by omega)
        have d2 : decide ((k : Int) < 8) = false := decide_eq_false (by omega)
        go_wp2
        go_ret
        exact ⟨_, _, _, rfl, by rw [← HK.out]; exact HL.out, HB.out⟩
      · have d1 : decide ((k : Int) < (n : Int)) = false := decide_eq_false (by omega)
        go_wp2
        go_ret
        exact ⟨_, _, _, rfl, by rw [← HK.out]; exact HL.out, HB.out⟩
set_option maxRecDepth 100000 in
set_option maxHeartbeats 1000000 in
theorem rmembers_any (A : Option Addr) (n c : Nat) (L : List Bd) (B : Option Addr) (q d : Nat) (ns : List (List UInt8)) (w : World) (h : Lst bdE w A n c L) (h' : Lst strE w B q d ns) :
    Calls Try.prog 20 #[.slice A n c, .slice B q d] w (Gives (mbV (MR.membersL L ns)) w) := by
  have hn := h.few
  have hc := h.cap
  have hq := h'.few
  have hd := h'.cap
  have HL := Lib.hid h.len
  have HN := Lib.hid h'.len
  have H := Lib.hid h
  have H' := Lib.hid h'
  clear h h'
  by_cases h8 : 8 < n
  · have G := Lib.hid (ret_mb (MR.members_long (ns := ns) (L := L) (by rw [HL.out]; exact h8)))
    go_enter Try.func20, Try.ntmps20
    go_wp2
    exact bodyPost_ret (v := .tuple #[.int .i64 0, .int .i64 3]) (by simp [results, Try.results20, go_sem]) rfl ⟨G.out, Below.refl _ _⟩
  have HM := Lib.hid (MR.members_mid (ns := ns) (L := L) (by rw [HL.out]; exact h8))
  rw [HM.out]
  have e8 : decide (8 < (n : Int)) = false := decide_eq_false (by omega)
  go_enter Try.func20, Try.ntmps20
  go_wp2
  go_loopw [6, 7] (fun v i wr => ∃ (k : Nat) (s : Int), k ≤ q ∧ i = .int .i64 k ∧ v = .int .i64 s ∧ (0 ≤ s ∧ s ≤ 255) ∧ Hid (MR.Mu L ns k s) ∧ Hid (Below w.heap.size w wr)) (fun _ i _ => q - (intOf i).toNat)
  case atStart => exact ⟨0, 0, Nat.zero_le _, rfl, rfl, ⟨by decide, by decide⟩, Lib.hid (MR.Mu.start L ns), Lib.hid (Below.refl _ _)⟩
  case round =>
    obtain ⟨k, s, hk, rfl, rfl, hs, HU, HB⟩ := hrel
    by_cases hlt : k < q
    · obtain ⟨ad, nm, rfl, q1, hfi, hbk, x0⟩ := str_at (H'.out.keep HB.out) hlt
      have FA := Lib.hid (fun w' (hb : Below w.heap.size w w') => rfind_any A n c L nm w' (H.out.keep hb))
      clear hbk hfi
      cases hf : MR.findL L nm with
      | none =>
        have G := Lib.hid (ret_mb (HU.out.none q1 hf))
        rw [hf] at FA
        have FA2 : Hid (∀ w', Below w.heap.size w w' → Calls Try.prog 16 #[.slice A n c, .string (str nm)] w' (Gives (.tuple #[.int .i64 0, .bool false]) w')) := FA
        clear hf q1 FA HU
        generalize str nm = z at *
        go_wp2_with fail
        refine (FA2.out _ HB.out).mono ?_
        rintro e w1 ⟨rfl, hb⟩
        have B1 := Lib.hid (HB.out.trans (hb.mono HB.out.size))
        clear hb x0
        go_wp2
        exact bodyPost_ret (v := .tuple #[.int .i64 0, .int .i64 6]) (by simp [results, Try.results20, go_sem]) rfl ⟨G.out, B1.out⟩
      | some j =>
        have hj := MR.find_lt hf
        rw [HL.out] at hj
        rw [hf] at FA
        have FA2 : Hid (∀ w', Below w.heap.size w w' → Calls Try.prog 16 #[.slice A n c, .string (str nm)] w' (Gives (.tuple #[.int .i64 (j : Int), .bool true]) w')) := FA
        have HA := Lib.hid (fun w' => r_has_any s j (by omega) (by omega) w')
        have BA := Lib.hid (fun w' => bit_any j (by omega) w')
        clear FA
        cases hh : MR.has s j with
        | true =>
          have G := Lib.hid (ret_mb (HU.out.twice q1 hf hh))
          rw [hh] at HA
          clear hf q1 HU hh
          generalize str nm = z at *
          go_wp2_with fail
          refine (FA2.out _ HB.out).mono ?_
          rintro e w1 ⟨rfl, hb⟩
          have B1 := Lib.hid (HB.out.trans (hb.mono HB.out.size))
          clear hb x0
          go_wp2_with fail
          refine (HA.out _).mono ?_
          rintro e w2 ⟨rfl, hb⟩
          have B2 := Lib.hid (B1.out.trans (hb.mono B1.out.size))
          clear hb
          go_wp2
          exact bodyPost_ret (v := .tuple #[.int .i64 0, .int .i64 7]) (by simp [results, Try.results20, go_sem]) rfl ⟨G.out, B2.out⟩
        | false =>
          have U1 := Lib.hid (HU.out.step q1 hf hh)
          have hr := MR.has_add hs (by omega) hh
          have ew := add_bit hr
          rw [hh] at HA
          clear hf q1 HU hh
          generalize str nm = z at *
          generalize hgb : ((2 ^ j : Nat) : Int) = b at *
          clear hgb
          go_wp2_with fail
          refine (FA2.out _ HB.out).mono ?_
          rintro e w1 ⟨rfl, hb⟩
          have B1 := Lib.hid (HB.out.trans (hb.mono HB.out.size))
          clear hb x0
          go_wp2_with fail
          refine (HA.out _).mono ?_
          rintro e w2 ⟨rfl, hb⟩
          have B2 := Lib.hid (B1.out.trans (hb.mono B1.out.size))
          clear hb
          go_wp2_with fail
          refine (BA.out _).mono ?_
          rintro e w3 ⟨rfl, hb⟩
          have B3 := Lib.hid (B2.out.trans (hb.mono B2.out.size))
          clear hb
          go_wp2
          go_roundw
          case rel => exact ⟨k + 1, s + b, by omega, by go_num, by first | rfl | (rw [ew]) | go_num, hr, U1, B3⟩
          case measure => simp [intOf]; omega
    · have G := Lib.hid (ret_mb (HU.out.fin (by rw [HN.out]; omega)))
      go_wp2
      exact bodyPost_ret (v := .tuple #[.int .i64 s, .int .i64 0]) (by simp [results, Try.results20, go_sem]) rfl ⟨G.out, HB.out⟩
end Go.Proofs.Ytooeafpcbejpdaa
