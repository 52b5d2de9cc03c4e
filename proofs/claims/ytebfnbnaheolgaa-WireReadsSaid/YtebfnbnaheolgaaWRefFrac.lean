/- The reference's Fraction: no claim of its own. -/
import Derived.Test.YtebfnbnaheolgaaWMathR
namespace Go.Proofs.Ytebfnbnaheolgaa
open Go.RowKit
set_option maxRecDepth 100000 in
set_option maxHeartbeats 2000000 in
theorem rdigits_any (A : Option Addr) (n c : Nat) (xs : List Nat) (w : World) (hx : Lst w A n c xs) (hn : n ≤ 100000) :
    Calls Try.prog 43 #[.slice A n c] w (Gives (.string (str (natEnc xs))) w) := by
  have HX := Lib.hid hx
  have hc := hx.cap
  have U := Lib.hid (rputUint_any 10 n (by omega) (Nat.lt_of_le_of_lt hn (by decide)) w)
  have UU := Lib.hid (fun d (hd : d < 4294967296) W => rputUint_any 10 d (by omega) (Nat.lt_trans hd (by decide)) W)
  have L0 := leb_len 10 n (by omega) (by decide)
  have E0 : Hid (str (leb n) = str (leb n ++ (xs.take 0).flatMap leb)) := Lib.hid (by simp)
  have EN : Hid (leb n ++ (xs.take n).flatMap leb = natEnc xs) := Lib.hid (by
    unfold natEnc
    rw [hx.len, List.take_of_length_le (by rw [hx.len]; exact Nat.le_refl _)])
  have FT := Lib.hid (fun k => flat_take xs hx.lt k)
  have XL := Lib.hid hx.len
  clear hx
  go_enter Try.func43, Try.ntmps43
  go_wp2_with fail
  refine U.out.mono ?_
  rintro e w1 ⟨rfl, hb⟩
  have B1 := Lib.hid hb
  clear hb U
  go_wp2_with fail
  go_loopw [3, 4] (fun s i wr => ∃ k : Nat, k ≤ n ∧ i = .int .i64 k ∧ s = .string (str (leb n ++ (xs.take k).flatMap leb)) ∧ Hid (Below w.heap.size w wr)) (fun _ i _ => n - (intOf i).toNat)
  case atStart => exact ⟨0, by omega, rfl, by rw [← E0.out], B1⟩
  case round =>
    clear B1 E0
    obtain ⟨k, hk, rfl, rfl, hb⟩ := hrel
    by_cases hlt : k < n
    · have zr := HX.out.keep hb.out
      obtain ⟨ad, rfl, _, hcell⟩ := zr.at_ hlt
      have dl := zr.getD_lt k
      have FK := FT.out k
      rw [XL.out] at FK
      have CU := Lib.hid (UU.out (xs.getD k 0) dl wr)
      have L1 := leb_len 10 (xs.getD k 0) (by omega) (by decide)
      have s1 : (str (leb n ++ (xs.take k).flatMap leb)).size ≤ 1000010 := by rw [str_size, List.length_append]; omega
      have s2 : (str (leb (xs.getD k 0))).size ≤ 10 := by rw [str_size]; exact L1
      have s3 : ¬ 9223372036854775807 < (str (leb n ++ (xs.take k).flatMap leb)).size + (str (leb (xs.getD k 0))).size := by omega
      have ST : Hid (str (leb n ++ (xs.take k).flatMap leb) ++ str (leb (xs.getD k 0)) = str (leb n ++ (xs.take (k + 1)).flatMap leb)) := Lib.hid (by
        have hjl : k < xs.length := by rw [XL.out]; exact hlt
        rw [str_append, List.take_succ_eq_append_getElem hjl, List.flatMap_append, List.append_assoc]
        simp [List.getD_eq_getElem?_getD, hjl])
      clear zr FK L1
      generalize str (leb n ++ (xs.take k).flatMap leb) = t at *
      generalize str (leb (xs.getD k 0)) = td at *
      generalize xs.getD k 0 = dg at *
      go_wp2_with fail
      refine CU.out.mono ?_
      rintro e w5 ⟨rfl, h5⟩
      have B5 := Lib.hid (hb.out.trans (h5.mono hb.out.size))
      clear h5 hb hcell
      go_wp2
      go_roundw
      case rel => exact ⟨k + 1, by omega, by go_num, by rw [ST.out], B5⟩
      case measure => simp [intOf]; omega
    · obtain rfl : k = n := by omega
      rw [EN.out]
      go_wp2
      go_ret
      exact ⟨rfl, hb.out⟩
set_option maxRecDepth 100000 in
set_option maxHeartbeats 4000000 in
theorem rputFrac_any (s : Bool) (A B : Option Addr) (n c m d : Nat) (xs ys : List Nat) (w : World) (hx : Lst w A n c xs) (hy : Lst w B m d ys) (hn : n ≤ 100000) (hm : m ≤ 100000) :
    Calls Try.prog 24 #[.agg #[.bool s, .slice A n c, .slice B m d]] w (Gives (.string (str (fracEnc s xs ys))) w) := by
  have b0 := below_new w (.cells #[.bool s, .slice A n c, .slice B m d] 40)
  have H0 := Lib.hid (FB.new w s A n c B m d)
  have B0 := Lib.hid b0
  have HX := Lib.hid (hx.keep b0)
  have HY := Lib.hid (hy.keep b0)
  have CU := Lib.hid (fun W => rputUint_any 10 (sg s) (sg_lt s) (Nat.lt_of_le_of_lt (show sg s ≤ 1 by cases s <;> decide) (by decide)) W)
  have E := Lib.hid (show str (leb (sg s)) ++ str (natEnc xs) ++ str (natEnc ys) = str (fracEnc s xs ys) by unfold fracEnc; rw [str_append, str_append])
  have l1 : (leb (sg s)).length ≤ 10 := leb_len 10 _ (Nat.lt_of_le_of_lt (show sg s ≤ 1 by cases s <;> decide) (by decide)) (by decide)
  have l2 := natEnc_len xs hx.lt (by rw [hx.len]; omega)
  have l3 := natEnc_len ys hy.lt (by rw [hy.len]; omega)
  rw [hx.len] at l2
  rw [hy.len] at l3
  have z1 : (str (leb (sg s))).size ≤ 10 := by rw [str_size]; exact l1
  have z2 : (str (natEnc xs)).size ≤ 1000010 := by rw [str_size]; omega
  have z3 : (str (natEnc ys)).size ≤ 1000010 := by rw [str_size]; omega
  have z4 : ¬ 9223372036854775807 < (str (leb (sg s))).size + (str (natEnc xs)).size := by omega
  have z5 : (str (leb (sg s)) ++ str (natEnc xs)).size = (str (leb (sg s))).size + (str (natEnc xs)).size := ByteArray.size_append
  have z6 : ¬ 9223372036854775807 < (str (leb (sg s))).size + (str (natEnc xs)).size + (str (natEnc ys)).size := by omega
  have DX := Lib.hid (fun W h => rdigits_any A n c xs W h hn)
  have DY := Lib.hid (fun W h => rdigits_any B m d ys W h hm)
  obtain ⟨h0, h1, h2, _, _, _⟩ := H0.out.facts
  clear hx hy b0 l1 l2 l3
  generalize str (natEnc xs) = t2 at *
  generalize str (natEnc ys) = t3 at *
  generalize str (leb (sg s)) = t1 at *
  cases s
  · have CU2 : Hid (∀ W, Calls Try.prog 11 #[.int .u64 0] W (Gives (.string t1) W)) := CU
    clear CU
    go_enter Try.func24, Try.ntmps24
    go_wp2_with fail
    have X0 := Lib.hid HX.out.drew
    have Y0 := Lib.hid HY.out.drew
    have R0 := Lib.hid H0.out.drew
    have C0 := Lib.hid B0.out.drew
    clear HX HY H0 B0
    go_region_held3 (fun w' => w'.cell? ⟨w.heap.size, 1, none⟩ = some (.slice A n c) ∧ w'.cell? ⟨w.heap.size, 2, none⟩ = some (.slice B m d)) (go_keep) (first | (go_at_call 11; (with_reducible refine (CU2.out _).mono ?_); rintro e w1 ⟨rfl, hb⟩; have X1 := Lib.hid (X0.out.keep hb); have Y1 := Lib.hid (Y0.out.keep hb); have R1 := Lib.hid (R0.out.keep hb); have C1 := Lib.hid (C0.out.trans (hb.mono C0.out.size)); obtain ⟨k0, k1, k2, _, _, _⟩ := R1.out.facts; clear hb) | (go_at_call 43; (with_reducible refine (DX.out _ X1.out).mono ?_); rintro e w2 ⟨rfl, hb⟩; have Y2 := Lib.hid (Y1.out.keep hb); have R2 := Lib.hid (R1.out.keep hb); have C2 := Lib.hid (C1.out.trans (hb.mono C1.out.size)); obtain ⟨j0, j1, j2, _, _, _⟩ := R2.out.facts; clear hb) | (go_at_call 43; (with_reducible refine (DY.out _ Y2.out).mono ?_); rintro e w3 ⟨rfl, hb⟩; have R3 := Lib.hid (R2.out.keep hb); have C3 := Lib.hid (C2.out.trans (hb.mono C2.out.size)); obtain ⟨i0, i1, i2, _, _, _⟩ := R3.out.facts; clear hb))
    go_wp2
    go_ret
    exact ⟨ret_s E.out, C3.out⟩
  · have CU2 : Hid (∀ W, Calls Try.prog 11 #[.int .u64 1] W (Gives (.string t1) W)) := CU
    clear CU
    go_enter Try.func24, Try.ntmps24
    go_wp2_with fail
    have X0 := Lib.hid HX.out.drew
    have Y0 := Lib.hid HY.out.drew
    have R0 := Lib.hid H0.out.drew
    have C0 := Lib.hid B0.out.drew
    clear HX HY H0 B0
    go_region_held3 (fun w' => w'.cell? ⟨w.heap.size, 1, none⟩ = some (.slice A n c) ∧ w'.cell? ⟨w.heap.size, 2, none⟩ = some (.slice B m d)) (go_keep) (first | (go_at_call 11; (with_reducible refine (CU2.out _).mono ?_); rintro e w1 ⟨rfl, hb⟩; have X1 := Lib.hid (X0.out.keep hb); have Y1 := Lib.hid (Y0.out.keep hb); have R1 := Lib.hid (R0.out.keep hb); have C1 := Lib.hid (C0.out.trans (hb.mono C0.out.size)); obtain ⟨k0, k1, k2, _, _, _⟩ := R1.out.facts; clear hb) | (go_at_call 43; (with_reducible refine (DX.out _ X1.out).mono ?_); rintro e w2 ⟨rfl, hb⟩; have Y2 := Lib.hid (Y1.out.keep hb); have R2 := Lib.hid (R1.out.keep hb); have C2 := Lib.hid (C1.out.trans (hb.mono C1.out.size)); obtain ⟨j0, j1, j2, _, _, _⟩ := R2.out.facts; clear hb) | (go_at_call 43; (with_reducible refine (DY.out _ Y2.out).mono ?_); rintro e w3 ⟨rfl, hb⟩; have R3 := Lib.hid (R2.out.keep hb); have C3 := Lib.hid (C2.out.trans (hb.mono C2.out.size)); obtain ⟨i0, i1, i2, _, _, _⟩ := R3.out.facts; clear hb))
    go_wp2
    go_ret
    exact ⟨ret_s E.out, C3.out⟩
end Go.Proofs.Ytebfnbnaheolgaa
