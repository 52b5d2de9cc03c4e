/- The walk of WireIntegers: no claim of its own. -/
import Derived.Test.YtebfnbnaheolgaaWLives
namespace Go.Proofs.Ytebfnbnaheolgaa
open Go.RowKit
theorem dec_two (x y : Nat) (hx : x < 18446744073709551616) (hy : y < 18446744073709551616) : uintS (leb x ++ leb y) 18446744073709551615 = (x, leb y, 0) ∧ uintS (leb y) 18446744073709551615 = (y, [], 0) := by
  have h1 := decGo_leb 10 x 0 0 (leb y) (by omega) (by decide) (by decide) (by omega) (fun h => absurd h (by decide))
  have h2 := decGo_leb 10 y 0 0 [] (by omega) (by decide) (by decide) (by omega) (fun h => absurd h (by decide))
  rw [List.append_nil] at h2
  refine ⟨?_, ?_⟩
  · rw [uintS_ok (x := x) (n := (leb x).length) (by rw [h1]; simp) (by omega)]
    simp
  · rw [uintS_ok (x := y) (n := (leb y).length) (by rw [h2]; simp) (by omega)]
    simp
set_option maxRecDepth 100000 in
set_option maxHeartbeats 2000000 in
theorem integers_walk (z : Int) (y : Int) (w : World) (hz : 0 ≤ z ∧ z ≤ 18446744073709551615) (hy : -9223372036854775808 ≤ y ∧ y ≤ 9223372036854775807) :
    Calls Try.prog 3 #[.int .u64 z, .int .i64 y] w (Gives (.bool true) w) := by
  obtain ⟨x, rfl⟩ := Int.eq_ofNat_of_zero_le hz.1
  have hx : x < 18446744073709551616 := by omega
  have hf := fold_lt y hy.1 hy.2
  obtain ⟨D1, D2⟩ := dec_two x (foldN y) hx hf
  have B0 := Lib.hid (Below.refl w.heap.size w)
  have L1 := Lib.hid (fun W => putUint_any x hx W)
  have L2 := Lib.hid (fun W => putInt_any y hy.1 hy.2 W)
  have L3 := Lib.hid (fun W => rputUint_any 10 x hx (by omega) W)
  have L4 := Lib.hid (fun W => rputInt_any y hy.1 hy.2 W)
  have LL := Lib.hid lives_wire
  have z1 : (leb x).length ≤ 10 := leb_len 10 x (by omega) (by decide)
  have z2 : (leb (foldN y)).length ≤ 10 := leb_len 10 _ (by omega) (by decide)
  have e1 : str (leb x) ++ str (leb (foldN y)) = str (leb x ++ leb (foldN y)) := str_append _ _
  have s1 : (str (leb x)).size ≤ 10 := by rw [str_size]; exact z1
  have s2 : (str (leb (foldN y))).size ≤ 10 := by rw [str_size]; exact z2
  have U : Hid (∀ W g, RP W g (leb x ++ leb (foldN y)) 0 → Calls Try.prog 14 #[.pointer (some ⟨g, 0, none⟩), .int .u64 18446744073709551615] W (Rd (.int .u64 x) g (leb (foldN y)) 0 W)) := Lib.hid (fun W g hr => by
    have h := uintR_any g _ 18446744073709551615 W hr (by simp only [List.length_append]; omega)
    rw [D1] at h
    exact h)
  have I : Hid (∀ W g, RP W g (leb (foldN y)) 0 → Calls Try.prog 15 #[.pointer (some ⟨g, 0, none⟩)] W (Rd (.int .i64 y) g [] 0 W)) := Lib.hid (fun W g hr => by
    have h := intR_any g _ W hr (by omega)
    rw [D2] at h
    have e : unfoldI (foldN y) = y := unfold_fold y
    simp only at h
    rw [e] at h
    exact h)
  have RN : Hid (∀ W : World, RP (W.alloc (.cells #[.string (str (leb x ++ leb (foldN y))), .int .i64 0] 59)) W.heap.size (leb x ++ leb (foldN y)) 0) := Lib.hid (fun W => by
    have h := RP.new W (str (leb x ++ leb (foldN y)))
    rwa [str_data] at h)
  have E := Lib.hid (fun W g hr => endR_done g W hr)
  clear hz hf D1 D2 z1 z2
  generalize leb x ++ leb (foldN y) = l at *
  generalize leb (foldN y) = l2 at *
  generalize hs1 : str (leb x) = t1 at *
  generalize hs2 : str l2 = t2 at *
  generalize hs : str l = t at *
  clear hs1 hs2 hs
  go_enter Try.func3, Try.ntmps3
  go_wp2_with fail
  refine (L1.out _).mono ?_
  rintro e w1 ⟨rfl, hb⟩
  have B1 := Lib.hid (B0.out.trans (hb.mono B0.out.size))
  clear hb B0
  go_wp2_with fail
  refine (L2.out _).mono ?_
  rintro e w2 ⟨rfl, hb⟩
  have B2 := Lib.hid (B1.out.trans (hb.mono B1.out.size))
  clear hb B1
  go_wp2_with fail
  refine (L3.out _).mono ?_
  rintro e w3 ⟨rfl, hb⟩
  have B3 := Lib.hid (B2.out.trans (hb.mono B2.out.size))
  clear hb B2
  go_wp2_with fail
  refine (L4.out _).mono ?_
  rintro e w4 ⟨rfl, hb⟩
  have B4 := Lib.hid (B3.out.trans (hb.mono B3.out.size))
  clear hb B3
  go_wp2_with fail
  refine (newReader_any _ _).mono ?_
  rintro e w5 ⟨rfl, rfl⟩
  have R5 := Lib.hid (RN.out w4)
  have B5 := Lib.hid (B4.out.alloc B4.out.size (.cells #[.string t, .int .i64 0] 59))
  have hg : w.heap.size ≤ w4.heap.size := B4.out.size
  clear B4
  generalize w4.alloc (.cells #[.string t, .int .i64 0] 59) = w5 at *
  generalize w4.heap.size = g at *
  go_wp2_with fail
  refine (U.out _ _ R5.out).mono ?_
  rintro e w6 ⟨rfl, hr, hG⟩
  have B6 := Lib.hid (B5.out.trans (grown_below hG hg B5.out.size))
  have R6 := Lib.hid hr
  clear hr hG B5 R5
  go_wp2_with fail
  refine (I.out _ _ R6.out).mono ?_
  rintro e w7 ⟨rfl, hr, hG⟩
  have B7 := Lib.hid (B6.out.trans (grown_below hG hg B6.out.size))
  have R7 := Lib.hid hr
  clear hr hG B6 R6
  go_wp2_with fail
  refine (E.out _ _ R7.out).mono ?_
  rintro e w' ⟨rfl, rfl⟩
  go_wp2_with fail
  refine (LL.out _).mono ?_
  rintro e w8 ⟨rfl, hb⟩
  have B8 := Lib.hid (B7.out.trans (hb.mono B7.out.size))
  clear hb B7
  go_wp2
  go_ret
  exact ⟨rfl, B8.out⟩
end Go.Proofs.Ytebfnbnaheolgaa
