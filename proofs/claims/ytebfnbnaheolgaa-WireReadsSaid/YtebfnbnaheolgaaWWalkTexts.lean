/- The walk of WireTexts: no claim of its own. -/
import Derived.Test.YtebfnbnaheolgaaWLives
namespace Go.Proofs.Ytebfnbnaheolgaa
open Go.RowKit
theorem uintS_leb (x : Nat) (t : List UInt8) (most : Nat) (hx : x < 18446744073709551616) (hm : x ≤ most) : uintS (leb x ++ t) most = (x, t, 0) := by
  have h1 := decGo_leb 10 x 0 0 t (by omega) (by decide) (by decide) (by omega) (fun h => absurd h (by decide))
  rw [uintS_ok (x := x) (n := (leb x).length) (by rw [h1]; simp) hm]
  simp
theorem text_read (l t : List UInt8) (most : Nat) (hl : l.length ≤ most) (hm : most < 18446744073709551616) : textS (leb l.length ++ l ++ t) (most : Int) = (l, t, 0) := by
  unfold textS
  rw [Int.toNat_natCast, List.append_assoc, uintS_leb _ _ _ (by omega) hl]
  simp only [ne_eq, not_true_eq_false, if_false]
  rw [if_neg (by omega), if_neg (by simp)]
  simp
set_option maxRecDepth 100000 in
set_option maxHeartbeats 2000000 in
theorem texts_no (s t : ByteArray) (w : World) (h : 4000 < s.size ∨ 4000 < t.size) (hs : s.size ≤ maxLen) (ht : t.size ≤ maxLen) :
    Calls Try.prog 4 #[.string s, .string t] w (Gives (.bool true) w) := by
  unfold maxLen at hs ht
  have LL := Lib.hid (lives_wire w)
  by_cases h1 : 4000 < s.size
  · clear h
    go_enter Try.func4, Try.ntmps4
    go_wp2_with fail
    refine LL.out.mono ?_
    rintro e w1 ⟨rfl, hb⟩
    have B := Lib.hid hb
    clear hb
    go_wp2
    go_ret
    exact ⟨rfl, B.out⟩
  · have h2 : 4000 < t.size := by omega
    clear h
    go_enter Try.func4, Try.ntmps4
    go_wp2_with fail
    refine LL.out.mono ?_
    rintro e w1 ⟨rfl, hb⟩
    have B := Lib.hid hb
    clear hb
    go_wp2
    go_ret
    exact ⟨rfl, B.out⟩
set_option maxRecDepth 100000 in
set_option maxHeartbeats 2000000 in
theorem texts_yes (s t : ByteArray) (w : World) (hs : s.size ≤ 4000) (ht : t.size ≤ 4000) :
    Calls Try.prog 4 #[.string s, .string t] w (Gives (.bool true) w) := by
  have hsl : s.data.toList.length = s.size := by simp
  have htl : t.data.toList.length = t.size := by simp
  have n1 : ¬ 4000 < s.size := by omega
  have n2 : ¬ 4000 < t.size := by omega
  have D1 : textS (leb s.size ++ s.data.toList ++ (leb t.size ++ t.data.toList)) (s.size : Int) = (s.data.toList, leb t.size ++ t.data.toList, 0) := by
    have := text_read s.data.toList (leb t.size ++ t.data.toList) s.size (by omega) (by omega)
    rwa [hsl] at this
  have D2 : textS (leb t.size ++ t.data.toList) 4000 = (t.data.toList, [], 0) := by
    have := text_read t.data.toList [] 4000 (by omega) (by omega)
    rwa [htl, List.append_nil] at this
  have B0 := Lib.hid (Below.refl w.heap.size w)
  have L1 := Lib.hid (fun W => putText_any s (by omega) W)
  have L2 := Lib.hid (fun W => putText_any t (by omega) W)
  have L3 := Lib.hid (fun W => rputText_any s (by omega) W)
  have L4 := Lib.hid (fun W => rputText_any t (by omega) W)
  have LL := Lib.hid lives_wire
  have z1 : (leb s.size).length ≤ 10 := leb_len 10 _ (by omega) (by decide)
  have z2 : (leb t.size).length ≤ 10 := leb_len 10 _ (by omega) (by decide)
  have e1 : str (leb s.size ++ s.data.toList) ++ str (leb t.size ++ t.data.toList) = str (leb s.size ++ s.data.toList ++ (leb t.size ++ t.data.toList)) := str_append _ _
  have s1 : (str (leb s.size ++ s.data.toList)).size ≤ 5000 := by rw [str_size, List.length_append]; omega
  have s2 : (str (leb t.size ++ t.data.toList)).size ≤ 5000 := by rw [str_size, List.length_append]; omega
  have ll : (leb s.size ++ s.data.toList ++ (leb t.size ++ t.data.toList)).length ≤ 1000000 := by simp only [List.length_append]; omega
  have ll2 : (leb t.size ++ t.data.toList).length ≤ 1000000 := by simp only [List.length_append]; omega
  have T1 : Hid (∀ W g, RP W g (leb s.size ++ s.data.toList ++ (leb t.size ++ t.data.toList)) 0 → Calls Try.prog 20 #[.pointer (some ⟨g, 0, none⟩), .int .i64 s.size] W (Rd (.string s) g (leb t.size ++ t.data.toList) 0 W)) := Lib.hid (fun W g hr => by
    have h := textR_any g _ s.size W (by omega) (by omega) hr ll
    rw [D1] at h
    simp only [str_self] at h
    exact h)
  have T2 : Hid (∀ W g, RP W g (leb t.size ++ t.data.toList) 0 → Calls Try.prog 20 #[.pointer (some ⟨g, 0, none⟩), .int .i64 4000] W (Rd (.string t) g [] 0 W)) := Lib.hid (fun W g hr => by
    have h := textR_any g _ 4000 W (by omega) (by omega) hr ll2
    rw [D2] at h
    simp only [str_self] at h
    exact h)
  have RN : Hid (∀ W : World, RP (W.alloc (.cells #[.string (str (leb s.size ++ s.data.toList ++ (leb t.size ++ t.data.toList))), .int .i64 0] 59)) W.heap.size (leb s.size ++ s.data.toList ++ (leb t.size ++ t.data.toList)) 0) := Lib.hid (fun W => by
    have h := RP.new W (str (leb s.size ++ s.data.toList ++ (leb t.size ++ t.data.toList)))
    rwa [str_data] at h)
  have LF := Lib.hid (fun W g hr => left_live g [] 0 W hr)
  have E := Lib.hid (fun W g hr => endR_done g W hr)
  clear hsl htl D1 D2 z1 z2 ll ll2
  generalize leb s.size ++ s.data.toList ++ (leb t.size ++ t.data.toList) = l at *
  generalize leb t.size ++ t.data.toList = l2 at *
  generalize leb s.size ++ s.data.toList = l1 at *
  generalize hs1 : str l1 = t1 at *
  generalize hs2 : str l2 = t2 at *
  generalize hs3 : str l = t3 at *
  clear hs1 hs2 hs3
  go_enter Try.func4, Try.ntmps4
  go_wp2_with fail
  refine (L1.out _).mono ?_
  rintro e w1 ⟨rfl, hb⟩
  have B1 := Lib.hid (B0.out.trans (hb.mono B0.out.size))
  clear hb B0
  go_wp2_with fail
  refine (L2.out _).mono ?_
  rintro e w2 ⟨rfl, hb⟩
  have B2 := Lib.hid (B1.out.trans (hb.mono B1.out.size))
  clear hb B1
  go_wp2_with fail
  refine (newReader_any _ _).mono ?_
  rintro e w5 ⟨rfl, rfl⟩
  have R5 := Lib.hid (RN.out w2)
  have B5 := Lib.hid (B2.out.alloc B2.out.size (.cells #[.string t3, .int .i64 0] 59))
  have hg : w.heap.size ≤ w2.heap.size := B2.out.size
  clear B2
  generalize w2.alloc (.cells #[.string t3, .int .i64 0] 59) = w5 at *
  generalize w2.heap.size = g at *
  go_wp2_with fail
  refine (L3.out _).mono ?_
  rintro e w3 ⟨rfl, hb⟩
  have B3 := Lib.hid (B5.out.trans (hb.mono B5.out.size))
  have R3 := Lib.hid (R5.out.keep hb)
  clear hb B5 R5
  go_wp2_with fail
  refine (L4.out _).mono ?_
  rintro e w4 ⟨rfl, hb⟩
  have B4 := Lib.hid (B3.out.trans (hb.mono B3.out.size))
  have R4 := Lib.hid (R3.out.keep hb)
  clear hb B3 R3
  go_wp2_with fail
  refine (T1.out _ _ R4.out).mono ?_
  rintro e w6 ⟨rfl, hr, hG⟩
  have B6 := Lib.hid (B4.out.trans (grown_below hG hg B4.out.size))
  have R6 := Lib.hid hr
  clear hr hG B4 R4
  go_wp2_with fail
  refine (T2.out _ _ R6.out).mono ?_
  rintro e w7 ⟨rfl, hr, hG⟩
  have B7 := Lib.hid (B6.out.trans (grown_below hG hg B6.out.size))
  have R7 := Lib.hid hr
  clear hr hG B6 R6
  go_wp2_with fail
  refine (LF.out _ _ R7.out).mono ?_
  rintro e w' ⟨rfl, rfl⟩
  go_wp2_with fail
  refine (E.out _ _ R7.out).mono ?_
  rintro e w' ⟨rfl, rfl⟩
  go_wp2_with fail
  refine (LL.out _).mono ?_
  rintro e w8 ⟨rfl, hb⟩
  have B8 := Lib.hid (B7.out.trans (hb.mono B7.out.size))
  clear hb B7
  go_wp2
  go_ret
  exact ⟨rfl, B8.out⟩
theorem texts_walk (s t : ByteArray) (w : World) (hs : s.size ≤ maxLen) (ht : t.size ≤ maxLen) :
    Calls Try.prog 4 #[.string s, .string t] w (Gives (.bool true) w) := by
  by_cases h : 4000 < s.size ∨ 4000 < t.size
  · exact texts_no s t w h hs ht
  · exact texts_yes s t w (by omega) (by omega)
end Go.Proofs.Ytebfnbnaheolgaa
