/- The walk of ChecksumHex: no claim of its own. -/
import Derived.Test.YtohamhejmmangaaDoorKBuf
namespace Go.Proofs.YtohamhejmmangaaDoor
open Go.RowKit
theorem drewN_below (w : World) (n : Nat) : Below w.heap.size w (w.drewN n) := ⟨rfl, rfl, rfl, Nat.le_refl _, fun _ _ => rfl⟩
set_option maxRecDepth 100000 in
set_option maxHeartbeats 1000000 in
theorem hexes_walk (z : Int) (s : ByteArray) (w : World) (hz : 0 ≤ z ∧ z ≤ 18446744073709551615) (hs : s.size ≤ maxLen) (ht : Tab w) :
    Calls Tryd.prog 8 #[.int .u64 z, .string s] w (Gives (.bool true) w) := by
  obtain ⟨x, rfl⟩ := Int.eq_ofNat_of_zero_le hz.1
  unfold maxLen at hs
  have hx : x < 18446744073709551616 := by omega
  have T0 := Lib.hid ht
  have B0 := Lib.hid (Below.refl w.heap.size w)
  clear ht
  rcases Nat.lt_or_ge 6000 s.size with h | h
  · have F := Lib.hid (few_no s h w)
    go_enter Tryd.func8, Tryd.ntmps8
    go_wp2_with fail
    refine (F.out).mono ?_
    rintro e w' ⟨rfl, rfl⟩
    go_wp2_with fail
    refine (awake_any _ T0.out).mono ?_
    rintro e w1 ⟨rfl, hb⟩
    have T1 := Lib.hid (T0.out.keep hb (Nat.le_refl _))
    have B1 := Lib.hid (B0.out.trans (hb.mono B0.out.size))
    clear hb T0 B0
    go_wp2
    go_ret
    exact ⟨rfl, B1.out⟩
  have F := Lib.hid (few_yes s h w)
  have X1 := Lib.hid (fun w' => hex_any x hx w')
  have X2 := Lib.hid (fun w' => rhex_any x hx w')
  have U1 : Hid (∀ w', Calls Tryd.prog 24 #[.string (str (hexOf x))] w' (Gives (.tuple #[.int .u64 x, .int .i64 0]) w')) := Lib.hid (fun w' => by
    have := unhex_any (str (hexOf x)) (by rw [str_size, show (hexOf x).length = 16 from hexLow_length _ _]; decide) w'
    rw [str_data, unhexErr_hex, unhexVal_hex x hx] at this
    exact this)
  have U2 := Lib.hid (fun w' => unhex_any s (by omega) w')
  have U3 := Lib.hid (fun w' => runhex_any s (by omega) w')
  have hm := unhexVal_lt s.data.toList
  have X3 := Lib.hid (fun w' => hex_any (unhexVal s.data.toList) hm w')
  have BK : Hid (unhexErr s.data.toList = 0 → str (hexOf (unhexVal s.data.toList)) = s) := Lib.hid fun h => by rw [hexOf_unhex _ h, str_self]
  have K2 := Lib.hid (unhexErr_two s.data.toList)
  generalize unhexVal s.data.toList = m at *
  generalize unhexErr s.data.toList = k at *
  generalize str (hexOf x) = t1 at *
  generalize str (hexOf m) = t2 at *
  by_cases hk : k = 0
  · obtain rfl : t2 = s := BK.out hk
    subst hk
    go_enter Tryd.func8, Tryd.ntmps8
    go_wp2_with fail
    refine (F.out).mono ?_
    rintro e w' ⟨rfl, rfl⟩
    go_wp2_with fail
    refine (X1.out _).mono ?_
    rintro e w1 ⟨rfl, hb⟩
    have T1 := Lib.hid (T0.out.keep hb (Nat.le_refl _))
    have B1 := Lib.hid (B0.out.trans (hb.mono B0.out.size))
    clear hb T0 B0
    go_wp2_with fail
    refine (U1.out _).mono ?_
    rintro e w2 ⟨rfl, hb⟩
    have T2 := Lib.hid (T1.out.keep hb (Nat.le_refl _))
    have B2 := Lib.hid (B1.out.trans (hb.mono B1.out.size))
    clear hb T1 B1
    go_wp2_with fail
    refine (U2.out _).mono ?_
    rintro e w3 ⟨rfl, hb⟩
    have T3 := Lib.hid (T2.out.keep hb (Nat.le_refl _))
    have B3 := Lib.hid (B2.out.trans (hb.mono B2.out.size))
    clear hb T2 B2
    go_wp2_with fail
    refine (U3.out _).mono ?_
    rintro e w9 ⟨rfl, n, rfl⟩
    have T4 : Hid (Tab (w3.drewN n)) := Lib.hid (fun j hj => T3.out j hj)
    have B4 := Lib.hid (B3.out.trans ((drewN_below w3 n).mono B3.out.size))
    clear T3 B3
    go_wp2_with fail
    refine (X1.out _).mono ?_
    rintro e w5 ⟨rfl, hb⟩
    have T5 := Lib.hid (T4.out.keep hb (Nat.le_refl _))
    have B5 := Lib.hid (B4.out.trans (hb.mono B4.out.size))
    clear hb T4 B4
    go_wp2_with fail
    refine (X2.out _).mono ?_
    rintro e w6 ⟨rfl, hb⟩
    have T6 := Lib.hid (T5.out.keep hb (Nat.le_refl _))
    have B6 := Lib.hid (B5.out.trans (hb.mono B5.out.size))
    clear hb T5 B5
    go_wp2_with fail
    refine (X3.out _).mono ?_
    rintro e w7 ⟨rfl, hb⟩
    have T7 := Lib.hid (T6.out.keep hb (Nat.le_refl _))
    have B7 := Lib.hid (B6.out.trans (hb.mono B6.out.size))
    clear hb T6 B6
    go_wp2_with fail
    refine (awake_any _ T7.out).mono ?_
    rintro e w8 ⟨rfl, hb⟩
    have T8 := Lib.hid (T7.out.keep hb (Nat.le_refl _))
    have B8 := Lib.hid (B7.out.trans (hb.mono B7.out.size))
    clear hb T7 B7
    go_wp2
    go_ret
    exact ⟨rfl, B8.out⟩
  · obtain rfl := K2.out hk
    clear BK
    go_enter Tryd.func8, Tryd.ntmps8
    go_wp2_with fail
    refine (F.out).mono ?_
    rintro e w' ⟨rfl, rfl⟩
    go_wp2_with fail
    refine (X1.out _).mono ?_
    rintro e w1 ⟨rfl, hb⟩
    have T1 := Lib.hid (T0.out.keep hb (Nat.le_refl _))
    have B1 := Lib.hid (B0.out.trans (hb.mono B0.out.size))
    clear hb T0 B0
    go_wp2_with fail
    refine (U1.out _).mono ?_
    rintro e w2 ⟨rfl, hb⟩
    have T2 := Lib.hid (T1.out.keep hb (Nat.le_refl _))
    have B2 := Lib.hid (B1.out.trans (hb.mono B1.out.size))
    clear hb T1 B1
    go_wp2_with fail
    refine (U2.out _).mono ?_
    rintro e w3 ⟨rfl, hb⟩
    have T3 := Lib.hid (T2.out.keep hb (Nat.le_refl _))
    have B3 := Lib.hid (B2.out.trans (hb.mono B2.out.size))
    clear hb T2 B2
    go_wp2_with fail
    refine (U3.out _).mono ?_
    rintro e w9 ⟨rfl, n, rfl⟩
    have T4 : Hid (Tab (w3.drewN n)) := Lib.hid (fun j hj => T3.out j hj)
    have B4 := Lib.hid (B3.out.trans ((drewN_below w3 n).mono B3.out.size))
    clear T3 B3
    go_wp2_with fail
    refine (X1.out _).mono ?_
    rintro e w5 ⟨rfl, hb⟩
    have T5 := Lib.hid (T4.out.keep hb (Nat.le_refl _))
    have B5 := Lib.hid (B4.out.trans (hb.mono B4.out.size))
    clear hb T4 B4
    go_wp2_with fail
    refine (X2.out _).mono ?_
    rintro e w6 ⟨rfl, hb⟩
    have T6 := Lib.hid (T5.out.keep hb (Nat.le_refl _))
    have B6 := Lib.hid (B5.out.trans (hb.mono B5.out.size))
    clear hb T5 B5
    go_wp2_with fail
    refine (awake_any _ T6.out).mono ?_
    rintro e w7 ⟨rfl, hb⟩
    have T7 := Lib.hid (T6.out.keep hb (Nat.le_refl _))
    have B7 := Lib.hid (B6.out.trans (hb.mono B6.out.size))
    clear hb T6 B6
    go_wp2
    go_ret
    exact ⟨rfl, B7.out⟩
end Go.Proofs.YtohamhejmmangaaDoor
