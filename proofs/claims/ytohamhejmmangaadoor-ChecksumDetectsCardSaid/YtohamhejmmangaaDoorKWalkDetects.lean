/- The walk of ChecksumDetects: no claim of its own. -/
import Derived.Test.YtohamhejmmangaaDoorKBuf
namespace Go.Proofs.YtohamhejmmangaaDoor
open Go.RowKit
set_option maxRecDepth 100000 in
set_option maxHeartbeats 1000000 in
theorem detects_walk (s : ByteArray) (at_ z : Int) (w : World) (hs : s.size ≤ maxLen) (ha : -9223372036854775808 ≤ at_ ∧ at_ ≤ 9223372036854775807) (hz : 0 ≤ z ∧ z ≤ 255) (ht : Tab w) :
    Calls Tryd.prog 7 #[.string s, .int .i64 at_, .int .u8 z] w (Gives (.bool true) w) := by
  unfold maxLen at hs
  have T0 := Lib.hid ht
  have HT0 := Lib.hid ht
  have B0 := Lib.hid (Below.refl w.heap.size w)
  clear ht
  rcases Nat.lt_or_ge 6000 s.size with h | h
  · have F := Lib.hid (few_no s h w)
    go_enter Tryd.func7, Tryd.ntmps7
    go_wp2_with fail
    refine (F.out).mono ?_
    rintro e w' ⟨rfl, rfl⟩
    go_wp2_with fail
    refine (awake_any _ T0.out).mono ?_
    rintro e w1 ⟨rfl, hb⟩
    have T1 := Lib.hid (T0.out.keep hb (Nat.le_refl _))
    have B1 := Lib.hid (B0.out.trans (hb.mono B0.out.size))
    clear hb T0 B0
    go_wp2
    go_ret
    exact ⟨rfl, B1.out⟩
  have F := Lib.hid (few_yes s h w)
  have S1 := Lib.hid (fun w' h' => seal_any s (by omega) w' h')
  have hn : (str (sealOf s.data.toList ++ s.data.toList)).size = s.size + 4 := by rw [str_size, List.length_append, sealOf_length, size_list]; omega
  have O1 : Hid (∀ w', Tab w' → Calls Tryd.prog 20 #[.string (str (sealOf s.data.toList ++ s.data.toList))] w' (Gives (.tuple #[.string s, .int .i64 0]) w')) := Lib.hid fun w' h' => by
    have := open_any (str (sealOf s.data.toList ++ s.data.toList)) (by omega) w' h'
    rw [str_data, openErr_seal, openText_seal, str_self] at this
    exact this
  have HN := Lib.hid hn
  have HL : Hid ((sealOf s.data.toList ++ s.data.toList).length = s.size + 4) := Lib.hid (by rw [List.length_append, sealOf_length, size_list]; omega)
  have HO : Hid (∀ (i : Nat) (h : i < (sealOf s.data.toList ++ s.data.toList).length) (m : UInt8), m.toNat ≠ 0 → ∀ w', Tab w' → Calls Tryd.prog 20 #[.string (str ((sealOf s.data.toList ++ s.data.toList).set i ((sealOf s.data.toList ++ s.data.toList)[i] ^^^ m)))] w' (Gives (.tuple #[.string ⟨#[]⟩, .int .i64 11]) w')) := Lib.hid fun i hi m hm w' h' => by
    have := open_any (str ((sealOf s.data.toList ++ s.data.toList).set i ((sealOf s.data.toList ++ s.data.toList)[i] ^^^ m))) (by rw [str_size, List.length_set]; have := HL.out; omega) w' h'
    have e := openErr_set s.data.toList (i := i) (by have := HL.out; rw [size_list]; omega) _ (mask_ne _ m hm)
    rw [str_data, e, show openText ((sealOf s.data.toList ++ s.data.toList).set i ((sealOf s.data.toList ++ s.data.toList)[i] ^^^ m)) = [] from if_neg (by rw [e]; decide)] at this
    exact this
  have TD : Hid ((str (sealOf s.data.toList ++ s.data.toList)).data.toList = sealOf s.data.toList ++ s.data.toList) := Lib.hid (str_data _)
  clear hn
  generalize sealOf s.data.toList ++ s.data.toList = L at *
  generalize hT : str L = t at *
  have ET := Lib.hid hT
  clear hT
  go_enter Tryd.func7, Tryd.ntmps7
  go_wp2_with fail
  refine (F.out).mono ?_
  rintro e w' ⟨rfl, rfl⟩
  go_wp2_with fail
  refine (S1.out _ T0.out).mono ?_
  rintro e w1 ⟨rfl, hb⟩
  have T1 := Lib.hid (T0.out.keep hb (Nat.le_refl _))
  have B1 := Lib.hid (B0.out.trans (hb.mono B0.out.size))
  clear hb T0 B0
  obtain ⟨cap, w2, conv, hb, hB⟩ := to_bytes w1 t (s.size + 4) HN.out
  rw [TD.out] at hB
  have D2 := Lib.hid hB
  clear hB
  obtain ⟨g, hg⟩ : ∃ g, w1.heap.size = g := ⟨_, rfl⟩
  rw [hg] at conv D2
  have HGE : Hid (w.heap.size ≤ g) := Lib.hid (by have := B1.out.size; omega)
  have T2 := Lib.hid (T1.out.keep hb (Nat.le_refl _))
  have B2 := Lib.hid (B1.out.trans (hb.mono B1.out.size))
  clear hb T1 B1
  clear hg
  have conv2 := D2.out.text HL.out cap
  rw [ET.out] at conv2
  go_wp2_with fail
  refine (O1.out _ T2.out).mono ?_
  rintro e w3 ⟨rfl, hb⟩
  have T3 := Lib.hid (T2.out.keep hb (Nat.le_refl _))
  have B3 := Lib.hid (B2.out.trans (hb.mono B2.out.size))
  have D3 := Lib.hid (D2.out.keep hb (Nat.le_refl _))
  clear hb T2 B2 D2
  by_cases h1 : at_ < 0
  · skip
    go_wp2_with fail
    refine (awake_any _ T3.out).mono ?_
    rintro e w4 ⟨rfl, hb⟩
    have T4 := Lib.hid (T3.out.keep hb (Nat.le_refl _))
    have B4 := Lib.hid (B3.out.trans (hb.mono B3.out.size))
    have D4 := Lib.hid (D3.out.keep hb (Nat.le_refl _))
    clear hb T3 B3 D3
    go_wp2
    go_ret
    exact ⟨rfl, B4.out⟩
  by_cases h2 : (s.size : Int) + 4 ≤ at_
  · skip
    go_wp2_with fail
    refine (awake_any _ T3.out).mono ?_
    rintro e w4 ⟨rfl, hb⟩
    have T4 := Lib.hid (T3.out.keep hb (Nat.le_refl _))
    have B4 := Lib.hid (B3.out.trans (hb.mono B3.out.size))
    have D4 := Lib.hid (D3.out.keep hb (Nat.le_refl _))
    clear hb T3 B3 D3
    go_wp2
    go_ret
    exact ⟨rfl, B4.out⟩
  by_cases h3 : z = 0
  · subst h3
    go_wp2_with fail
    refine (awake_any _ T3.out).mono ?_
    rintro e w4 ⟨rfl, hb⟩
    have T4 := Lib.hid (T3.out.keep hb (Nat.le_refl _))
    have B4 := Lib.hid (B3.out.trans (hb.mono B3.out.size))
    have D4 := Lib.hid (D3.out.keep hb (Nat.le_refl _))
    clear hb T3 B3 D3
    go_wp2
    go_ret
    exact ⟨rfl, B4.out⟩
  obtain ⟨k, rfl⟩ := Int.eq_ofNat_of_zero_le (show 0 ≤ at_ by omega)
  obtain ⟨m, rfl⟩ : ∃ m : UInt8, z = (m.toNat : Int) := ⟨UInt8.ofNat z.toNat, by rw [UInt8.toNat_ofNat']; omega⟩
  have hk : k < L.length := by have := HL.out; omega
  have hm0 : m.toNat ≠ 0 := by omega
  have hkl : (k : Int) < (s.size : Int) + 4 := by omega
  have hcell := (D3.out k hk).1
  have hfz := (D3.out k hk).2
  have hx := mask_int L[k] m
  have hb1 : L[k].toNat < 256 := L[k].toNat_lt
  have hb2 : m.toNat < 256 := m.toNat_lt
  have conv3 := (D3.out.set hk (L[k] ^^^ m) rfl).text (n := s.size + 4) (by rw [List.length_set]; exact HL.out) cap
  have O2 := Lib.hid (HO.out k hk m hm0)
  have zb : ((m.toNat : Int) == 0) = false := beq_eq_false_iff_ne.2 (by omega)
  have BS := Lib.hid (B3.out.setCell (p := ⟨g, k, none⟩) HGE.out (.int .u8 ((L[k] ^^^ m).toNat : Int)))
  have TS := Lib.hid (HT0.out.keep BS.out (Nat.le_refl _))
  clear hm0 HO D3 B3 T3 h1 h2 h3 conv2 conv
  generalize str (L.set k (L[k] ^^^ m)) = t3 at *
  generalize ((L[k] ^^^ m).toNat : Int) = v at *
  generalize L[k].toNat = u at *
  clear hk
  go_wp2_with fail
  refine (O2.out _ TS.out).mono ?_
  rintro e w8 ⟨rfl, hb⟩
  have T8 := Lib.hid (TS.out.keep hb (Nat.le_refl _))
  have B8 := Lib.hid (BS.out.trans (hb.mono BS.out.size))
  clear hb
  go_wp2_with fail
  refine (awake_any _ T8.out).mono ?_
  rintro e w9 ⟨rfl, hb⟩
  have B9 := Lib.hid (B8.out.trans (hb.mono B8.out.size))
  clear hb
  go_wp2
  go_ret
  exact ⟨rfl, B9.out⟩
end Go.Proofs.YtohamhejmmangaaDoor
