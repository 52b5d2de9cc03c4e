/- The contracts of Chain, of the package and of the reference: no claim of its own. -/
import Derived.Test.YtohamhejmmangaaDoorKBytes
namespace Go.Proofs.YtohamhejmmangaaDoor
open Go.RowKit
set_option maxRecDepth 100000 in
set_option maxHeartbeats 1000000 in
theorem chain_any (p : Nat) (hp : p < 18446744073709551616) (s : ByteArray) (hs : s.size ≤ 9223372036854775807) (w : World) :
    Calls Tryd.prog 18 #[.int .u64 p, .string s] w (Gives (.int .u64 (chainOf p s.data.toList : Nat)) w) := by
  have L1 := Lib.hid (fun w' => low_any p 8 hp (by decide) (by decide) w')
  have L2 := Lib.hid (fun w' => low_any s.size 8 (by omega) (by decide) (by decide) w')
  have z8 : ∀ x, (str (lowB x 8)).size ≤ 9223372036854775807 := fun x => by rw [str_size, lowB_length]; omega
  have A1 : Hid (∀ w', Calls Tryd.prog 30 #[.int .u64 14695981039346656037, .string (str (lowB p 8))] w' fun e w'' => e = .returned (.int .u64 (fnvFold 14695981039346656037 (lowB p 8) : Nat)) ∧ w' = w'') := Lib.hid fun w' => by
    have := absorb_any 14695981039346656037 (by decide) (str (lowB p 8)) (z8 _) w'
    rw [str_data] at this
    exact this
  have h1 : fnvFold 14695981039346656037 (lowB p 8) < 18446744073709551616 := fnvFold_lt (by decide) _
  have A2 : Hid (∀ w', Calls Tryd.prog 30 #[.int .u64 (fnvFold 14695981039346656037 (lowB p 8) : Nat), .string (str (lowB s.size 8))] w' fun e w'' => e = .returned (.int .u64 (fnvFold (fnvFold 14695981039346656037 (lowB p 8)) (lowB s.size 8) : Nat)) ∧ w' = w'') := Lib.hid fun w' => by
    have := absorb_any _ h1 (str (lowB s.size 8)) (z8 _) w'
    rw [str_data] at this
    exact this
  have h2 : fnvFold (fnvFold 14695981039346656037 (lowB p 8)) (lowB s.size 8) < 18446744073709551616 := fnvFold_lt h1 _
  have A3 := Lib.hid (fun w' => absorb_any _ h2 s hs w')
  have E : Hid (fnvFold (fnvFold (fnvFold 14695981039346656037 (lowB p 8)) (lowB s.size 8)) s.data.toList = chainOf p s.data.toList) := Lib.hid (by
    unfold chainOf
    rw [fnvFold_append, fnvFold_append, size_list])
  clear z8
  generalize fnvFold (fnvFold (fnvFold 14695981039346656037 (lowB p 8)) (lowB s.size 8)) s.data.toList = r3 at *
  generalize fnvFold (fnvFold 14695981039346656037 (lowB p 8)) (lowB s.size 8) = r2 at *
  generalize fnvFold 14695981039346656037 (lowB p 8) = r1 at *
  generalize str (lowB p 8) = t1 at *
  generalize str (lowB s.size 8) = t2 at *
  go_enter Tryd.func18, Tryd.ntmps18
  go_wp2_with fail
  refine (L1.out _).mono ?_
  rintro e w1 ⟨rfl, hb1⟩
  have B1 := Lib.hid hb1
  clear hb1
  go_wp2_with fail
  refine (A1.out _).mono ?_
  rintro e w' ⟨rfl, rfl⟩
  go_wp2_with fail
  refine (L2.out _).mono ?_
  rintro e w2 ⟨rfl, hb2⟩
  have B2 := Lib.hid (B1.out.trans (hb2.mono B1.out.size))
  clear hb2
  go_wp2_with fail
  refine (A2.out _).mono ?_
  rintro e w' ⟨rfl, rfl⟩
  go_wp2_with fail
  refine (A3.out _).mono ?_
  rintro e w' ⟨rfl, rfl⟩
  go_wp2
  go_ret
  exact ⟨ret_i (by rw [E.out]), B2.out⟩
set_option maxRecDepth 100000 in
set_option maxHeartbeats 1000000 in
theorem rchain_any (p : Nat) (hp : p < 18446744073709551616) (s : ByteArray) (hs : s.size ≤ 140737488351232) (w : World) :
    Calls Tryd.prog 19 #[.int .u64 p, .string s] w (Gives (.int .u64 (chainOf p s.data.toList : Nat)) w) := by
  have L1 := Lib.hid (fun w' => rlow_any p 8 hp (by decide) w')
  have L2 := Lib.hid (fun w' => rlow_any s.size 8 (by omega) (by decide) w')
  have z1 : (str (lowB p 8)).size = 8 := by rw [str_size, lowB_length]
  have z2 : (str (lowB s.size 8)).size = 8 := by rw [str_size, lowB_length]
  have y1 : (str (lowB p 8)).size ≤ 8 := by omega
  have y2 : (str (lowB s.size 8)).size ≤ 8 := by omega
  have y3 : (str (lowB p 8) ++ str (lowB s.size 8)).size ≤ 16 := by rw [ByteArray.size_append]; omega
  have H : Hid (∀ w', Calls Tryd.prog 17 #[.string (str (lowB p 8) ++ str (lowB s.size 8) ++ s)] w' fun e w'' => e = .returned (.int .u64 (chainOf p s.data.toList : Nat)) ∧ w' = w'') := Lib.hid fun w' => by
    have := rhash_any (str (lowB p 8) ++ str (lowB s.size 8) ++ s) (by rw [ByteArray.size_append, ByteArray.size_append]; omega) w'
    have e : hashOf (str (lowB p 8) ++ str (lowB s.size 8) ++ s).data.toList = chainOf p s.data.toList := by
      unfold hashOf chainOf
      rw [append_data, append_data, str_data, str_data, size_list]
    rw [e] at this
    exact this
  clear z1 z2
  generalize str (lowB p 8) = t1 at *
  generalize str (lowB s.size 8) = t2 at *
  go_enter Tryd.func19, Tryd.ntmps19
  go_wp2_with fail
  refine (L1.out _).mono ?_
  rintro e w1 ⟨rfl, hb1⟩
  have B1 := Lib.hid hb1
  clear hb1
  go_wp2_with fail
  refine (L2.out _).mono ?_
  rintro e w2 ⟨rfl, hb2⟩
  have B2 := Lib.hid (B1.out.trans (hb2.mono B1.out.size))
  clear hb2
  go_wp2_with fail
  refine (H.out _).mono ?_
  rintro e w' ⟨rfl, rfl⟩
  go_wp2
  go_ret
  exact ⟨rfl, B2.out⟩
end Go.Proofs.YtohamhejmmangaaDoor
