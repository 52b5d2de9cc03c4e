/- The contracts of Text and of a reader's Text: no claim of its own. -/
import Derived.Test.YtebfnbnaheolgaaWUintR
namespace Go.Proofs.Ytebfnbnaheolgaa
open Go.RowKit
set_option maxRecDepth 100000 in
theorem putText_any (s : ByteArray) (hs : s.size ≤ 1000000) (w : World) :
    Calls Try.prog 18 #[.string s] w (Gives (.string (str (leb s.size ++ s.data.toList))) w) := by
  have U := Lib.hid (putUint_any s.size (by omega) w)
  have E : Hid (str (leb s.size) ++ s = str (leb s.size ++ s.data.toList)) := Lib.hid (by rw [← str_append, str_self])
  have L1 := leb_len 10 s.size (by omega) (by decide)
  have z : (str (leb s.size)).size ≤ 10 := by rw [str_size]; exact L1
  clear L1
  generalize str (leb s.size) = t at *
  go_enter Try.func18, Try.ntmps18
  go_wp2_with fail
  refine U.out.mono ?_
  rintro e w1 ⟨rfl, hb⟩
  have B := Lib.hid hb
  clear hb
  have hz : ¬ 9223372036854775807 < t.size + s.size := by omega
  go_wp2
  go_ret
  exact ⟨ret_s E.out, B.out⟩
set_option maxRecDepth 100000 in
theorem rputText_any (s : ByteArray) (hs : s.size ≤ 1000000) (w : World) :
    Calls Try.prog 19 #[.string s] w (Gives (.string (str (leb s.size ++ s.data.toList))) w) := by
  have U := Lib.hid (rputUint_any 10 s.size (by omega) (Nat.lt_of_le_of_lt hs (by decide)) w)
  have E : Hid (str (leb s.size) ++ s = str (leb s.size ++ s.data.toList)) := Lib.hid (by rw [← str_append, str_self])
  have L1 := leb_len 10 s.size (by omega) (by decide)
  have z : (str (leb s.size)).size ≤ 10 := by rw [str_size]; exact L1
  clear L1
  generalize str (leb s.size) = t at *
  go_enter Try.func19, Try.ntmps19
  go_wp2_with fail
  refine U.out.mono ?_
  rintro e w1 ⟨rfl, hb⟩
  have B := Lib.hid hb
  clear hb
  have hz : ¬ 9223372036854775807 < t.size + s.size := by omega
  go_wp2
  go_ret
  exact ⟨ret_s E.out, B.out⟩
/-- What Text reads: the text, the bytes left, the error. -/
def textS (l : List UInt8) (most : Int) : List UInt8 × List UInt8 × Nat :=
  if (uintS l most.toNat).2.2 ≠ 0 then ([], [], (uintS l most.toNat).2.2) else if most < 0 then ([], [], 4)
  else if (uintS l most.toNat).2.1.length < (uintS l most.toNat).1 then ([], [], 1)
  else ((uintS l most.toNat).2.1.take (uintS l most.toNat).1, (uintS l most.toNat).2.1.drop (uintS l most.toNat).1, 0)
set_option maxRecDepth 100000 in
theorem textR_dead (v : Value) (e most : Int) (w : World) (hm0 : -9223372036854775808 ≤ most) (hm1 : most ≤ 9223372036854775807) (h : Dead w v e) :
    Calls Try.prog 20 #[v, .int .i64 most] w fun en w' => en = .returned (.string ⟨#[]⟩) ∧ w = w' := by
  have U := Lib.hid (uintR_dead v e most.toNat w h)
  have E := Lib.hid (err_dead v e w h)
  have F := Lib.hid (fail_dead v e 4 w h)
  have L := Lib.hid (left_dead v e w h)
  have n0 : (e != 0) = true := bne_iff_ne.2 h.ne
  clear h
  by_cases hm : most < 0
  · have e1 : most.toNat = 0 := by omega
    rw [e1] at U
    clear e1
    go_enter Try.func20, Try.ntmps20
    go_wp2_with fail
    refine U.out.mono ?_
    rintro en w' ⟨rfl, rfl⟩
    go_wp2_with fail
    refine F.out.mono ?_
    rintro en w' ⟨rfl, rfl⟩
    go_wp2_with fail
    refine L.out.mono ?_
    rintro en w' ⟨rfl, rfl⟩
    go_wp2_with fail
    refine E.out.mono ?_
    rintro en w' ⟨rfl, rfl⟩
    go_wp2
    go_ret
    exact ⟨rfl, rfl⟩
  · obtain ⟨m, rfl⟩ := Int.eq_ofNat_of_zero_le (show 0 ≤ most by omega)
    rw [Int.toNat_natCast] at U
    go_enter Try.func20, Try.ntmps20
    go_wp2_with fail
    refine U.out.mono ?_
    rintro en w' ⟨rfl, rfl⟩
    go_wp2_with fail
    refine L.out.mono ?_
    rintro en w' ⟨rfl, rfl⟩
    go_wp2_with fail
    refine E.out.mono ?_
    rintro en w' ⟨rfl, rfl⟩
    go_wp2
    go_ret
    exact ⟨rfl, rfl⟩
end Go.Proofs.Ytebfnbnaheolgaa
