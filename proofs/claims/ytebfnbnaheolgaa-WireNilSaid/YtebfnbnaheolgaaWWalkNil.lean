/- The walk of WireNil: no claim of its own. -/
import Derived.Test.YtebfnbnaheolgaaWNil
namespace Go.Proofs.Ytebfnbnaheolgaa
open Go.RowKit
set_option maxRecDepth 100000 in
set_option maxHeartbeats 2000000 in
theorem nil_walk (z : Int) (w : World) (hz : -9223372036854775808 ≤ z ∧ z ≤ 9223372036854775807) :
    Calls Try.prog 8 #[.int .i64 z] w (Gives (.bool true) w) := by
  obtain ⟨x, hx⟩ : ∃ x : Nat, IntKind.u64.wrap z = (x : Int) := ⟨(IntKind.u64.wrap z).toNat, by rw [IntKind.wrap_u64]; omega⟩
  have D : ∀ W : World, Dead W (.pointer none) 6 := fun _ => .inl ⟨rfl, rfl⟩
  have F := Lib.hid (fun W => fail_dead (.pointer none) 6 3 W (D W))
  have U := Lib.hid (fun W => uintR_dead (.pointer none) 6 x W (D W))
  have I := Lib.hid (fun W => intR_dead (.pointer none) 6 W (D W))
  have T := Lib.hid (fun W => textR_dead (.pointer none) 6 z W hz.1 hz.2 (D W))
  have R := Lib.hid (fun W => fractionR_dead none 6 W (D W))
  have S := Lib.hid (fun W => same04_yes false none none none none 0 0 0 0 0 0 0 0 [] [] W (zeroLst W) (zeroLst W) (zeroLst W) (zeroLst W))
  have L := Lib.hid (fun W => left_dead (.pointer none) 6 W (D W))
  have E := Lib.hid (fun W => err_dead (.pointer none) 6 W (D W))
  have N := Lib.hid (fun W => endR_dead (.pointer none) 6 W (D W))
  have LL := Lib.hid lives_wire
  clear hz D
  go_enter Try.func8, Try.ntmps8
  go_wp2_with fail
  refine (F.out _).mono ?_
  rintro e w' ⟨rfl, rfl⟩
  go_wp2_with fail
  refine (U.out _).mono ?_
  rintro e w' ⟨rfl, rfl⟩
  go_wp2_with fail
  refine (I.out _).mono ?_
  rintro e w' ⟨rfl, rfl⟩
  go_wp2_with fail
  refine (T.out _).mono ?_
  rintro e w' ⟨rfl, rfl⟩
  go_wp2_with fail
  refine (R.out _).mono ?_
  rintro e w1 ⟨rfl, hb⟩
  have B1 := Lib.hid hb
  clear hb
  go_wp2_with fail
  refine (S.out _).mono ?_
  rintro e w2 ⟨rfl, hb⟩
  have B2 := Lib.hid (B1.out.trans (hb.mono B1.out.size))
  clear hb B1
  go_wp2_with fail
  refine (L.out _).mono ?_
  rintro e w' ⟨rfl, rfl⟩
  go_wp2_with fail
  refine (E.out _).mono ?_
  rintro e w' ⟨rfl, rfl⟩
  go_wp2_with fail
  refine (N.out _).mono ?_
  rintro e w' ⟨rfl, rfl⟩
  go_wp2_with fail
  refine (LL.out _).mono ?_
  rintro e w3 ⟨rfl, hb⟩
  have B3 := Lib.hid (B2.out.trans (hb.mono B2.out.size))
  clear hb B2
  go_wp2
  go_ret
  exact ⟨rfl, B3.out⟩
end Go.Proofs.Ytebfnbnaheolgaa
