/- The examples of the chapter: no claim of its own. -/
import Derived.Test.YtebfnbnaheolgaaWFrac
import Derived.Test.YtebfnbnaheolgaaWTextR
namespace Go.Proofs.Ytebfnbnaheolgaa
open Go.RowKit
theorem leb_300 : leb 300 = [172, 2] := by rw [leb_big (by decide), leb_small (by decide)]; rfl
theorem lit_int (w : World) : Calls Try.prog 10 #[.int .i64 (-1)] w (Gives (.string ⟨#[1]⟩) w) := by
  have h := putInt_any (-1) (by decide) (by decide) w
  rwa [show foldN (-1) = 1 by decide, leb_small (by decide)] at h
theorem lit_text (w : World) : Calls Try.prog 18 #[.string ⟨#[97, 98]⟩] w (Gives (.string ⟨#[2, 97, 98]⟩) w) := by
  have h := putText_any ⟨#[97, 98]⟩ (by decide) w
  rwa [show (⟨#[97, 98]⟩ : ByteArray).size = 2 from rfl, leb_small (by decide)] at h
theorem lit_uint (w : World) : Calls Try.prog 9 #[.int .u64 300] w (Gives (.string ⟨#[172, 2]⟩) w) := by
  have h := putUint_any 300 (by decide) w
  rwa [leb_300] at h
theorem one_lst (w : World) (g : Nat) (d : Nat) (hd : d < 4294967296) (h : w.heap[g]? = some (.cells #[.int .u32 d] 63 (0, 0))) : Lst w (some ⟨g, 0, none⟩) 1 1 [d] := by
  refine ⟨⟨rfl, fun _ => ⟨_, rfl, (Array.getElem?_eq_some_iff.1 h).1, fun j u hu => ?_⟩⟩, rfl, Nat.le_refl _, by decide, by simpa using hd⟩
  match j, hu with
  | 0, hu =>
    simp [Dg] at hu
    subst hu
    rw [add_zero_, cell_of_row w g 0 _ _ _ h]; rfl
theorem frac_lit : str (fracEnc true [3] [4]) = ⟨#[1, 1, 3, 1, 4]⟩ := by
  unfold fracEnc natEnc
  rw [show sg true = 1 from rfl]
  simp only [List.length_cons, List.length_nil, List.flatMap_cons, List.flatMap_nil, List.append_nil]
  rw [leb_small (x := 1) (by decide), leb_small (x := 3) (by decide), leb_small (x := 4) (by decide)]
  rfl
set_option maxRecDepth 100000 in
set_option maxHeartbeats 2000000 in
theorem lives_wire (w : World) : Calls Try.prog 17 #[] w (Gives (.bool true) w) := by
  have B0 := Lib.hid (Below.refl w.heap.size w)
  have L1 := Lib.hid lit_int
  have L2 := Lib.hid lit_text
  have L3 := Lib.hid lit_uint
  have c1 : (⟨#[1]⟩ : ByteArray) ++ ⟨#[2, 97, 98]⟩ = ⟨#[1, 2, 97, 98]⟩ := rfl
  have c2 : (⟨#[1, 2, 97, 98]⟩ : ByteArray) ++ ⟨#[172, 2]⟩ = ⟨#[1, 2, 97, 98, 172, 2]⟩ := rfl
  go_enter Try.func17, Try.ntmps17
  go_wp2_with fail
  refine (L1.out _).mono ?_
  rintro e w1 ⟨rfl, hb⟩
  have B1 := Lib.hid (B0.out.trans (hb.mono B0.out.size))
  clear hb B0
  go_wp2_with fail
  refine (L2.out _).mono ?_
  rintro e w2 ⟨rfl, hb⟩
  have B2 := Lib.hid (B1.out.trans (hb.mono B1.out.size))
  clear hb B1
  go_wp2_with fail
  refine (L3.out _).mono ?_
  rintro e w3 ⟨rfl, hb⟩
  have B3 := Lib.hid (B2.out.trans (hb.mono B2.out.size))
  clear hb B2
  go_wp2_with fail
  have bx := (below_new w3 (.cells #[.int .u32 3] 63)).alloc (by simp) (.cells #[.int .u32 4] 63)
  have X := one_lst ((w3.alloc (.cells #[.int .u32 3] 63)).alloc (.cells #[.int .u32 4] 63)) w3.heap.size 3 (by decide) (by
    rw [Below.heap_alloc _ _ _ (by simp)]; exact heap_new w3 _)
  have Y := one_lst ((w3.alloc (.cells #[.int .u32 3] 63)).alloc (.cells #[.int .u32 4] 63)) (w3.heap.size + 1) 4 (by decide) (by
    have := heap_new (w3.alloc (.cells #[.int .u32 3] 63)) (.cells #[.int .u32 4] 63)
    simpa using this)
  have PF := putFrac_any true _ _ 1 1 1 1 [3] [4] _ X Y (by decide) (by decide)
  rw [frac_lit] at PF
  have B4 := Lib.hid (B3.out.trans (bx.mono B3.out.size))
  clear bx X Y B3
  refine PF.mono ?_
  rintro e w5 ⟨rfl, hb⟩
  have B5 := Lib.hid (B4.out.trans (hb.mono B4.out.size))
  clear hb B4 PF
  go_wp2_with fail
  refine (newReader_any _ _).mono ?_
  rintro e w6 ⟨rfl, rfl⟩
  have R0 := RP.new w5 ⟨#[1, 2, 97, 98, 172, 2]⟩
  have B6 := B5.out.alloc B5.out.size (.cells #[.string ⟨#[1, 2, 97, 98, 172, 2]⟩, .int .i64 0] 59)
  have hg : w.heap.size ≤ w5.heap.size := B5.out.size
  clear B5
  generalize w5.heap.size = g at *
  generalize w5.alloc (.cells #[.string ⟨#[1, 2, 97, 98, 172, 2]⟩, .int .i64 0] 59) = w6 at *
  have BB := Lib.hid B6
  have I : Hid (Calls Try.prog 15 #[.pointer (some ⟨g, 0, none⟩)] w6 (Rd (.int .i64 (-1)) g [2, 97, 98, 172, 2] 0 w6)) := Lib.hid (by
    have h := intR_any g _ w6 R0 (by decide)
    rw [show uintS (⟨#[1, 2, 97, 98, 172, 2]⟩ : ByteArray).data.toList 18446744073709551615 = (1, [2, 97, 98, 172, 2], 0) by decide] at h
    exact h)
  have T : Hid (∀ W, RP W g [2, 97, 98, 172, 2] 0 → Calls Try.prog 20 #[.pointer (some ⟨g, 0, none⟩), .int .i64 2] W (Rd (.string ⟨#[97, 98]⟩) g [172, 2] 0 W)) := Lib.hid (fun W hr => by
    have h := textR_any g _ 2 W (by decide) (by decide) hr (by decide)
    rw [show textS ([2, 97, 98, 172, 2] : List UInt8) 2 = ([97, 98], [172, 2], 0) by decide] at h
    exact h)
  have U : Hid (∀ W, RP W g [172, 2] 0 → Calls Try.prog 14 #[.pointer (some ⟨g, 0, none⟩), .int .u64 300] W (Rd (.int .u64 300) g [] 0 W)) := Lib.hid (fun W hr => by
    have h := uintR_any g _ 300 W hr (by decide)
    rw [show uintS ([172, 2] : List UInt8) 300 = (300, [], 0) by decide] at h
    exact h)
  have E := Lib.hid (fun W hr => endR_done g W hr)
  clear R0 B6
  go_wp2_with fail
  refine I.out.mono ?_
  rintro e w7 ⟨rfl, hr, hG⟩
  have B7 := Lib.hid (BB.out.trans (grown_below hG hg BB.out.size))
  have R7 := Lib.hid hr
  clear hr hG BB I
  go_wp2_with fail
  refine (T.out _ R7.out).mono ?_
  rintro e w8 ⟨rfl, hr, hG⟩
  have B8 := Lib.hid (B7.out.trans (grown_below hG hg B7.out.size))
  have R8 := Lib.hid hr
  clear hr hG B7 T
  go_wp2_with fail
  refine (U.out _ R8.out).mono ?_
  rintro e w9 ⟨rfl, hr, hG⟩
  have B9 := Lib.hid (B8.out.trans (grown_below hG hg B8.out.size))
  have R9 := Lib.hid hr
  clear hr hG B8 U
  go_wp2_with fail
  refine (E.out _ R9.out).mono ?_
  rintro e w' ⟨rfl, rfl⟩
  go_wp2
  go_ret
  exact ⟨rfl, B9.out⟩
end Go.Proofs.Ytebfnbnaheolgaa
