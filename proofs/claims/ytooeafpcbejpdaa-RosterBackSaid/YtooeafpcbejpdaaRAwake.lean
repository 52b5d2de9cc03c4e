/- three and awake of chapter 9's law: no claim of its own. -/
import Derived.Test.YtooeafpcbejpdaaRCheck
import Derived.Test.YtooeafpcbejpdaaRClass
import Derived.Test.YtooeafpcbejpdaaRSmall
import Derived.Test.YtooeafpcbejpdaaRMem
import Derived.Test.YtooeafpcbejpdaaRNames
import Derived.Test.YtooeafpcbejpdaaRSetsL
namespace Go.Proofs.Ytooeafpcbejpdaa
open Go.RowKit
open MR (Bd)
def threeL : List Bd := [⟨[97, 110, 110], 1, 0, 0⟩, ⟨[98, 111, 98], 0, 0, 0⟩, ⟨[99, 121, 100], 1, 0, 0⟩]
theorem bd_fine {L : List Bd} (h : ∀ p ∈ L, p.name.length ≤ 100 ∧ (0 ≤ p.cls ∧ p.cls ≤ 100) ∧ (0 ≤ p.budget ∧ p.budget ≤ 100) ∧ (0 ≤ p.points ∧ p.points ≤ 100)) : bdE.Fine L := fun p hp => by
  obtain ⟨h1, h2, h3, h4⟩ := h p hp
  exact ⟨by omega, ⟨by omega, by omega⟩, ⟨by omega, by omega⟩, by omega, by omega⟩
theorem str_fine {L : List (List UInt8)} (h : ∀ x ∈ L, x.length ≤ 100) : strE.Fine L := fun x hx => Nat.le_trans (h x hx) (by decide)
theorem int_fine {L : List Int} (h : ∀ x ∈ L, 0 ≤ x ∧ x ≤ 100) : intE.Fine L := fun x hx => by
  obtain ⟨h1, h2⟩ := h x hx
  exact ⟨by omega, by omega⟩
set_option maxRecDepth 100000 in
theorem three_any (w : World) : Calls Try.prog 26 #[] w (GivesL bdE threeL w) := by
  go_enter Try.func26, Try.ntmps26
  go_wp2
  go_ret
  exact ⟨_, 3, 3, rfl, Lst.lit threeL 3 (heap_new w _) rfl rfl (by decide) (bd_fine (by decide)), below_new w _⟩
theorem m1_ex : MR.membersL threeL [[99, 121, 100], [97, 110, 110]] = (5, 0) := by decide +kernel
theorem m2_ex : MR.membersL threeL [[100, 97, 110]] = (0, 6) := by decide +kernel
theorem m3_ex : MR.membersL threeL [[97, 110, 110], [97, 110, 110]] = (0, 7) := by decide +kernel
theorem f_ex : MR.findL threeL [98, 111, 98] = some 1 := by decide +kernel
theorem c_ex : MR.chkL threeL = 0 := by decide +kernel
theorem n_ex : MR.namesL threeL 5 = [[97, 110, 110], [99, 121, 100]] := by decide +kernel
theorem k_ex : MR.classK threeL 1 3 = [0, 2] := by decide +kernel
theorem s_ex : (MR.setsL 1).take (10 : Int).toNat = [0, 1] := by decide +kernel
set_option maxRecDepth 100000 in
set_option maxHeartbeats 4000000 in
theorem awake_any (w : World) : Calls Try.prog 11 #[] w (Gives (.bool true) w) := by
  go_enter Try.func11, Try.ntmps11
  go_wp2_with fail
  refine (three_any w).mono ?_
  rintro e w1 ⟨A, n, c, rfl, hl, hb⟩
  obtain rfl : 3 = n := hl.len
  have HL := Lib.hid hl
  have W1 := Lib.hid hb
  have B1 := Lib.hid (Below.refl w1.heap.size w1)
  clear hl hb
  have P1 : Hid (Calls Try.prog 19 #[.slice A 3 c, .slice (some ⟨w1.heap.size, 0, none⟩) 2 2] (w1.alloc (.cells #[.string ⟨#[99, 121, 100]⟩, .string ⟨#[97, 110, 110]⟩] 9)) (Gives (.tuple #[.int .i64 5, .int .i64 0]) (w1.alloc (.cells #[.string ⟨#[99, 121, 100]⟩, .string ⟨#[97, 110, 110]⟩] 9)))) := Lib.hid (by
    have := members_any A 3 c threeL (some ⟨w1.heap.size, 0, none⟩) 2 2 [[99, 121, 100], [97, 110, 110]] (w1.alloc (.cells #[.string ⟨#[99, 121, 100]⟩, .string ⟨#[97, 110, 110]⟩] 9)) (HL.out.keep (B1.out.alloc B1.out.size _)) (Lst.lit [[99, 121, 100], [97, 110, 110]] 2 (heap_new w1 _) rfl rfl (by decide) (str_fine (by decide)))
    rw [m1_ex] at this
    exact this)
  have B1a := Lib.hid (B1.out.alloc B1.out.size (.cells #[.string ⟨#[99, 121, 100]⟩, .string ⟨#[97, 110, 110]⟩] 9))
  go_wp2_with fail
  refine P1.out.mono ?_
  rintro e w2 ⟨rfl, hb⟩
  have B2 := Lib.hid (B1a.out.trans (hb.mono B1a.out.size))
  clear hb P1 B1a B1
  have P2 : Hid (Calls Try.prog 19 #[.slice A 3 c, .slice (some ⟨w2.heap.size, 0, none⟩) 1 1] (w2.alloc (.cells #[.string ⟨#[100, 97, 110]⟩] 9)) (Gives (.tuple #[.int .i64 0, .int .i64 6]) (w2.alloc (.cells #[.string ⟨#[100, 97, 110]⟩] 9)))) := Lib.hid (by
    have := members_any A 3 c threeL (some ⟨w2.heap.size, 0, none⟩) 1 1 [[100, 97, 110]] (w2.alloc (.cells #[.string ⟨#[100, 97, 110]⟩] 9)) (HL.out.keep (B2.out.alloc B2.out.size _)) (Lst.lit [[100, 97, 110]] 1 (heap_new w2 _) rfl rfl (by decide) (str_fine (by decide)))
    rw [m2_ex] at this
    exact this)
  have B2a := Lib.hid (B2.out.alloc B2.out.size (.cells #[.string ⟨#[100, 97, 110]⟩] 9))
  go_wp2_with fail
  refine P2.out.mono ?_
  rintro e w3 ⟨rfl, hb⟩
  have B3 := Lib.hid (B2a.out.trans (hb.mono B2a.out.size))
  clear hb P2 B2a B2
  have P3 : Hid (Calls Try.prog 19 #[.slice A 3 c, .slice (some ⟨w3.heap.size, 0, none⟩) 2 2] (w3.alloc (.cells #[.string ⟨#[97, 110, 110]⟩, .string ⟨#[97, 110, 110]⟩] 9)) (Gives (.tuple #[.int .i64 0, .int .i64 7]) (w3.alloc (.cells #[.string ⟨#[97, 110, 110]⟩, .string ⟨#[97, 110, 110]⟩] 9)))) := Lib.hid (by
    have := members_any A 3 c threeL (some ⟨w3.heap.size, 0, none⟩) 2 2 [[97, 110, 110], [97, 110, 110]] (w3.alloc (.cells #[.string ⟨#[97, 110, 110]⟩, .string ⟨#[97, 110, 110]⟩] 9)) (HL.out.keep (B3.out.alloc B3.out.size _)) (Lst.lit [[97, 110, 110], [97, 110, 110]] 2 (heap_new w3 _) rfl rfl (by decide) (str_fine (by decide)))
    rw [m3_ex] at this
    exact this)
  have B3a := Lib.hid (B3.out.alloc B3.out.size (.cells #[.string ⟨#[97, 110, 110]⟩, .string ⟨#[97, 110, 110]⟩] 9))
  go_wp2_with fail
  refine P3.out.mono ?_
  rintro e w4 ⟨rfl, hb⟩
  have B4 := Lib.hid (B3a.out.trans (hb.mono B3a.out.size))
  clear hb P3 B3a B3
  have P4 : Hid (Calls Try.prog 15 #[.slice A 3 c, .string ⟨#[98, 111, 98]⟩] w4 (Gives (.tuple #[.int .i64 1, .bool true]) w4)) := Lib.hid (by
    have := find_any A 3 c threeL [98, 111, 98] w4 (HL.out.keep B4.out)
    rw [f_ex] at this
    exact this)
  go_wp2_with fail
  refine P4.out.mono ?_
  rintro e w5 ⟨rfl, hb⟩
  have B5 := Lib.hid (B4.out.trans (hb.mono B4.out.size))
  clear hb P4 B4
  have P5 := Lib.hid (lsets_any 1 10 w5)
  rw [s_ex] at P5
  go_wp2_with fail
  refine P5.out.mono ?_
  rintro e w6 ⟨S, ns, cs, rfl, hs, hb⟩
  obtain rfl : 2 = ns := hs.len
  have B6 := Lib.hid (B5.out.trans (hb.mono B5.out.size))
  have S6 := Lib.hid hs
  clear hb P5 B5 hs
  have P6 := Lib.hid (check_any A 3 c threeL w6 (HL.out.keep B6.out))
  rw [c_ex] at P6
  go_wp2_with fail
  refine P6.out.mono ?_
  rintro e w7 ⟨rfl, hb⟩
  have B7 := Lib.hid (B6.out.trans (hb.mono B6.out.size))
  have S7 := Lib.hid (S6.out.keep hb)
  clear hb P6 B6 S6
  have P7 := Lib.hid (check_any none 0 0 [] w7 (Lst.nil w7))
  rw [show MR.chkL [] = 1 from rfl] at P7
  go_wp2_with fail
  refine P7.out.mono ?_
  rintro e w8 ⟨rfl, hb⟩
  have B8 := Lib.hid (B7.out.trans (hb.mono B7.out.size))
  have S8 := Lib.hid (S7.out.keep hb)
  clear hb P7 B7 S7
  have P8 := Lib.hid (names_any A 3 c threeL 5 w8 (HL.out.keep B8.out))
  rw [n_ex] at P8
  go_wp2_with fail
  refine P8.out.mono ?_
  rintro e w9 ⟨T, nt, ct, rfl, ht, hb⟩
  obtain rfl : 2 = nt := ht.len
  have B9 := Lib.hid (B8.out.trans (hb.mono B8.out.size))
  have S9 := Lib.hid (S8.out.keep hb)
  have P9 := Lib.hid (sameTexts_yes T (some ⟨w9.heap.size, 0, none⟩) 2 ct 2 2 [[97, 110, 110], [99, 121, 100]] (w9.alloc (.cells #[.string ⟨#[97, 110, 110]⟩, .string ⟨#[99, 121, 100]⟩] 9)) (ht.keep (below_new _ _)) (Lst.lit [[97, 110, 110], [99, 121, 100]] 2 (heap_new w9 _) rfl rfl (by decide) (str_fine (by decide))))
  have B9a := Lib.hid (B9.out.alloc B9.out.size (.cells #[.string ⟨#[97, 110, 110]⟩, .string ⟨#[99, 121, 100]⟩] 9))
  have S9a := Lib.hid (S9.out.keep (below_new w9 (.cells #[.string ⟨#[97, 110, 110]⟩, .string ⟨#[99, 121, 100]⟩] 9)))
  clear hb P8 B8 S8 ht B9 S9
  go_wp2_with fail
  refine P9.out.mono ?_
  rintro e w10 ⟨rfl, hb⟩
  have B10 := Lib.hid (B9a.out.trans (hb.mono B9a.out.size))
  have S10 := Lib.hid (S9a.out.keep hb)
  clear hb P9 B9a S9a
  have P10 := Lib.hid (class_any A 3 c threeL 1 w10 (HL.out.keep B10.out) (by decide))
  rw [k_ex] at P10
  go_wp2_with fail
  refine P10.out.mono ?_
  rintro e w11 ⟨U, nu, cu, rfl, hu, hb⟩
  obtain rfl : 2 = nu := hu.len
  have B11 := Lib.hid (B10.out.trans (hb.mono B10.out.size))
  have S11 := Lib.hid (S10.out.keep hb)
  have P11 := Lib.hid (sameInts_yes U (some ⟨w11.heap.size, 0, none⟩) 2 cu 2 2 [0, 2] (w11.alloc (.cells #[.int .i64 0, .int .i64 2] 3)) (hu.keep (below_new _ _)) (Lst.lit [0, 2] 2 (heap_new w11 _) rfl rfl (by decide) (int_fine (by decide))))
  have B11a := Lib.hid (B11.out.alloc B11.out.size (.cells #[.int .i64 0, .int .i64 2] 3))
  have S11a := Lib.hid (S11.out.keep (below_new w11 (.cells #[.int .i64 0, .int .i64 2] 3)))
  clear hb P10 B10 S10 hu B11 S11
  go_wp2_with fail
  refine P11.out.mono ?_
  rintro e w12 ⟨rfl, hb⟩
  have B12 := Lib.hid (B11a.out.trans (hb.mono B11a.out.size))
  have S12 := Lib.hid (S11a.out.keep hb)
  clear hb P11 B11a S11a
  have P12 := Lib.hid (sameInts_yes S (some ⟨w12.heap.size, 0, none⟩) 2 cs 2 2 [0, 1] (w12.alloc (.cells #[.int .i64 0, .int .i64 1] 3)) (S12.out.keep (below_new _ _)) (Lst.lit [0, 1] 2 (heap_new w12 _) rfl rfl (by decide) (int_fine (by decide))))
  have B12a := Lib.hid (B12.out.alloc B12.out.size (.cells #[.int .i64 0, .int .i64 1] 3))
  clear S12 B12
  go_wp2_with fail
  refine P12.out.mono ?_
  rintro e w13 ⟨rfl, hb⟩
  have B13 := Lib.hid (B12a.out.trans (hb.mono B12a.out.size))
  clear hb P12 B12a
  go_wp2
  go_ret
  exact ⟨rfl, W1.out.trans (B13.out.mono W1.out.size)⟩
end Go.Proofs.Ytooeafpcbejpdaa
