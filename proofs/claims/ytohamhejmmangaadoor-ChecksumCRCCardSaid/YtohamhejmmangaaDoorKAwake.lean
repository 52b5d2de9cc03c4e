/- awake of chapter 3's law: no claim of its own. -/
import Derived.Test.YtohamhejmmangaaDoorKOpen
import Derived.Test.YtohamhejmmangaaDoorKChain
import Derived.Test.YtohamhejmmangaaDoorKRUnhex
namespace Go.Proofs.YtohamhejmmangaaDoor
open Go.RowKit
theorem lit_open0 (w : World) (ht : Tab w) : Calls Tryd.prog 20 #[.string ⟨#[0, 0, 0, 0]⟩] w (Gives (.tuple #[.string ⟨#[]⟩, .int .i64 0]) w) := by
  have := open_any ⟨#[0, 0, 0, 0]⟩ (by decide) w ht
  rw [show openErr (⟨#[0, 0, 0, 0]⟩ : ByteArray).data.toList = 0 by decide +kernel, show openText (⟨#[0, 0, 0, 0]⟩ : ByteArray).data.toList = [] by decide +kernel] at this
  exact this
theorem lit_open1 (w : World) (ht : Tab w) : Calls Tryd.prog 20 #[.string ⟨#[0, 0, 0, 1]⟩] w (Gives (.tuple #[.string ⟨#[]⟩, .int .i64 11]) w) := by
  have := open_any ⟨#[0, 0, 0, 1]⟩ (by decide) w ht
  rw [show openErr (⟨#[0, 0, 0, 1]⟩ : ByteArray).data.toList = 11 by decide +kernel, show openText (⟨#[0, 0, 0, 1]⟩ : ByteArray).data.toList = [] by decide +kernel] at this
  exact this
theorem lit_open3 (w : World) (ht : Tab w) : Calls Tryd.prog 20 #[.string ⟨#[97, 98, 99]⟩] w (Gives (.tuple #[.string ⟨#[]⟩, .int .i64 1]) w) := by
  have := open_any ⟨#[97, 98, 99]⟩ (by decide) w ht
  rw [show openErr (⟨#[97, 98, 99]⟩ : ByteArray).data.toList = 1 by decide +kernel, show openText (⟨#[97, 98, 99]⟩ : ByteArray).data.toList = [] by decide +kernel] at this
  exact this
theorem lit_unhex (w : World) : Calls Tryd.prog 24 #[.string ⟨#[48, 48, 48, 48, 48, 48, 48, 48, 48, 48, 48, 48, 48, 48, 102, 102]⟩] w (Gives (.tuple #[.int .u64 255, .int .i64 0]) w) := by
  have := unhex_any ⟨#[48, 48, 48, 48, 48, 48, 48, 48, 48, 48, 48, 48, 48, 48, 102, 102]⟩ (by decide) w
  rw [show unhexErr (⟨#[48, 48, 48, 48, 48, 48, 48, 48, 48, 48, 48, 48, 48, 48, 102, 102]⟩ : ByteArray).data.toList = 0 by decide +kernel, show unhexVal (⟨#[48, 48, 48, 48, 48, 48, 48, 48, 48, 48, 48, 48, 48, 48, 102, 102]⟩ : ByteArray).data.toList = 255 by decide +kernel] at this
  exact this
theorem lit_unhexFF (w : World) : Calls Tryd.prog 24 #[.string ⟨#[48, 48, 48, 48, 48, 48, 48, 48, 48, 48, 48, 48, 48, 48, 70, 70]⟩] w (Gives (.tuple #[.int .u64 0, .int .i64 2]) w) := by
  have := unhex_any ⟨#[48, 48, 48, 48, 48, 48, 48, 48, 48, 48, 48, 48, 48, 48, 70, 70]⟩ (by decide) w
  rw [show unhexErr (⟨#[48, 48, 48, 48, 48, 48, 48, 48, 48, 48, 48, 48, 48, 48, 70, 70]⟩ : ByteArray).data.toList = 2 by decide +kernel, show unhexVal (⟨#[48, 48, 48, 48, 48, 48, 48, 48, 48, 48, 48, 48, 48, 48, 70, 70]⟩ : ByteArray).data.toList = 0 by decide +kernel] at this
  exact this
theorem lit_crc9 (w : World) (ht : Tab w) : Calls Tryd.prog 11 #[.string ⟨#[49, 50, 51, 52, 53, 54, 55, 56, 57]⟩] w fun e w' => e = .returned (.int .u32 3808858755) ∧ w = w' := by
  have := crc_any ⟨#[49, 50, 51, 52, 53, 54, 55, 56, 57]⟩ (by decide) w ht
  rw [show crcOf 0 (⟨#[49, 50, 51, 52, 53, 54, 55, 56, 57]⟩ : ByteArray).data.toList = 3808858755 by decide +kernel] at this
  exact this
theorem lit_crc3 (w : World) (ht : Tab w) : ∃ c : Nat, c < 4294967296 ∧ (Calls Tryd.prog 11 #[.string ⟨#[49, 50, 51]⟩] w fun e w' => e = .returned (.int .u32 c) ∧ w = w') ∧
    Calls Tryd.prog 13 #[.int .u32 c, .string ⟨#[52, 53, 54, 55, 56, 57]⟩] w fun e w' => e = .returned (.int .u32 3808858755) ∧ w = w' := by
  refine ⟨crcOf 0 (⟨#[49, 50, 51]⟩ : ByteArray).data.toList, crcOf_lt _ _, crc_any ⟨#[49, 50, 51]⟩ (by decide) w ht, ?_⟩
  have := update_any (crcOf 0 (⟨#[49, 50, 51]⟩ : ByteArray).data.toList) (crcOf_lt _ _) ⟨#[52, 53, 54, 55, 56, 57]⟩ (by decide) w ht
  rw [show crcOf (crcOf 0 (⟨#[49, 50, 51]⟩ : ByteArray).data.toList) (⟨#[52, 53, 54, 55, 56, 57]⟩ : ByteArray).data.toList = 3808858755 by decide +kernel] at this
  exact this
theorem lit_hash (w : World) : Calls Tryd.prog 16 #[.string ⟨#[97]⟩] w fun e w' => e = .returned (.int .u64 12638187200555641996) ∧ w = w' := by
  have := hash_any ⟨#[97]⟩ (by decide) w
  rw [show hashOf (⟨#[97]⟩ : ByteArray).data.toList = 12638187200555641996 by decide +kernel] at this
  exact this
theorem lit_hex (w : World) : Calls Tryd.prog 25 #[.int .u64 255] w (Gives (.string ⟨#[48, 48, 48, 48, 48, 48, 48, 48, 48, 48, 48, 48, 48, 48, 102, 102]⟩) w) := by
  have := hex_any 255 (by decide) w
  rw [show hexOf 255 = [48, 48, 48, 48, 48, 48, 48, 48, 48, 48, 48, 48, 48, 48, 102, 102] by decide +kernel] at this
  exact this
theorem lit_seal (w : World) (ht : Tab w) : Calls Tryd.prog 22 #[.string ⟨#[49, 50, 51, 52, 53, 54, 55, 56, 57]⟩] w (Gives (.string ⟨#[131, 146, 6, 227, 49, 50, 51, 52, 53, 54, 55, 56, 57]⟩) w) := by
  have := seal_any ⟨#[49, 50, 51, 52, 53, 54, 55, 56, 57]⟩ (by decide) w ht
  rw [show sealOf (⟨#[49, 50, 51, 52, 53, 54, 55, 56, 57]⟩ : ByteArray).data.toList ++ (⟨#[49, 50, 51, 52, 53, 54, 55, 56, 57]⟩ : ByteArray).data.toList = [131, 146, 6, 227, 49, 50, 51, 52, 53, 54, 55, 56, 57] by decide +kernel] at this
  exact this
set_option maxRecDepth 100000 in
set_option maxHeartbeats 2000000 in
theorem awake_any (w : World) (ht : Tab w) : Calls Tryd.prog 15 #[] w (Gives (.bool true) w) := by
  have B0 := Lib.hid (Below.refl w.heap.size w)
  have T0 := Lib.hid ht
  clear ht
  go_enter Tryd.func15, Tryd.ntmps15
  go_wp2_with fail
  refine (lit_open0 _ T0.out).mono ?_
  rintro e w1 ⟨rfl, hb⟩
  have T1 := Lib.hid (T0.out.keep hb (Nat.le_refl _))
  have B1 := Lib.hid (B0.out.trans (hb.mono B0.out.size))
  clear hb T0 B0
  go_wp2_with fail
  refine (lit_open1 _ T1.out).mono ?_
  rintro e w2 ⟨rfl, hb⟩
  have T2 := Lib.hid (T1.out.keep hb (Nat.le_refl _))
  have B2 := Lib.hid (B1.out.trans (hb.mono B1.out.size))
  clear hb T1 B1
  go_wp2_with fail
  refine (lit_open3 _ T2.out).mono ?_
  rintro e w3 ⟨rfl, hb⟩
  have T3 := Lib.hid (T2.out.keep hb (Nat.le_refl _))
  have B3 := Lib.hid (B2.out.trans (hb.mono B2.out.size))
  clear hb T2 B2
  go_wp2_with fail
  refine (lit_unhex _).mono ?_
  rintro e w4 ⟨rfl, hb⟩
  have T4 := Lib.hid (T3.out.keep hb (Nat.le_refl _))
  have B4 := Lib.hid (B3.out.trans (hb.mono B3.out.size))
  clear hb T3 B3
  go_wp2_with fail
  refine (lit_unhexFF _).mono ?_
  rintro e w5 ⟨rfl, hb⟩
  have T5 := Lib.hid (T4.out.keep hb (Nat.le_refl _))
  have B5 := Lib.hid (B4.out.trans (hb.mono B4.out.size))
  clear hb T4 B4
  obtain ⟨c, hc, hc1, hc2⟩ := lit_crc3 w5 T5.out
  have C1 := Lib.hid hc1
  have C2 := Lib.hid hc2
  clear hc1 hc2
  go_wp2_with fail
  refine (lit_crc9 _ T5.out).mono ?_
  rintro e w' ⟨rfl, rfl⟩
  go_wp2_with fail
  refine C1.out.mono ?_
  rintro e w' ⟨rfl, rfl⟩
  go_wp2_with fail
  refine C2.out.mono ?_
  rintro e w' ⟨rfl, rfl⟩
  go_wp2_with fail
  refine (lit_hash _).mono ?_
  rintro e w' ⟨rfl, rfl⟩
  go_wp2_with fail
  refine (lit_hex _).mono ?_
  rintro e w6 ⟨rfl, hb⟩
  have T6 := Lib.hid (T5.out.keep hb (Nat.le_refl _))
  have B6 := Lib.hid (B5.out.trans (hb.mono B5.out.size))
  clear hb T5 B5
  go_wp2_with fail
  refine (lit_seal _ T6.out).mono ?_
  rintro e w7 ⟨rfl, hb⟩
  have B7 := Lib.hid (B6.out.trans (hb.mono B6.out.size))
  clear hb T6 B6
  go_wp2
  go_ret
  exact ⟨rfl, B7.out⟩
theorem few_any (s : ByteArray) (w : World) :
    Calls Tryd.prog 10 #[.string s] w fun e w' => e = .returned (.bool (decide ((s.size : Int) ≤ 6000))) ∧ w = w' := by
  go_enter Tryd.func10, Tryd.ntmps10
  go_wp2
  go_ret
  exact ⟨rfl, rfl⟩
theorem few_no (s : ByteArray) (h : 6000 < s.size) (w : World) :
    Calls Tryd.prog 10 #[.string s] w fun e w' => e = .returned (.bool false) ∧ w = w' := by
  have := few_any s w
  rwa [decide_eq_false (by omega)] at this
theorem few_yes (s : ByteArray) (h : s.size ≤ 6000) (w : World) :
    Calls Tryd.prog 10 #[.string s] w fun e w' => e = .returned (.bool true) ∧ w = w' := by
  have := few_any s w
  rwa [decide_eq_true (by omega)] at this
end Go.Proofs.YtohamhejmmangaaDoor
