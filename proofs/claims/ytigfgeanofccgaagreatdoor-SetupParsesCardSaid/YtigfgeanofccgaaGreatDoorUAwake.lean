/- awake of chapter 10's law: no claim of its own. -/
import Derived.Test.YtigfgeanofccgaaGreatDoorJPr
import Derived.Test.YtigfgeanofccgaaGreatDoorJBb
import Derived.Test.YtigfgeanofccgaaGreatDoorUPFmt
import Derived.Test.YtigfgeanofccgaaGreatDoorJPo
import Derived.Test.YtigfgeanofccgaaGreatDoorJPl
import Derived.Test.YtigfgeanofccgaaGreatDoorJPe
namespace Go.Proofs.YtigfgeanofccgaaGreatDoor
open Go.RowKit
open MU (Su Cp As)
theorem f_ex : MU.fmtS smallU = ([112, 114, 111, 100, 117, 99, 116, 32, 97, 32, 50, 32, 51, 32, 49, 32, 48, 10, 98, 105, 100, 100, 101, 114, 32, 120, 32, 48, 32, 48, 32, 50, 10, 98, 105, 100, 100, 101, 114, 32, 121, 32, 49, 32, 48, 32, 50, 10, 97, 115, 105, 100, 101, 32, 97, 32, 49, 32, 49, 10], 0) := by decide +kernel
theorem p1_ex : (MU.parseS [105, 116, 101, 109, 32, 97, 32, 49, 32, 48, 32, 48, 32, 48]).2 = (1, 22) := by decide +kernel
theorem p2_ex : (MU.parseS [99, 97, 112, 32, 120, 32, 48, 32, 49]).2 = (1, 6) := by decide +kernel
theorem o_ex : MU.openB smallU = [1, 0, 0, 0, 0, 0] := by decide +kernel
theorem c_ex : MU.classB smallU = [1, 0, 0, 0, 0, 0] := by decide +kernel
theorem a1_ex : MU.allowE smallU 0 [2, 0, 0, 0, 0, 0] = 14 := by decide +kernel
theorem a2_ex : MU.allowE smallU 1 [2, 0, 0, 0, 0, 0] = 0 := by decide +kernel
theorem g_ex : MU.feasE smallU [[1, 0, 0, 0, 0, 0], [1, 0, 0, 0, 0, 0]] = 0 := by decide +kernel
theorem r_ex : MU.remB smallU [[1, 0, 0, 0, 0, 0], [0, 0, 0, 0, 0, 0]] = [1, 0, 0, 0, 0, 0] := by decide +kernel
theorem parse1 (w : World) : Calls Tryz.prog 10 #[.string ⟨#[105, 116, 101, 109, 32, 97, 32, 49, 32, 48, 32, 48, 32, 48]⟩] w fun e w' => ∃ X1 m1 d1 X2 m2 d2 X3 m3 d3 X4 m4 d4, e = .returned (.tuple #[.agg #[.slice X1 m1 d1, .slice X2 m2 d2, .slice X3 m3 d3, .slice X4 m4 d4], .int .i64 1, .int .i64 22]) ∧ Below w.heap.size w w' := by
  refine (pparse_any ⟨#[105, 116, 101, 109, 32, 97, 32, 49, 32, 48, 32, 48, 32, 48]⟩ w (by decide)).mono ?_
  rintro e w' ⟨Y1, f1, Y2, f2, Y3, f3, Y4, f4, rfl, _, hb⟩
  have k1 : (MU.parseS (⟨#[105, 116, 101, 109, 32, 97, 32, 49, 32, 48, 32, 48, 32, 48]⟩ : ByteArray).data.toList).2.1 = 1 := congrArg Prod.fst p1_ex
  have k2 : (MU.parseS (⟨#[105, 116, 101, 109, 32, 97, 32, 49, 32, 48, 32, 48, 32, 48]⟩ : ByteArray).data.toList).2.2 = 22 := congrArg Prod.snd p1_ex
  rw [k1, k2]
  exact ⟨_, _, _, _, _, _, _, _, _, _, _, _, rfl, hb⟩
theorem parse2 (w : World) : Calls Tryz.prog 10 #[.string ⟨#[99, 97, 112, 32, 120, 32, 48, 32, 49]⟩] w fun e w' => ∃ X1 m1 d1 X2 m2 d2 X3 m3 d3 X4 m4 d4, e = .returned (.tuple #[.agg #[.slice X1 m1 d1, .slice X2 m2 d2, .slice X3 m3 d3, .slice X4 m4 d4], .int .i64 1, .int .i64 6]) ∧ Below w.heap.size w w' := by
  refine (pparse_any ⟨#[99, 97, 112, 32, 120, 32, 48, 32, 49]⟩ w (by decide)).mono ?_
  rintro e w' ⟨Y1, f1, Y2, f2, Y3, f3, Y4, f4, rfl, _, hb⟩
  have k1 : (MU.parseS (⟨#[99, 97, 112, 32, 120, 32, 48, 32, 49]⟩ : ByteArray).data.toList).2.1 = 1 := congrArg Prod.fst p2_ex
  have k2 : (MU.parseS (⟨#[99, 97, 112, 32, 120, 32, 48, 32, 49]⟩ : ByteArray).data.toList).2.2 = 6 := congrArg Prod.snd p2_ex
  rw [k1, k2]
  exact ⟨_, _, _, _, _, _, _, _, _, _, _, _, rfl, hb⟩
theorem same_1 (w : World) : (Op.equalIn 10000 40 (.agg #[.int .i64 1, .int .i64 0, .int .i64 0, .int .i64 0, .int .i64 0, .int .i64 0]) (.agg #[.int .i64 1, .int .i64 0, .int .i64 0, .int .i64 0, .int .i64 0, .int .i64 0])).run Tryz.prog w = .ok true w := by
  have := run_same [1, 0, 0, 0, 0, 0] [1, 0, 0, 0, 0, 0] rfl rfl w
  exact this
set_option maxRecDepth 100000 in
set_option maxHeartbeats 16000000 in
theorem awake_any (w : World) (ht : Tab w) : Calls Tryz.prog 7 #[] w (Gives (.bool true) w) := by
  have HT := Lib.hid (fun w' (hb : Below w.heap.size w w') => ht.keep hb)
  clear ht
  go_enter Tryz.func7, Tryz.ntmps7
  go_wp2_with fail
  refine (small_any w).mono ?_
  rintro e w1 ⟨A1, A2, A4, rfl, hs, hb⟩
  have TB1 := Lib.hid (TB.new w1 27 (.slice A1 1 1) (.slice A2 2 2) (.slice none 0 0) (.slice A4 1 1))
  have SU := Lib.hid (fun w' (hb' : Below w1.heap.size w1 w') => hs.keep hb')
  have LW := Lib.hid (fun w' (hb' : Below w1.heap.size w1 w') => hb.trans (hb'.mono hb.size))
  have B1 := Lib.hid (below_new w1 (.cells #[.slice A1 1 1, .slice A2 2 2, .slice none 0 0, .slice A4 1 1] 27))
  clear hs hb
  obtain ⟨t0, t1, t2, t3⟩ := TB1.out.cells
  go_wp2_with fail
  obtain ⟨W1, hW1⟩ : ∃ W1, W1 = w1.alloc (.cells #[.slice A1 1 1, .slice A2 2 2, .slice none 0 0, .slice A4 1 1] 27) := ⟨_, rfl⟩
  rw [← hW1] at TB1 B1 ⊢
  clear hW1 t0 t1 t2 t3
  have P1 := Lib.hid (pformat_any A1 1 1 A2 2 2 none 0 0 A4 1 1 smallU W1 (SU.out W1 B1.out) (HT.out W1 (LW.out W1 B1.out)))
  rw [show fmtV smallU = .tuple #[.string ⟨#[112, 114, 111, 100, 117, 99, 116, 32, 97, 32, 50, 32, 51, 32, 49, 32, 48, 10, 98, 105, 100, 100, 101, 114, 32, 120, 32, 48, 32, 48, 32, 50, 10, 98, 105, 100, 100, 101, 114, 32, 121, 32, 49, 32, 48, 32, 50, 10, 97, 115, 105, 100, 101, 32, 97, 32, 49, 32, 49, 10]⟩, .int .i64 0] from by unfold fmtV; rw [f_ex]; rfl] at P1
  refine P1.out.mono ?_
  rintro e w2 ⟨rfl, hb⟩
  have TB2 := Lib.hid (TB1.out.keep hb)
  have B2 := Lib.hid (B1.out.trans (hb.mono B1.out.size))
  clear P1 TB1 B1 hb
  go_wp2_with fail
  refine (parse1 w2).mono ?_
  rintro e w3 ⟨X1, m1, d1, X2, m2, d2, X3, m3, d3, X4, m4, d4, rfl, hb⟩
  have TB3 := Lib.hid (TB2.out.keep hb)
  have B3 := Lib.hid (B2.out.trans (hb.mono B2.out.size))
  have TB3a := Lib.hid (TB3.out.keep (below_new w3 (.cells #[.slice X1 m1 d1, .slice X2 m2 d2, .slice X3 m3 d3, .slice X4 m4 d4] 27)))
  have B3a := Lib.hid (B3.out.alloc B3.out.size (.cells #[.slice X1 m1 d1, .slice X2 m2 d2, .slice X3 m3 d3, .slice X4 m4 d4] 27))
  clear TB2 B2 hb TB3 B3
  go_wp2_with fail
  obtain ⟨W3, hW3⟩ : ∃ W3, W3 = w3.alloc (.cells #[.slice X1 m1 d1, .slice X2 m2 d2, .slice X3 m3 d3, .slice X4 m4 d4] 27) := ⟨_, rfl⟩
  rw [← hW3] at TB3a B3a ⊢
  clear hW3
  refine (parse2 W3).mono ?_
  rintro e w4 ⟨X5, m5, d5, X6, m6, d6, X7, m7, d7, X8, m8, d8, rfl, hb⟩
  have TB4 := Lib.hid (TB3a.out.keep hb)
  have B4 := Lib.hid (B3a.out.trans (hb.mono B3a.out.size))
  have TB4a := Lib.hid (TB4.out.keep (below_new w4 (.cells #[.slice X5 m5 d5, .slice X6 m6 d6, .slice X7 m7 d7, .slice X8 m8 d8] 27)))
  have B4a := Lib.hid (B4.out.alloc B4.out.size (.cells #[.slice X5 m5 d5, .slice X6 m6 d6, .slice X7 m7 d7, .slice X8 m8 d8] 27))
  have hz := TB4.out.lt
  obtain ⟨t0, t1, t2, t3⟩ := TB4.out.cells
  clear TB3a B3a hb TB4 B4
  go_wp2_with fail
  obtain ⟨W4, hW4⟩ : ∃ W4, W4 = w4.alloc (.cells #[.slice X5 m5 d5, .slice X6 m6 d6, .slice X7 m7 d7, .slice X8 m8 d8] 27) := ⟨_, rfl⟩
  rw [← hW4] at TB4a B4a ⊢
  clear hW4 t0 t1 t2 t3 hz
  have P4 := Lib.hid (popen_any A1 1 1 A2 2 2 none 0 0 A4 1 1 smallU W4 (SU.out W4 B4a.out))
  rw [o_ex, c_ex, show aggB [1, 0, 0, 0, 0, 0] = .agg #[.int .i64 1, .int .i64 0, .int .i64 0, .int .i64 0, .int .i64 0, .int .i64 0] from rfl] at P4
  refine P4.out.mono ?_
  rintro e w5 ⟨rfl, hb⟩
  have TB5 := Lib.hid (TB4a.out.keep hb)
  have B5 := Lib.hid (B4a.out.trans (hb.mono B4a.out.size))
  have O1 := Lib.hid (heap_new w5 (.cells #[.int .i64 1, .int .i64 0, .int .i64 0, .int .i64 0, .int .i64 0, .int .i64 0] 40))
  have TB5a := Lib.hid (TB5.out.keep (below_new w5 (.cells #[.int .i64 1, .int .i64 0, .int .i64 0, .int .i64 0, .int .i64 0, .int .i64 0] 40)))
  have B5a := Lib.hid (B5.out.alloc B5.out.size (.cells #[.int .i64 1, .int .i64 0, .int .i64 0, .int .i64 0, .int .i64 0, .int .i64 0] 40))
  have O1b := Lib.hid (((below_new (w5.alloc (.cells #[.int .i64 1, .int .i64 0, .int .i64 0, .int .i64 0, .int .i64 0, .int .i64 0] 40)) (.cells #[.int .i64 1, .int .i64 0, .int .i64 0, .int .i64 0, .int .i64 0, .int .i64 0] 40)).block _ (by simp)).trans O1.out)
  have O2 := Lib.hid (heap_new (w5.alloc (.cells #[.int .i64 1, .int .i64 0, .int .i64 0, .int .i64 0, .int .i64 0, .int .i64 0] 40)) (.cells #[.int .i64 1, .int .i64 0, .int .i64 0, .int .i64 0, .int .i64 0, .int .i64 0] 40))
  have TB5b := Lib.hid (TB5a.out.keep (below_new (w5.alloc (.cells #[.int .i64 1, .int .i64 0, .int .i64 0, .int .i64 0, .int .i64 0, .int .i64 0] 40)) (.cells #[.int .i64 1, .int .i64 0, .int .i64 0, .int .i64 0, .int .i64 0, .int .i64 0] 40)))
  have B5b := Lib.hid (B5a.out.alloc B5a.out.size (.cells #[.int .i64 1, .int .i64 0, .int .i64 0, .int .i64 0, .int .i64 0, .int .i64 0] 40))
  have hz := TB5.out.lt
  obtain ⟨t0, t1, t2, t3⟩ := TB5.out.cells
  have q1 : ((⟨#[112, 114, 111, 100, 117, 99, 116, 32, 97, 32, 50, 32, 51, 32, 49, 32, 48, 10, 98, 105, 100, 100, 101, 114, 32, 120, 32, 48, 32, 48, 32, 50, 10, 98, 105, 100, 100, 101, 114, 32, 121, 32, 49, 32, 48, 32, 50, 10, 97, 115, 105, 100, 101, 32, 97, 32, 49, 32, 49, 10]⟩ : ByteArray).toList == [112, 114, 111, 100, 117, 99, 116, 32, 97, 32, 50, 32, 51, 32, 49, 32, 48, 10, 98, 105, 100, 100, 101, 114, 32, 120, 32, 48, 32, 48, 32, 50, 10, 98, 105, 100, 100, 101, 114, 32, 121, 32, 49, 32, 48, 32, 50, 10, 97, 115, 105, 100, 101, 32, 97, 32, 49, 32, 49, 10]) = true := by rw [ByteArray.toList_eq]; exact beq_self_eq_true _
  clear P4 TB4a B4a hb TB5 B5 O1 TB5a B5a
  have E1 := same_1
  go_wp2_with fail
  obtain ⟨W5, hW5⟩ : ∃ W5, W5 = (w5.alloc (.cells #[.int .i64 1, .int .i64 0, .int .i64 0, .int .i64 0, .int .i64 0, .int .i64 0] 40)).alloc (.cells #[.int .i64 1, .int .i64 0, .int .i64 0, .int .i64 0, .int .i64 0, .int .i64 0] 40) := ⟨_, rfl⟩
  rw [← hW5] at TB5b B5b O1b O2 ⊢
  clear hW5 t0 t1 t2 t3 hz O1b O2
  have P5 := Lib.hid (pallow_any A1 1 1 A2 2 2 none 0 0 A4 1 1 smallU 0 2 0 0 0 0 0 W5 (SU.out W5 B5b.out))
  rw [a1_ex] at P5
  refine P5.out.mono ?_
  rintro e w6 ⟨rfl, hb⟩
  have TB6 := Lib.hid (TB5b.out.keep hb)
  have B6 := Lib.hid (B5b.out.trans (hb.mono B5b.out.size))
  obtain ⟨t0, t1, t2, t3⟩ := TB6.out.cells
  clear P5 TB5b B5b hb
  go_wp2_with fail
  clear t0 t1 t2 t3
  have P6 := Lib.hid (pallow_any A1 1 1 A2 2 2 none 0 0 A4 1 1 smallU 1 2 0 0 0 0 0 w6 (SU.out w6 B6.out))
  rw [a2_ex] at P6
  refine P6.out.mono ?_
  rintro e w7 ⟨rfl, hb⟩
  have TB7 := Lib.hid (TB6.out.keep hb)
  have B7 := Lib.hid (B6.out.trans (hb.mono B6.out.size))
  have TB7a := Lib.hid (TB7.out.keep (below_new w7 (.cells #[.int .i64 1, .int .i64 0, .int .i64 0, .int .i64 0, .int .i64 0, .int .i64 0, .int .i64 1, .int .i64 0, .int .i64 0, .int .i64 0, .int .i64 0, .int .i64 0] 40)))
  have B7a := Lib.hid (B7.out.alloc B7.out.size (.cells #[.int .i64 1, .int .i64 0, .int .i64 0, .int .i64 0, .int .i64 0, .int .i64 0, .int .i64 1, .int .i64 0, .int .i64 0, .int .i64 0, .int .i64 0, .int .i64 0] 40))
  have P7 := Lib.hid (pfeas_any A1 1 1 A2 2 2 none 0 0 A4 1 1 smallU (some ⟨w7.heap.size, 0, none⟩) 2 2 [[1, 0, 0, 0, 0, 0], [1, 0, 0, 0, 0, 0]] (w7.alloc (.cells #[.int .i64 1, .int .i64 0, .int .i64 0, .int .i64 0, .int .i64 0, .int .i64 0, .int .i64 1, .int .i64 0, .int .i64 0, .int .i64 0, .int .i64 0, .int .i64 0] 40)) (SU.out _ B7a.out) (Lst.lit (E := bunE) [[1, 0, 0, 0, 0, 0], [1, 0, 0, 0, 0, 0]] 2 (heap_new w7 (.cells #[.int .i64 1, .int .i64 0, .int .i64 0, .int .i64 0, .int .i64 0, .int .i64 0, .int .i64 1, .int .i64 0, .int .i64 0, .int .i64 0, .int .i64 0, .int .i64 0] 40)) rfl rfl (by decide) (by intro x hx; rcases List.mem_cons.1 hx with rfl | hx; rfl; obtain rfl := List.mem_singleton.1 hx; rfl)))
  rw [g_ex] at P7
  obtain ⟨t0, t1, t2, t3⟩ := TB7.out.cells
  clear P6 TB6 B6 hb
  go_wp2_with fail
  clear t0 t1 t2 t3
  refine P7.out.mono ?_
  rintro e w8 ⟨rfl, hb⟩
  have TB8 := Lib.hid (TB7a.out.keep hb)
  have B8 := Lib.hid (B7a.out.trans (hb.mono B7a.out.size))
  have B8a := Lib.hid (B8.out.alloc B8.out.size (.cells #[.int .i64 1, .int .i64 0, .int .i64 0, .int .i64 0, .int .i64 0, .int .i64 0, .int .i64 0, .int .i64 0, .int .i64 0, .int .i64 0, .int .i64 0, .int .i64 0] 40))
  have P8 := Lib.hid (prem_any A1 1 1 A2 2 2 none 0 0 A4 1 1 smallU (some ⟨w8.heap.size, 0, none⟩) 2 2 [[1, 0, 0, 0, 0, 0], [0, 0, 0, 0, 0, 0]] (w8.alloc (.cells #[.int .i64 1, .int .i64 0, .int .i64 0, .int .i64 0, .int .i64 0, .int .i64 0, .int .i64 0, .int .i64 0, .int .i64 0, .int .i64 0, .int .i64 0, .int .i64 0] 40)) (SU.out _ B8a.out) (Lst.lit (E := bunE) [[1, 0, 0, 0, 0, 0], [0, 0, 0, 0, 0, 0]] 2 (heap_new w8 (.cells #[.int .i64 1, .int .i64 0, .int .i64 0, .int .i64 0, .int .i64 0, .int .i64 0, .int .i64 0, .int .i64 0, .int .i64 0, .int .i64 0, .int .i64 0, .int .i64 0] 40)) rfl rfl (by decide) (by intro x hx; rcases List.mem_cons.1 hx with rfl | hx; rfl; obtain rfl := List.mem_singleton.1 hx; rfl)))
  rw [r_ex, show aggB [1, 0, 0, 0, 0, 0] = .agg #[.int .i64 1, .int .i64 0, .int .i64 0, .int .i64 0, .int .i64 0, .int .i64 0] from rfl] at P8
  obtain ⟨t0, t1, t2, t3⟩ := TB8.out.cells
  clear P7 TB7 B7 hb TB7a B7a
  go_wp2_with fail
  clear t0 t1 t2 t3
  refine P8.out.mono ?_
  rintro e w9 ⟨rfl, hb⟩
  have B9 := Lib.hid (B8a.out.trans (hb.mono B8a.out.size))
  clear P8 B8 B8a hb
  go_wp2
  go_ret
  exact ⟨rfl, LW.out _ B9.out⟩
end Go.Proofs.YtigfgeanofccgaaGreatDoor
