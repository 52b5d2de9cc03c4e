/- The statement ExprtextParses, walked: no claim of its own. -/
import Derived.Test.YtcokplikmjegcaaGreatDoorLives
import Derived.Test.YtcokplikmjegcaaGreatDoorJRP
import Derived.Test.YtcokplikmjegcaaGreatDoorCOpen
import Derived.BigQuiet
namespace Go.Proofs.YtcokplikmjegcaaGreatDoor
open Go.RowKit
open ME (F Nd)
open MC (Pr)
set_option maxRecDepth 100000 in
set_option maxHeartbeats 8000000 in
theorem exprtextParses_walk (A : Option Addr) (n cp : Nat) (L : List Pr) (s : ByteArray) (w : World) (h : PrsIn w A n cp L) (hs : s.size ≤ maxLen) (hT : Tab w ∧ Ops w) : Calls Tryz.prog 4 #[.slice A n cp, .string s] w (Gives (.bool true) w) := by
  have LV := Lib.hid (fun w' (hb : Below w.heap.size w w') => lives12_any w' (hT.1.keep hb) (hT.2.keep hb))
  have HPn := Lib.hid (fun w' (hb : Below w.heap.size w w') (hle : n ≤ 100) => (h.prs hle).keep hb)
  have HT := Lib.hid hT
  have hs' : s.size ≤ 9223372036854775807 := hs
  have HS := Lib.hid hs'
  clear h hT hs hs'
  have B0 := Lib.hid (Below.refl w.heap.size w)
  by_cases hl : (10 : Int) < n
  · have hlb : decide ((10 : Int) < n) = true := decide_eq_true hl
    clear HPn HT HS
    go_enter Tryz.func4, Tryz.ntmps4
    go_wp2_with fail
    refine (LV.out _ B0.out).mono ?_
    rintro ev w9 ⟨rfl, hb⟩
    have FB := Lib.hid (B0.out.trans (hb.mono B0.out.size))
    clear hb B0 LV
    go_wp2
    go_ret
    exact ⟨rfl, FB.out⟩
  have hlb : decide ((10 : Int) < n) = false := decide_eq_false hl
  have HP := Lib.hid (fun w' (hb : Below w.heap.size w w') => HPn.out w' hb (by omega))
  clear HPn
  by_cases hl2 : (4100 : Int) < s.size
  · have hlc : decide ((4100 : Int) < s.size) = true := decide_eq_true hl2
    clear HP HT HS
    go_enter Tryz.func4, Tryz.ntmps4
    go_wp2_with fail
    refine (LV.out _ B0.out).mono ?_
    rintro ev w9 ⟨rfl, hb⟩
    have FB := Lib.hid (B0.out.trans (hb.mono B0.out.size))
    clear hb B0 LV
    go_wp2
    go_ret
    exact ⟨rfl, FB.out⟩
  have hlc : decide ((4100 : Int) < s.size) = false := decide_eq_false hl2
  go_enter Tryz.func4, Tryz.ntmps4
  have PC := Lib.hid (parse12_any A n cp L (s) HS.out w (HP.out w B0.out) (HT.out.2.keep B0.out))
  go_wp2_with fail
  refine PC.out.mono ?_
  rintro ev b9 ⟨y, rfl, hyn, hyo, hb⟩
  obtain ⟨oy, byy, vy, Ay, cy, ky⟩ := y
  obtain ⟨q0, q1, q2, q3, q4, q5, rfl⟩ := six hyo.six
  have HYN := Lib.hid hyn
  rw [NT.val_lit]
  have BY := below_new b9 (.cells #[.int .i64 oy, .int .i64 q0, .int .i64 q1, .int .i64 q2, .int .i64 q3, .int .i64 q4, .int .i64 q5, .int .i64 vy, .slice Ay ky.len cy] 27)
  have B1a := B0.out.trans (hb.mono B0.out.size)
  have B1 := Lib.hid (B1a.trans (BY.mono B1a.size))
  skip
  have YX : Hid (B9 (b9.alloc (.cells #[.int .i64 oy, .int .i64 q0, .int .i64 q1, .int .i64 q2, .int .i64 q3, .int .i64 q4, .int .i64 q5, .int .i64 vy, .slice Ay ky.len cy] 27)) b9.heap.size (.int .i64 oy) (.int .i64 q0) (.int .i64 q1) (.int .i64 q2) (.int .i64 q3) (.int .i64 q4) (.int .i64 q5) (.int .i64 vy) (.slice Ay ky.len cy)) := Lib.hid (heap_new b9 _)
  have YOK := Lib.hid ((hyo.keep (ok' := fun _ => True) (fun _ _ _ => rfl) (Nat.le_refl _) (fun _ _ _ => trivial)).below BY)
  clear hyn hyo hb BY B1a B0  PC
  go_upto_region 4 with (fail)
  obtain ⟨w1, hW9⟩ : ∃ w1, w1 = b9.alloc (.cells #[.int .i64 oy, .int .i64 q0, .int .i64 q1, .int .i64 q2, .int .i64 q3, .int .i64 q4, .int .i64 q5, .int .i64 vy, .slice Ay ky.len cy] 27) := ⟨_, rfl⟩
  rw [← hW9] at B1  YX YOK ⊢
  clear hW9
  obtain ⟨gy, hgy⟩ : ∃ gy, gy = b9.heap.size := ⟨_, rfl⟩
  rw [← hgy] at YX ⊢
  clear hgy b9
  skip
  obtain ⟨d0, d1, d2, d3, d4, d5, d6, d7, d8⟩ := YX.out.cells
  have PC2 := Lib.hid (rparse12_any A n cp L s HS.out w1 (HP.out w1 B1.out))
  go_wp2_with fail
  refine PC2.out.mono ?_
  rintro ev b8 ⟨y2, rfl, hyn2, hyo2, hb⟩
  obtain ⟨oz, bzz, vz, Az, cz, kz⟩ := y2
  obtain ⟨p0, p1, p2, p3, p4, p5, rfl⟩ := six hyo2.six
  have HYN2 := Lib.hid hyn2
  rw [NT.val_lit]
  have BY := below_new b8 (.cells #[.int .i64 oz, .int .i64 p0, .int .i64 p1, .int .i64 p2, .int .i64 p3, .int .i64 p4, .int .i64 p5, .int .i64 vz, .slice Az kz.len cz] 27)
  have B2a := B1.out.trans (hb.mono B1.out.size)
  have B2 := Lib.hid (B2a.trans (BY.mono B2a.size))
  have YX2 : Hid (B9 (b8.alloc (.cells #[.int .i64 oz, .int .i64 p0, .int .i64 p1, .int .i64 p2, .int .i64 p3, .int .i64 p4, .int .i64 p5, .int .i64 vz, .slice Az kz.len cz] 27)) b8.heap.size (.int .i64 oz) (.int .i64 p0) (.int .i64 p1) (.int .i64 p2) (.int .i64 p3) (.int .i64 p4) (.int .i64 p5) (.int .i64 vz) (.slice Az kz.len cz)) := Lib.hid (heap_new b8 _)
  have YOK2 := Lib.hid ((hyo2.keep (ok' := fun _ => True) (fun _ _ _ => rfl) (Nat.le_refl _) (fun _ _ _ => trivial)).below BY)
  have YX3 := Lib.hid ((YX.out.keep hb).keep BY)
  have YOK3 := Lib.hid ((YOK.out.below hb).below BY)
  clear hyn2 hyo2 hb BY B2a B1 PC2 d0 d1 d2 d3 d4 d5 d6 d7 d8 YX YOK
  go_upto_region 5 with (fail)
  obtain ⟨w2, hW9⟩ : ∃ w2, w2 = b8.alloc (.cells #[.int .i64 oz, .int .i64 p0, .int .i64 p1, .int .i64 p2, .int .i64 p3, .int .i64 p4, .int .i64 p5, .int .i64 vz, .slice Az kz.len cz] 27) := ⟨_, rfl⟩
  rw [← hW9] at B2 YX2 YOK2 YX3 YOK3 ⊢
  clear hW9
  generalize b8.heap.size = gz at *
  obtain ⟨d0, d1, d2, d3, d4, d5, d6, d7, d8⟩ := YX3.out.cells
  obtain ⟨c0, c1, c2, c3, c4, c5, c6, c7, c8⟩ := YX2.out.cells
  obtain ⟨Rn, Re, hR⟩ : ∃ Rn Re, MX.parseE L s.data.toList = (Rn, Re) := ⟨_, _, rfl⟩
  rw [hR] at HYN HYN2 ⊢
  dsimp only at HYN HYN2 ⊢
  clear hR
  have SM := Lib.hid (rsame12_any (⟨oy, [q0, q1, q2, q3, q4, q5], vy, Ay, cy, ky⟩ : NT).size (⟨oy, [q0, q1, q2, q3, q4, q5], vy, Ay, cy, ky⟩ : NT) (⟨oz, [p0, p1, p2, p3, p4, p5], vz, Az, cz, kz⟩ : NT) (Nat.le_refl _) w2 _ _ YOK3.out YOK2.out)
  rw [HYN.out, HYN2.out, ME.eqN_self, NT.val_lit, NT.val_lit] at SM
  have ee : (Re == Re) = true := beq_self_eq_true Re
  clear HYN HYN2 YOK2 YOK3 HP HT HS YX2 YX3
  go_wp2_with fail
  refine SM.out.mono ?_
  rintro ev w5 ⟨rfl, hb⟩
  have B5 := Lib.hid (B2.out.trans (hb.mono B2.out.size))
  clear hb B2 SM c0 c1 c2 c3 c4 c5 c6 c7 c8 d0 d1 d2 d3 d4 d5 d6 d7 d8
  go_wp2_with fail
  refine (LV.out _ B5.out).mono ?_
  rintro ev w9 ⟨rfl, hb⟩
  have FB := Lib.hid (B5.out.trans (hb.mono B5.out.size))
  clear hb B5 LV
  go_wp2
  go_ret
  exact ⟨rfl, FB.out⟩
end Go.Proofs.YtcokplikmjegcaaGreatDoor
