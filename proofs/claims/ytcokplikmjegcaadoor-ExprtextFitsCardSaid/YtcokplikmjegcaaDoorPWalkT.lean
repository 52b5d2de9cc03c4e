/- The statement ExprtextFits, walked: no claim of its own. -/
import Derived.Test.YtcokplikmjegcaaDoorLives
import Derived.Test.YtcokplikmjegcaaDoorPWants
import Derived.Test.YtcokplikmjegcaaDoorCOpen
import Derived.BigQuiet
namespace Go.Proofs.YtcokplikmjegcaaDoor
open Go.RowKit
open ME (F Nd)
open MC (Pr)
theorem app_list (s : ByteArray) : (s.append ⟨#[41]⟩).data.toList = s.data.toList ++ [41] := by
  rw [show s.append ⟨#[41]⟩ = s ++ (⟨#[41]⟩ : ByteArray) from rfl, ByteArray.data_append]
  simp
theorem app_size (s : ByteArray) : (s.append ⟨#[41]⟩).size = s.size + 1 := by
  rw [← size_list, app_list, List.length_append, size_list]; rfl
theorem parse_nd0 {L : List Pr} {l : List UInt8} {n : Nd} {e : Int} (h : MX.parseE L l = (n, e)) (he : e ≠ 0) : n = MX.nd0 := by
  unfold MX.parseE at h
  split at h
  · exact (Prod.mk.inj h).1.symm
  · split at h
    · exact (Prod.mk.inj h).1.symm
    · unfold MX.parse2 at h
      split at h
      · exact (Prod.mk.inj h).1.symm
      · split at h
        · exact (Prod.mk.inj h).1.symm
        · exact absurd (Prod.mk.inj h).2.symm he
set_option maxRecDepth 100000 in
set_option maxHeartbeats 8000000 in
theorem exprtextFits_walk (A : Option Addr) (n cp : Nat) (L : List Pr) (s : ByteArray) (w : World) (h : PrsIn w A n cp L) (hs : s.size ≤ maxLen) (hT : Tab w ∧ Ops w) : Calls Tryd.prog 4 #[.slice A n cp, .string s] w (Gives (.bool true) w) := by
  have LV := Lib.hid (fun w' (hb : Below w.heap.size w w') => lives12_any w' (hT.1.keep hb) (hT.2.keep hb))
  have HPn := Lib.hid (fun w' (hb : Below w.heap.size w w') (hle : n ≤ 100) => (h.prs hle).keep hb)
  have HT := Lib.hid hT
  have HSZ := Lib.hid (size_list s)
  have hs' : s.size ≤ 9223372036854775807 := hs
  have HS := Lib.hid hs'
  clear h hT hs hs'
  have B0 := Lib.hid (Below.refl w.heap.size w)
  by_cases hl : (10 : Int) < n
  · have hlb : decide ((10 : Int) < n) = true := decide_eq_true hl
    clear HPn HT HSZ HS
    go_enter Tryd.func4, Tryd.ntmps4
    go_wp2_with fail
    refine (LV.out _ B0.out).mono ?_
    rintro ev w9 ⟨rfl, hb⟩
    have FB := Lib.hid (B0.out.trans (hb.mono B0.out.size))
    clear hb B0 LV
    go_wp2
    go_ret
    exact ⟨rfl, FB.out⟩
  have hlb : decide ((10 : Int) < n) = false := decide_eq_false hl
  have HP := Lib.hid (fun w' (hb : Below w.heap.size w w') => HPn.out w' hb (by omega))
  clear HPn
  by_cases hl2 : (2000 : Int) < s.size
  · have hlc : decide ((2000 : Int) < s.size) = true := decide_eq_true hl2
    clear HP HT HSZ HS
    go_enter Tryd.func4, Tryd.ntmps4
    go_wp2_with fail
    refine (LV.out _ B0.out).mono ?_
    rintro ev w9 ⟨rfl, hb⟩
    have FB := Lib.hid (B0.out.trans (hb.mono B0.out.size))
    clear hb B0 LV
    go_wp2
    go_ret
    exact ⟨rfl, FB.out⟩
  have hlc : decide ((2000 : Int) < s.size) = false := decide_eq_false hl2
  have hs2000 : s.size ≤ 2000 := by omega
  have hw1 : ¬ 9223372036854775807 < s.size + 1 := by omega
  go_enter Tryd.func4, Tryd.ntmps4
  have PC := Lib.hid (parse12_any A n cp L (s) HS.out w (HP.out w B0.out) (HT.out.2.keep B0.out))
  go_wp2_with fail
  refine PC.out.mono ?_
  rintro ev b9 ⟨y, rfl, hyn, hyo, hb⟩
  obtain ⟨oy, byy, vy, Ay, cy, ky⟩ := y
  obtain ⟨q0, q1, q2, q3, q4, q5, rfl⟩ := six hyo.six
  have HYN := Lib.hid hyn
  rw [NT.val_lit]
  have BY := below_new b9 (.cells #[.int .i64 oy, .int .i64 q0, .int .i64 q1, .int .i64 q2, .int .i64 q3, .int .i64 q4, .int .i64 q5, .int .i64 vy, .slice Ay ky.len cy] 27)
  have B1a := B0.out.trans (hb.mono B0.out.size)
  have B1 := Lib.hid (B1a.trans (BY.mono B1a.size))
  skip
  have YX : Hid (B9 (b9.alloc (.cells #[.int .i64 oy, .int .i64 q0, .int .i64 q1, .int .i64 q2, .int .i64 q3, .int .i64 q4, .int .i64 q5, .int .i64 vy, .slice Ay ky.len cy] 27)) b9.heap.size (.int .i64 oy) (.int .i64 q0) (.int .i64 q1) (.int .i64 q2) (.int .i64 q3) (.int .i64 q4) (.int .i64 q5) (.int .i64 vy) (.slice Ay ky.len cy)) := Lib.hid (heap_new b9 _)
  have YOK := Lib.hid ((hyo.keep (ok' := fun _ => True) (fun _ _ _ => rfl) (Nat.le_refl _) (fun _ _ _ => trivial)).below BY)
  clear hyn hyo hb BY B1a B0  PC
  go_upto_region 4 with (fail)
  obtain ⟨w1, hW9⟩ : ∃ w1, w1 = b9.alloc (.cells #[.int .i64 oy, .int .i64 q0, .int .i64 q1, .int .i64 q2, .int .i64 q3, .int .i64 q4, .int .i64 q5, .int .i64 vy, .slice Ay ky.len cy] 27) := ⟨_, rfl⟩
  rw [← hW9] at B1  YX YOK ⊢
  clear hW9
  obtain ⟨gy, hgy⟩ : ∃ gy, gy = b9.heap.size := ⟨_, rfl⟩
  rw [← hgy] at YX ⊢
  clear hgy b9
  skip
  obtain ⟨d0, d1, d2, d3, d4, d5, d6, d7, d8⟩ := YX.out.cells
  obtain ⟨Rn, Re, hR⟩ : ∃ Rn Re, MX.parseE L s.data.toList = (Rn, Re) := ⟨_, _, rfl⟩
  have HR := Lib.hid hR
  rw [hR] at HYN ⊢
  dsimp only at HYN ⊢
  clear hR
  by_cases her : Re = 0
  case neg =>
    have hb0 : (Re != 0) = true := bne_iff_ne.2 her
    have hn0 : Rn = MX.nd0 := parse_nd0 HR.out her
    have SM := Lib.hid (rsame12_any (⟨oy, [q0, q1, q2, q3, q4, q5], vy, Ay, cy, ky⟩ : NT).size (⟨oy, [q0, q1, q2, q3, q4, q5], vy, Ay, cy, ky⟩ : NT) zeroN (Nat.le_refl _) w1 _ (fun _ => True) YOK.out (zeroN_ok _ _))
    rw [HYN.out, hn0, show zeroN.n = MX.nd0 from rfl, ME.eqN_self, NT.val_lit, show zeroN.val = .agg #[.int .i64 0, .int .i64 0, .int .i64 0, .int .i64 0, .int .i64 0, .int .i64 0, .int .i64 0, .int .i64 0, .slice none 0 0] from rfl] at SM
    clear HR HYN hn0 YOK HP HT
    go_wp2_with fail
    refine SM.out.mono ?_
    rintro ev w2 ⟨rfl, hb⟩
    have B2 := Lib.hid (B1.out.trans (hb.mono B1.out.size))
    clear hb B1 YX SM d0 d1 d2 d3 d4 d5 d6 d7 d8
    go_wp2_with fail
    refine (LV.out _ B2.out).mono ?_
    rintro ev w9 ⟨rfl, hb⟩
    have FB := Lib.hid (B2.out.trans (hb.mono B2.out.size))
    clear hb B2 LV
    go_wp2
    go_ret
    exact ⟨rfl, FB.out⟩
  subst her
  have hb0 : ((0 : Int) != 0) = false := rfl
  have WN := Lib.hid (wants_any A n cp L (⟨oy, [q0, q1, q2, q3, q4, q5], vy, Ay, cy, ky⟩ : NT).size (⟨oy, [q0, q1, q2, q3, q4, q5], vy, Ay, cy, ky⟩ : NT) (Nat.le_refl _) w1 (fun _ => True) (HP.out w1 B1.out) YOK.out (fun z hz => (MX.parse_fits HR.out z (by rw [← HYN.out]; exact hz)).1))
  rw [NT.val_lit] at WN
  have PMORE : Hid (MX.parseE L (s.data.toList ++ [41]) = (MX.nd0, 3)) := Lib.hid (MX.parse_more HR.out (by rw [HSZ.out]; omega))
  have HS2 : Hid ((s.append ⟨#[41]⟩).size ≤ 9223372036854775807) := Lib.hid (by rw [app_size]; omega)
  clear HR HYN YOK HSZ HS
  go_wp2_with fail
  refine WN.out.mono ?_
  rintro ev w2 ⟨rfl, hb⟩
  have B2 := Lib.hid (B1.out.trans (hb.mono B1.out.size))
  clear hb B1 YX WN d0 d1 d2 d3 d4 d5 d6 d7 d8
  have PC := Lib.hid (parse12_any A n cp L (s.append ⟨#[41]⟩) HS2.out w2 (HP.out w2 B2.out) (HT.out.2.keep B2.out))
  go_wp2_with fail
  refine PC.out.mono ?_
  rintro ev b9 ⟨y, rfl, hyn, hyo, hb⟩
  obtain ⟨oy, byy, vy, Ay, cy, ky⟩ := y
  obtain ⟨q0, q1, q2, q3, q4, q5, rfl⟩ := six hyo.six
  have HYN := Lib.hid hyn
  rw [NT.val_lit]
  have BY := below_new b9 (.cells #[.int .i64 oy, .int .i64 q0, .int .i64 q1, .int .i64 q2, .int .i64 q3, .int .i64 q4, .int .i64 q5, .int .i64 vy, .slice Ay ky.len cy] 27)
  have B4a := B2.out.trans (hb.mono B2.out.size)
  have B4 := Lib.hid (B4a.trans (BY.mono B4a.size))
  skip
  have YX : Hid (B9 (b9.alloc (.cells #[.int .i64 oy, .int .i64 q0, .int .i64 q1, .int .i64 q2, .int .i64 q3, .int .i64 q4, .int .i64 q5, .int .i64 vy, .slice Ay ky.len cy] 27)) b9.heap.size (.int .i64 oy) (.int .i64 q0) (.int .i64 q1) (.int .i64 q2) (.int .i64 q3) (.int .i64 q4) (.int .i64 q5) (.int .i64 vy) (.slice Ay ky.len cy)) := Lib.hid (heap_new b9 _)
  have YOK := Lib.hid ((hyo.keep (ok' := fun _ => True) (fun _ _ _ => rfl) (Nat.le_refl _) (fun _ _ _ => trivial)).below BY)
  clear hyn hyo hb BY B4a B2  PC
  go_upto_region 9 with (fail)
  obtain ⟨w4, hW9⟩ : ∃ w4, w4 = b9.alloc (.cells #[.int .i64 oy, .int .i64 q0, .int .i64 q1, .int .i64 q2, .int .i64 q3, .int .i64 q4, .int .i64 q5, .int .i64 vy, .slice Ay ky.len cy] 27) := ⟨_, rfl⟩
  rw [← hW9] at B4  YX YOK ⊢
  clear hW9
  obtain ⟨gz, hgz⟩ : ∃ gz, gz = b9.heap.size := ⟨_, rfl⟩
  rw [← hgz] at YX ⊢
  clear hgz b9
  skip
  obtain ⟨d0, d1, d2, d3, d4, d5, d6, d7, d8⟩ := YX.out.cells
  rw [PMORE.out]
  dsimp only
  clear HYN YOK PMORE HS2 YX d0 d1 d2 d3 d4 d5 d6 d7 d8 HP HT
  go_wp2_with fail
  refine (LV.out _ B4.out).mono ?_
  rintro ev w9 ⟨rfl, hb⟩
  have FB := Lib.hid (B4.out.trans (hb.mono B4.out.size))
  clear hb B4 LV
  go_wp2
  go_ret
  exact ⟨rfl, FB.out⟩
end Go.Proofs.YtcokplikmjegcaaDoor
