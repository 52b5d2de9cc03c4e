/- The statement ExprtextSpaces, walked: no claim of its own. -/
import Derived.Test.YtcokplikmjegcaaGreatDoorLives
import Derived.Test.YtcokplikmjegcaaGreatDoorJQ
import Derived.Test.YtcokplikmjegcaaGreatDoorRFmt12
import Derived.Test.YtcokplikmjegcaaGreatDoorCOpen
import Derived.BigQuiet
namespace Go.Proofs.YtcokplikmjegcaaGreatDoor
open Go.RowKit
open ME (F Nd)
open MC (Pr)
set_option maxRecDepth 100000 in
set_option maxHeartbeats 8000000 in
theorem exprtextSpaces_walk (A : Option Addr) (n cp : Nat) (L : List Pr) (x : NT) (w : World) (h : PrsIn w A n cp L) (hok : x.Ok w (fun _ => True)) (hT : Tab w ∧ Ops w) : Calls Tryz.prog 5 #[.slice A n cp, x.val] w (Gives (.bool true) w) := by
  have WG := Lib.hid (fun w' (hb : Below w.heap.size w w') => rweigh_any x.size x (Nat.le_refl _) 61 (by decide) (by decide) w' (fun _ => True) (hok.below hb))
  have LV := Lib.hid (fun w' (hb : Below w.heap.size w w') => lives12_any w' (hT.1.keep hb) (hT.2.keep hb))
  have HPn := Lib.hid (fun w' (hb : Below w.heap.size w w') (hle : n ≤ 100) => (h.prs hle).keep hb)
  have HT := Lib.hid hT
  have HOK := Lib.hid (fun w' (hb : Below w.heap.size w w') => hok.below hb)
  clear h hT
  obtain ⟨sz, hsz⟩ : ∃ sz, sz = x.size := ⟨_, rfl⟩
  rw [← hsz] at WG
  have HSZ := Lib.hid hsz
  have HX := Lib.hid (show ∀ w', x.Ok w' (fun _ => True) → x.b.length = 6 from fun _ q => q.six)
  obtain ⟨o, bb, v, A1, c1, k⟩ := x
  obtain ⟨x0, x1, x2, x3, x4, x5, rfl⟩ := six hok.six
  have h6 := Lib.hid hok.six_pre
  clear HX hok hsz
  rw [NT.val_lit] at WG ⊢
  have B0 := Lib.hid (below_new w (.cells #[.int .i64 o, .int .i64 x0, .int .i64 x1, .int .i64 x2, .int .i64 x3, .int .i64 x4, .int .i64 x5, .int .i64 v, .slice A1 k.len c1] 27))
  have X0 : Hid (B9 (w.alloc (.cells #[.int .i64 o, .int .i64 x0, .int .i64 x1, .int .i64 x2, .int .i64 x3, .int .i64 x4, .int .i64 x5, .int .i64 v, .slice A1 k.len c1] 27)) w.heap.size (.int .i64 o) (.int .i64 x0) (.int .i64 x1) (.int .i64 x2) (.int .i64 x3) (.int .i64 x4) (.int .i64 x5) (.int .i64 v) (.slice A1 k.len c1)) := Lib.hid (heap_new w (.cells #[.int .i64 o, .int .i64 x0, .int .i64 x1, .int .i64 x2, .int .i64 x3, .int .i64 x4, .int .i64 x5, .int .i64 v, .slice A1 k.len c1] 27))
  go_enter Tryz.func5, Tryz.ntmps5
  go_upto_region 1 with (fail)
  obtain ⟨W0, hW0⟩ : ∃ W0, W0 = w.alloc (.cells #[.int .i64 o, .int .i64 x0, .int .i64 x1, .int .i64 x2, .int .i64 x3, .int .i64 x4, .int .i64 x5, .int .i64 v, .slice A1 k.len c1] 27) := ⟨_, rfl⟩
  rw [← hW0] at B0 X0 ⊢
  clear hW0
  obtain ⟨a0, a1, a2, a3, a4, a5, a6, a7, a8⟩ := X0.out.cells
  by_cases hl : (10 : Int) < n
  · have hlb : decide ((10 : Int) < n) = true := decide_eq_true hl
    clear HPn HT HOK WG HSZ h6
    go_wp2_with fail
    refine (LV.out _ B0.out).mono ?_
    rintro ev w1 ⟨rfl, hb⟩
    have FB := Lib.hid (B0.out.trans (hb.mono B0.out.size))
    clear hb B0 X0 a0 a1 a2 a3 a4 a5 a6 a7 a8 LV
    go_wp2
    go_ret
    exact ⟨rfl, FB.out⟩
  have hlb : decide ((10 : Int) < n) = false := decide_eq_false hl
  have HP := Lib.hid (fun w' (hb : Below w.heap.size w w') => HPn.out w' hb (by omega))
  clear HPn
  go_wp2_with fail
  refine (WG.out _ B0.out).mono ?_
  rintro ev w1 ⟨rfl, hb⟩
  have B1 := Lib.hid (B0.out.trans (hb.mono B0.out.size))
  have X1 := Lib.hid (X0.out.keep hb)
  clear hb B0 X0 a0 a1 a2 a3 a4 a5 a6 a7 a8 WG
  obtain ⟨a0, a1, a2, a3, a4, a5, a6, a7, a8⟩ := X1.out.cells
  obtain ⟨mn, hmn⟩ : ∃ mn : Nat, mn = min sz 61 := ⟨_, rfl⟩
  rw [← hmn]
  by_cases hw : (60 : Int) < mn
  · have hwb : decide ((60 : Int) < mn) = true := decide_eq_true hw
    clear HP HT HOK HSZ h6
    go_wp2_with fail
    refine (LV.out _ B1.out).mono ?_
    rintro ev w2 ⟨rfl, hb⟩
    have FB := Lib.hid (B1.out.trans (hb.mono B1.out.size))
    clear hb B1 X1 a0 a1 a2 a3 a4 a5 a6 a7 a8 LV
    go_wp2
    go_ret
    exact ⟨rfl, FB.out⟩
  have hwb : decide ((60 : Int) < mn) = false := decide_eq_false hw
  have hsz60 : sz ≤ 60 := by omega
  clear hmn
  rw [HSZ.out] at hsz60
  have RC := Lib.hid (rformat12_any A n cp L (⟨o, [x0, x1, x2, x3, x4, x5], v, A1, c1, k⟩ : NT) (by omega) w1 (HP.out w1 B1.out) (HOK.out w1 B1.out))
  rw [NT.val_lit] at RC
  go_wp2_with fail
  refine RC.out.mono ?_
  rintro ev w2 ⟨rfl, hb⟩
  have B2 := Lib.hid (B1.out.trans (hb.mono B1.out.size))
  have X2 := Lib.hid (X1.out.keep hb)
  clear hb B1 X1 a0 a1 a2 a3 a4 a5 a6 a7 a8 RC
  obtain ⟨a0, a1, a2, a3, a4, a5, a6, a7, a8⟩ := X2.out.cells
  obtain ⟨tx, er, hf⟩ : ∃ tx er, MX.fmtE L (NT.n (⟨o, [x0, x1, x2, x3, x4, x5], v, A1, c1, k⟩ : NT)) = (tx, er) := ⟨_, _, rfl⟩
  have HF := Lib.hid hf
  unfold fmtV
  rw [hf]
  dsimp only
  have hstx : (str tx).size = tx.length := str_size tx
  have HSX := Lib.hid hstx
  have HDX := Lib.hid (str_data tx)
  clear hf hstx
  by_cases her : er = 0
  case neg =>
    have hb0 : (er != 0) = true := bne_iff_ne.2 her
    clear HF HP HT HOK h6 X2 a0 a1 a2 a3 a4 a5 a6 a7 a8 HSX HDX
    generalize str tx = stx at *
    go_wp2_with fail
    refine (LV.out _ B2.out).mono ?_
    rintro ev w9 ⟨rfl, hb⟩
    have FB := Lib.hid (B2.out.trans (hb.mono B2.out.size))
    clear hb B2 LV
    go_wp2
    go_ret
    exact ⟨rfl, FB.out⟩
  subst her
  obtain ⟨hc0, hn0', hfit, htl, _⟩ := MX.fmt_inv (L := L) (n := NT.n (⟨o, [x0, x1, x2, x3, x4, x5], v, A1, c1, k⟩ : NT)) (by rw [HF.out])
  have hte : tx = MX.txN L (NT.n (⟨o, [x0, x1, x2, x3, x4, x5], v, A1, c1, k⟩ : NT)) := by
    have := (MX.fmt_inv (L := L) (n := NT.n (⟨o, [x0, x1, x2, x3, x4, x5], v, A1, c1, k⟩ : NT)) (by rw [HF.out])).2.2.2.2
    rw [HF.out] at this
    exact (Prod.mk.inj this).1
  by_cases h900 : (900 : Int) < (tx.length : Int)
  · have hb9 : decide ((900 : Int) < ((str tx).size : Int)) = true := by rw [HSX.out]; exact decide_eq_true h900
    clear HF HP HT HOK h6 X2 a0 a1 a2 a3 a4 a5 a6 a7 a8 HSX HDX hte hfit hn0' hc0 htl
    generalize str tx = stx at *
    go_wp2_with fail
    refine (LV.out _ B2.out).mono ?_
    rintro ev w9 ⟨rfl, hb⟩
    have FB := Lib.hid (B2.out.trans (hb.mono B2.out.size))
    clear hb B2 LV
    go_wp2
    go_ret
    exact ⟨rfl, FB.out⟩
  have hb9 : decide ((900 : Int) < ((str tx).size : Int)) = false := by rw [HSX.out]; exact decide_eq_false h900
  have SP9 := Lib.hid (spaced_any (str tx) (by rw [HSX.out]; omega) w2)
  have PSP : Hid (MX.parseE L (str (MX.spc (str tx).data.toList)).data.toList = (NT.n (⟨o, [x0, x1, x2, x3, x4, x5], v, A1, c1, k⟩ : NT), 0)) := Lib.hid (by
    rw [str_data, HDX.out, hte]
    refine MX.parse_spc hc0 hn0' (MX.ok_of hn0' hfit h6.out) ?_
    have := MX.spc_len (MX.txN L (NT.n (⟨o, [x0, x1, x2, x3, x4, x5], v, A1, c1, k⟩ : NT)))
    rw [← hte] at this ⊢
    omega)
  have hss : (str (MX.spc (str tx).data.toList)).size ≤ 9223372036854775807 := by
    rw [str_size]
    have := MX.spc_len (str tx).data.toList
    rw [HDX.out] at this ⊢
    omega
  have HSS := Lib.hid hss
  clear HF HSX HDX hte hfit hn0' hc0 htl h6 h900 hss
  generalize str (MX.spc (str tx).data.toList) = ssp at *
  generalize str tx = stx at *
  go_wp2_with fail
  refine SP9.out.mono ?_
  rintro ev w3 ⟨rfl, hb⟩
  have B3 := Lib.hid (B2.out.trans (hb.mono B2.out.size))
  have X3 := Lib.hid (X2.out.keep hb)
  clear hb B2 X2 a0 a1 a2 a3 a4 a5 a6 a7 a8 SP9 hb9
  obtain ⟨a0, a1, a2, a3, a4, a5, a6, a7, a8⟩ := X3.out.cells
  have PC := Lib.hid (parse12_any A n cp L (ssp) HSS.out w3 (HP.out w3 B3.out) (HT.out.2.keep B3.out))
  go_wp2_with fail
  refine PC.out.mono ?_
  rintro ev b9 ⟨y, rfl, hyn, hyo, hb⟩
  obtain ⟨oy, byy, vy, Ay, cy, ky⟩ := y
  obtain ⟨q0, q1, q2, q3, q4, q5, rfl⟩ := six hyo.six
  have HYN := Lib.hid hyn
  rw [NT.val_lit]
  have BY := below_new b9 (.cells #[.int .i64 oy, .int .i64 q0, .int .i64 q1, .int .i64 q2, .int .i64 q3, .int .i64 q4, .int .i64 q5, .int .i64 vy, .slice Ay ky.len cy] 27)
  have B4a := B3.out.trans (hb.mono B3.out.size)
  have B4 := Lib.hid (B4a.trans (BY.mono B4a.size))
  have X4 := Lib.hid ((X3.out.keep hb).keep BY)
  have YX : Hid (B9 (b9.alloc (.cells #[.int .i64 oy, .int .i64 q0, .int .i64 q1, .int .i64 q2, .int .i64 q3, .int .i64 q4, .int .i64 q5, .int .i64 vy, .slice Ay ky.len cy] 27)) b9.heap.size (.int .i64 oy) (.int .i64 q0) (.int .i64 q1) (.int .i64 q2) (.int .i64 q3) (.int .i64 q4) (.int .i64 q5) (.int .i64 vy) (.slice Ay ky.len cy)) := Lib.hid (heap_new b9 _)
  have YOK := Lib.hid ((hyo.keep (ok' := fun _ => True) (fun _ _ _ => rfl) (Nat.le_refl _) (fun _ _ _ => trivial)).below BY)
  clear hyn hyo hb BY B4a B3 X3 a0 a1 a2 a3 a4 a5 a6 a7 a8 PC
  go_upto_region 7 with (fail)
  obtain ⟨w4, hW9⟩ : ∃ w4, w4 = b9.alloc (.cells #[.int .i64 oy, .int .i64 q0, .int .i64 q1, .int .i64 q2, .int .i64 q3, .int .i64 q4, .int .i64 q5, .int .i64 vy, .slice Ay ky.len cy] 27) := ⟨_, rfl⟩
  rw [← hW9] at B4 X4 YX YOK ⊢
  clear hW9
  obtain ⟨gy, hgy⟩ : ∃ gy, gy = b9.heap.size := ⟨_, rfl⟩
  rw [← hgy] at YX ⊢
  clear hgy b9
  obtain ⟨a0, a1, a2, a3, a4, a5, a6, a7, a8⟩ := X4.out.cells
  obtain ⟨d0, d1, d2, d3, d4, d5, d6, d7, d8⟩ := YX.out.cells
  rw [PSP.out] at HYN ⊢
  dsimp only at HYN ⊢
  have SM := Lib.hid (rsame12_any (⟨o, [x0, x1, x2, x3, x4, x5], v, A1, c1, k⟩ : NT).size (⟨o, [x0, x1, x2, x3, x4, x5], v, A1, c1, k⟩ : NT) (⟨oy, [q0, q1, q2, q3, q4, q5], vy, Ay, cy, ky⟩ : NT) (Nat.le_refl _) w4 _ _ (HOK.out w4 B4.out) YOK.out)
  rw [HYN.out, ME.eqN_self, NT.val_lit, NT.val_lit] at SM
  clear HYN YOK PSP HSS
  go_wp2_with fail
  refine SM.out.mono ?_
  rintro ev w5 ⟨rfl, hb⟩
  have B5 := Lib.hid (B4.out.trans (hb.mono B4.out.size))
  clear hb B4 X4 YX SM a0 a1 a2 a3 a4 a5 a6 a7 a8 d0 d1 d2 d3 d4 d5 d6 d7 d8 HP HT HOK
  go_wp2_with fail
  refine (LV.out _ B5.out).mono ?_
  rintro ev w9 ⟨rfl, hb⟩
  have FB := Lib.hid (B5.out.trans (hb.mono B5.out.size))
  clear hb B5 LV
  go_wp2
  go_ret
  exact ⟨rfl, FB.out⟩
end Go.Proofs.YtcokplikmjegcaaGreatDoor
