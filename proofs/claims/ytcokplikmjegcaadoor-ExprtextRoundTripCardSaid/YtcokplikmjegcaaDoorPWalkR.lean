/- The statement ExprtextRoundTrip, walked: no claim of its own. -/
import Derived.Test.YtcokplikmjegcaaDoorLives
import Derived.Test.YtcokplikmjegcaaDoorJQ
import Derived.Test.YtcokplikmjegcaaDoorCOpen
import Derived.BigQuiet
namespace Go.Proofs.YtcokplikmjegcaaDoor
open Go.RowKit
open ME (F Nd)
open MC (Pr)
set_option maxRecDepth 100000 in
set_option maxHeartbeats 8000000 in
theorem exprtextRoundTrip_walk (A : Option Addr) (n cp : Nat) (L : List Pr) (x : NT) (w : World) (h : PrsIn w A n cp L) (hok : x.Ok w (fun _ => True)) (hT : Tab w ∧ Ops w) : Calls Tryd.prog 3 #[.slice A n cp, x.val] w (Gives (.bool true) w) := by
  have WG := Lib.hid (fun w' (hb : Below w.heap.size w w') => rweigh_any x.size x (Nat.le_refl _) 61 (by decide) (by decide) w' (fun _ => True) (hok.below hb))
  have LV := Lib.hid (fun w' (hb : Below w.heap.size w w') => lives12_any w' (hT.1.keep hb) (hT.2.keep hb))
  have HPn := Lib.hid (fun w' (hb : Below w.heap.size w w') (hle : n ≤ 100) => (h.prs hle).keep hb)
  have HT := Lib.hid hT
  have HOK := Lib.hid (fun w' (hb : Below w.heap.size w w') => hok.below hb)
  clear h hT
  obtain ⟨sz, hsz⟩ : ∃ sz, sz = x.size := ⟨_, rfl⟩
  rw [← hsz] at WG
  have HSZ := Lib.hid hsz
  have HX := Lib.hid (show ∀ w', x.Ok w' (fun _ => True) → x.b.length = 6 from fun _ q => q.six)
  obtain ⟨o, bb, v, A1, c1, k⟩ := x
  obtain ⟨x0, x1, x2, x3, x4, x5, rfl⟩ := six hok.six
  have h6 := Lib.hid hok.six_pre
  clear HX hok hsz
  rw [NT.val_lit] at WG ⊢
  have B0 := Lib.hid (below_new w (.cells #[.int .i64 o, .int .i64 x0, .int .i64 x1, .int .i64 x2, .int .i64 x3, .int .i64 x4, .int .i64 x5, .int .i64 v, .slice A1 k.len c1] 27))
  have X0 : Hid (B9 (w.alloc (.cells #[.int .i64 o, .int .i64 x0, .int .i64 x1, .int .i64 x2, .int .i64 x3, .int .i64 x4, .int .i64 x5, .int .i64 v, .slice A1 k.len c1] 27)) w.heap.size (.int .i64 o) (.int .i64 x0) (.int .i64 x1) (.int .i64 x2) (.int .i64 x3) (.int .i64 x4) (.int .i64 x5) (.int .i64 v) (.slice A1 k.len c1)) := Lib.hid (heap_new w (.cells #[.int .i64 o, .int .i64 x0, .int .i64 x1, .int .i64 x2, .int .i64 x3, .int .i64 x4, .int .i64 x5, .int .i64 v, .slice A1 k.len c1] 27))
  go_enter Tryd.func3, Tryd.ntmps3
  go_upto_region 1 with (fail)
  obtain ⟨W0, hW0⟩ : ∃ W0, W0 = w.alloc (.cells #[.int .i64 o, .int .i64 x0, .int .i64 x1, .int .i64 x2, .int .i64 x3, .int .i64 x4, .int .i64 x5, .int .i64 v, .slice A1 k.len c1] 27) := ⟨_, rfl⟩
  rw [← hW0] at B0 X0 ⊢
  clear hW0
  obtain ⟨a0, a1, a2, a3, a4, a5, a6, a7, a8⟩ := X0.out.cells
  by_cases hl : (10 : Int) < n
  · have hlb : decide ((10 : Int) < n) = true := decide_eq_true hl
    clear HPn HT HOK WG HSZ h6
    go_wp2_with fail
    refine (LV.out _ B0.out).mono ?_
    rintro ev w1 ⟨rfl, hb⟩
    have FB := Lib.hid (B0.out.trans (hb.mono B0.out.size))
    clear hb B0 X0 a0 a1 a2 a3 a4 a5 a6 a7 a8 LV
    go_wp2
    go_ret
    exact ⟨rfl, FB.out⟩
  have hlb : decide ((10 : Int) < n) = false := decide_eq_false hl
  have HP := Lib.hid (fun w' (hb : Below w.heap.size w w') => HPn.out w' hb (by omega))
  clear HPn
  go_wp2_with fail
  refine (WG.out _ B0.out).mono ?_
  rintro ev w1 ⟨rfl, hb⟩
  have B1 := Lib.hid (B0.out.trans (hb.mono B0.out.size))
  have X1 := Lib.hid (X0.out.keep hb)
  clear hb B0 X0 a0 a1 a2 a3 a4 a5 a6 a7 a8 WG
  obtain ⟨a0, a1, a2, a3, a4, a5, a6, a7, a8⟩ := X1.out.cells
  obtain ⟨mn, hmn⟩ : ∃ mn : Nat, mn = min sz 61 := ⟨_, rfl⟩
  rw [← hmn]
  by_cases hw : (60 : Int) < mn
  · have hwb : decide ((60 : Int) < mn) = true := decide_eq_true hw
    clear HP HT HOK HSZ h6
    go_wp2_with fail
    refine (LV.out _ B1.out).mono ?_
    rintro ev w2 ⟨rfl, hb⟩
    have FB := Lib.hid (B1.out.trans (hb.mono B1.out.size))
    clear hb B1 X1 a0 a1 a2 a3 a4 a5 a6 a7 a8 LV
    go_wp2
    go_ret
    exact ⟨rfl, FB.out⟩
  have hwb : decide ((60 : Int) < mn) = false := decide_eq_false hw
  have hsz60 : sz ≤ 60 := by omega
  clear hmn
  rw [HSZ.out] at hsz60
  have FC := Lib.hid (format12_any A n cp L (⟨o, [x0, x1, x2, x3, x4, x5], v, A1, c1, k⟩ : NT) (by omega) w1 (HP.out w1 B1.out) (HOK.out w1 B1.out) (HT.out.1.keep B1.out) (HT.out.2.keep B1.out))
  rw [NT.val_lit] at FC
  go_wp2_with fail
  refine FC.out.mono ?_
  rintro ev w2 ⟨rfl, hb⟩
  have B2 := Lib.hid (B1.out.trans (hb.mono B1.out.size))
  have X2 := Lib.hid (X1.out.keep hb)
  clear hb B1 X1 a0 a1 a2 a3 a4 a5 a6 a7 a8 FC
  obtain ⟨a0, a1, a2, a3, a4, a5, a6, a7, a8⟩ := X2.out.cells
  obtain ⟨tx, er, hf⟩ : ∃ tx er, MX.fmtE L (NT.n (⟨o, [x0, x1, x2, x3, x4, x5], v, A1, c1, k⟩ : NT)) = (tx, er) := ⟨_, _, rfl⟩
  have HF := Lib.hid hf
  unfold fmtV
  rw [hf]
  dsimp only
  clear hf
  by_cases her : er = 0
  case neg =>
    have hb0 : (er != 0) = true := bne_iff_ne.2 her
    have htx : tx = [] := by
      have := MX.fmt_dead (L := L) (n := NT.n (⟨o, [x0, x1, x2, x3, x4, x5], v, A1, c1, k⟩ : NT)) (by rw [HF.out]; exact her)
      rw [HF.out] at this
      exact this
    have hs1 : ((str tx).toList == ([] : List UInt8)) = true := by rw [htx, ByteArray.toList_eq, str_data]; rfl
    have hs2 : (str tx).toList.isEmpty = true := by rw [htx, ByteArray.toList_eq, str_data]; rfl
    clear HF HP HT HOK h6 X2 a0 a1 a2 a3 a4 a5 a6 a7 a8 htx
    generalize str tx = stx at *
    go_wp2_with fail
    refine (LV.out _ B2.out).mono ?_
    rintro ev w9 ⟨rfl, hb⟩
    have FB := Lib.hid (B2.out.trans (hb.mono B2.out.size))
    clear hb B2 LV
    go_wp2
    go_ret
    exact ⟨rfl, FB.out⟩
  subst her
  have hb0 : ((0 : Int) != 0) = false := rfl
  obtain ⟨hc0, hn0', hfit, htl, hft⟩ := MX.fmt_inv (L := L) (n := NT.n (⟨o, [x0, x1, x2, x3, x4, x5], v, A1, c1, k⟩ : NT)) (by rw [HF.out])
  have hte : tx = MX.txN L (NT.n (⟨o, [x0, x1, x2, x3, x4, x5], v, A1, c1, k⟩ : NT)) := by
    rw [HF.out] at hft
    exact (Prod.mk.inj hft).1
  have PSP : Hid (MX.parseE L (str tx).data.toList = (NT.n (⟨o, [x0, x1, x2, x3, x4, x5], v, A1, c1, k⟩ : NT), 0)) := Lib.hid (by
    rw [str_data, hte]
    exact MX.parse_text hc0 hn0' (MX.ok_of hn0' hfit h6.out) htl)
  have HSS : Hid ((str tx).size ≤ 9223372036854775807) := Lib.hid (by rw [str_size, hte]; omega)
  have HFF : Hid (fmtV L (NT.n (⟨o, [x0, x1, x2, x3, x4, x5], v, A1, c1, k⟩ : NT)) = .tuple #[.string (str tx), .int .i64 0]) := Lib.hid (by unfold fmtV; rw [HF.out])
  clear HF hte hfit hn0' hc0 htl h6 hft
  generalize str tx = stx at *
  have PC := Lib.hid (parse12_any A n cp L (stx) HSS.out w2 (HP.out w2 B2.out) (HT.out.2.keep B2.out))
  go_wp2_with fail
  refine PC.out.mono ?_
  rintro ev b9 ⟨y, rfl, hyn, hyo, hb⟩
  obtain ⟨oy, byy, vy, Ay, cy, ky⟩ := y
  obtain ⟨q0, q1, q2, q3, q4, q5, rfl⟩ := six hyo.six
  have HYN := Lib.hid hyn
  rw [NT.val_lit]
  have BY := below_new b9 (.cells #[.int .i64 oy, .int .i64 q0, .int .i64 q1, .int .i64 q2, .int .i64 q3, .int .i64 q4, .int .i64 q5, .int .i64 vy, .slice Ay ky.len cy] 27)
  have B4a := B2.out.trans (hb.mono B2.out.size)
  have B4 := Lib.hid (B4a.trans (BY.mono B4a.size))
  have X4 := Lib.hid ((X2.out.keep hb).keep BY)
  have YX : Hid (B9 (b9.alloc (.cells #[.int .i64 oy, .int .i64 q0, .int .i64 q1, .int .i64 q2, .int .i64 q3, .int .i64 q4, .int .i64 q5, .int .i64 vy, .slice Ay ky.len cy] 27)) b9.heap.size (.int .i64 oy) (.int .i64 q0) (.int .i64 q1) (.int .i64 q2) (.int .i64 q3) (.int .i64 q4) (.int .i64 q5) (.int .i64 vy) (.slice Ay ky.len cy)) := Lib.hid (heap_new b9 _)
  have YOK := Lib.hid ((hyo.keep (ok' := fun _ => True) (fun _ _ _ => rfl) (Nat.le_refl _) (fun _ _ _ => trivial)).below BY)
  clear hyn hyo hb BY B4a B2 X2 a0 a1 a2 a3 a4 a5 a6 a7 a8 PC
  go_upto_region 7 with (fail)
  obtain ⟨w4, hW9⟩ : ∃ w4, w4 = b9.alloc (.cells #[.int .i64 oy, .int .i64 q0, .int .i64 q1, .int .i64 q2, .int .i64 q3, .int .i64 q4, .int .i64 q5, .int .i64 vy, .slice Ay ky.len cy] 27) := ⟨_, rfl⟩
  rw [← hW9] at B4 X4 YX YOK ⊢
  clear hW9
  obtain ⟨gy, hgy⟩ : ∃ gy, gy = b9.heap.size := ⟨_, rfl⟩
  rw [← hgy] at YX ⊢
  clear hgy b9
  obtain ⟨a0, a1, a2, a3, a4, a5, a6, a7, a8⟩ := X4.out.cells
  obtain ⟨d0, d1, d2, d3, d4, d5, d6, d7, d8⟩ := YX.out.cells
  rw [PSP.out] at HYN ⊢
  dsimp only at HYN ⊢
  have hys : NT.size (⟨oy, [q0, q1, q2, q3, q4, q5], vy, Ay, cy, ky⟩ : NT) ≤ 60 := by
    rw [← NT.size_n, HYN.out, NT.size_n]
    exact hsz60
  have FC := Lib.hid (format12_any A n cp L (⟨oy, [q0, q1, q2, q3, q4, q5], vy, Ay, cy, ky⟩ : NT) (by omega) w4 (HP.out w4 B4.out) YOK.out (HT.out.1.keep B4.out) (HT.out.2.keep B4.out))
  rw [HYN.out, HFF.out, NT.val_lit] at FC
  clear hys HFF
  go_wp2_with fail
  refine FC.out.mono ?_
  rintro ev w5 ⟨rfl, hb⟩
  have B5 := Lib.hid (B4.out.trans (hb.mono B4.out.size))
  have X5 := Lib.hid (X4.out.keep hb)
  have YX5 := Lib.hid (YX.out.keep hb)
  have YK5 := Lib.hid (YOK.out.below hb)
  clear hb B4 X4 YX YOK FC a0 a1 a2 a3 a4 a5 a6 a7 a8 d0 d1 d2 d3 d4 d5 d6 d7 d8
  obtain ⟨a0, a1, a2, a3, a4, a5, a6, a7, a8⟩ := X5.out.cells
  obtain ⟨d0, d1, d2, d3, d4, d5, d6, d7, d8⟩ := YX5.out.cells
  have SM := Lib.hid (rsame12_any (⟨o, [x0, x1, x2, x3, x4, x5], v, A1, c1, k⟩ : NT).size (⟨o, [x0, x1, x2, x3, x4, x5], v, A1, c1, k⟩ : NT) (⟨oy, [q0, q1, q2, q3, q4, q5], vy, Ay, cy, ky⟩ : NT) (Nat.le_refl _) w5 _ _ (HOK.out w5 B5.out) YK5.out)
  rw [HYN.out, ME.eqN_self, NT.val_lit, NT.val_lit] at SM
  have et : (stx.toList == stx.toList) = true := beq_self_eq_true _
  clear HYN YK5 PSP HSS
  go_wp2_with fail
  refine SM.out.mono ?_
  rintro ev w6 ⟨rfl, hb⟩
  have B6 := Lib.hid (B5.out.trans (hb.mono B5.out.size))
  clear hb B5 X5 YX5 SM a0 a1 a2 a3 a4 a5 a6 a7 a8 d0 d1 d2 d3 d4 d5 d6 d7 d8 HP HT HOK
  go_wp2_with fail
  refine (LV.out _ B6.out).mono ?_
  rintro ev w9 ⟨rfl, hb⟩
  have FB := Lib.hid (B6.out.trans (hb.mono B6.out.size))
  clear hb B6 LV
  go_wp2
  go_ret
  exact ⟨rfl, FB.out⟩
end Go.Proofs.YtcokplikmjegcaaDoor
