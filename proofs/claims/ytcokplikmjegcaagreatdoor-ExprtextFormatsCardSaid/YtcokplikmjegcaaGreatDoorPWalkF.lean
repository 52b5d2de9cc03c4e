/- The statement ExprtextFormats, walked: no claim of its own. -/
import Derived.Test.YtcokplikmjegcaaGreatDoorLives
import Derived.Test.YtcokplikmjegcaaGreatDoorJQ
import Derived.Test.YtcokplikmjegcaaGreatDoorRFmt12
import Derived.Test.YtcokplikmjegcaaGreatDoorCOpen
import Derived.BigQuiet
namespace Go.Proofs.YtcokplikmjegcaaGreatDoor
open Go.RowKit
open ME (F Nd)
open MC (Pr)
set_option maxRecDepth 100000 in
set_option maxHeartbeats 8000000 in
theorem exprtextFormats_walk (A : Option Addr) (n cp : Nat) (L : List Pr) (x : NT) (w : World) (h : PrsIn w A n cp L) (hok : x.Ok w (fun _ => True)) (hT : Tab w ∧ Ops w) : Calls Tryz.prog 3 #[.slice A n cp, x.val] w (Gives (.bool true) w) := by
  have WG := Lib.hid (fun w' (hb : Below w.heap.size w w') => rweigh_any x.size x (Nat.le_refl _) 61 (by decide) (by decide) w' (fun _ => True) (hok.below hb))
  have LV := Lib.hid (fun w' (hb : Below w.heap.size w w') => lives12_any w' (hT.1.keep hb) (hT.2.keep hb))
  have HPn := Lib.hid (fun w' (hb : Below w.heap.size w w') (hle : n ≤ 100) => (h.prs hle).keep hb)
  have HT := Lib.hid hT
  have HOK := Lib.hid (fun w' (hb : Below w.heap.size w w') => hok.below hb)
  clear h hT
  obtain ⟨sz, hsz⟩ : ∃ sz, sz = x.size := ⟨_, rfl⟩
  rw [← hsz] at WG
  have HSZ := Lib.hid hsz
  have HX := Lib.hid (show ∀ w', x.Ok w' (fun _ => True) → x.b.length = 6 from fun _ q => q.six)
  obtain ⟨o, bb, v, A1, c1, k⟩ := x
  obtain ⟨x0, x1, x2, x3, x4, x5, rfl⟩ := six hok.six
  have h6 := Lib.hid hok.six_pre
  clear HX hok hsz
  rw [NT.val_lit] at WG ⊢
  have B0 := Lib.hid (below_new w (.cells #[.int .i64 o, .int .i64 x0, .int .i64 x1, .int .i64 x2, .int .i64 x3, .int .i64 x4, .int .i64 x5, .int .i64 v, .slice A1 k.len c1] 27))
  have X0 : Hid (B9 (w.alloc (.cells #[.int .i64 o, .int .i64 x0, .int .i64 x1, .int .i64 x2, .int .i64 x3, .int .i64 x4, .int .i64 x5, .int .i64 v, .slice A1 k.len c1] 27)) w.heap.size (.int .i64 o) (.int .i64 x0) (.int .i64 x1) (.int .i64 x2) (.int .i64 x3) (.int .i64 x4) (.int .i64 x5) (.int .i64 v) (.slice A1 k.len c1)) := Lib.hid (heap_new w (.cells #[.int .i64 o, .int .i64 x0, .int .i64 x1, .int .i64 x2, .int .i64 x3, .int .i64 x4, .int .i64 x5, .int .i64 v, .slice A1 k.len c1] 27))
  go_enter Tryz.func3, Tryz.ntmps3
  go_upto_region 1 with (fail)
  obtain ⟨W0, hW0⟩ : ∃ W0, W0 = w.alloc (.cells #[.int .i64 o, .int .i64 x0, .int .i64 x1, .int .i64 x2, .int .i64 x3, .int .i64 x4, .int .i64 x5, .int .i64 v, .slice A1 k.len c1] 27) := ⟨_, rfl⟩
  rw [← hW0] at B0 X0 ⊢
  clear hW0
  obtain ⟨a0, a1, a2, a3, a4, a5, a6, a7, a8⟩ := X0.out.cells
  by_cases hl : (10 : Int) < n
  · have hlb : decide ((10 : Int) < n) = true := decide_eq_true hl
    clear HPn HT HOK WG HSZ h6
    go_wp2_with fail
    refine (LV.out _ B0.out).mono ?_
    rintro ev w1 ⟨rfl, hb⟩
    have FB := Lib.hid (B0.out.trans (hb.mono B0.out.size))
    clear hb B0 X0 a0 a1 a2 a3 a4 a5 a6 a7 a8 LV
    go_wp2
    go_ret
    exact ⟨rfl, FB.out⟩
  have hlb : decide ((10 : Int) < n) = false := decide_eq_false hl
  have HP := Lib.hid (fun w' (hb : Below w.heap.size w w') => HPn.out w' hb (by omega))
  clear HPn
  go_wp2_with fail
  refine (WG.out _ B0.out).mono ?_
  rintro ev w1 ⟨rfl, hb⟩
  have B1 := Lib.hid (B0.out.trans (hb.mono B0.out.size))
  have X1 := Lib.hid (X0.out.keep hb)
  clear hb B0 X0 a0 a1 a2 a3 a4 a5 a6 a7 a8 WG
  obtain ⟨a0, a1, a2, a3, a4, a5, a6, a7, a8⟩ := X1.out.cells
  obtain ⟨mn, hmn⟩ : ∃ mn : Nat, mn = min sz 61 := ⟨_, rfl⟩
  rw [← hmn]
  by_cases hw : (60 : Int) < mn
  · have hwb : decide ((60 : Int) < mn) = true := decide_eq_true hw
    clear HP HT HOK HSZ h6
    go_wp2_with fail
    refine (LV.out _ B1.out).mono ?_
    rintro ev w2 ⟨rfl, hb⟩
    have FB := Lib.hid (B1.out.trans (hb.mono B1.out.size))
    clear hb B1 X1 a0 a1 a2 a3 a4 a5 a6 a7 a8 LV
    go_wp2
    go_ret
    exact ⟨rfl, FB.out⟩
  have hwb : decide ((60 : Int) < mn) = false := decide_eq_false hw
  have hsz60 : sz ≤ 60 := by omega
  clear hmn
  rw [HSZ.out] at hsz60
  have FC := Lib.hid (format12_any A n cp L (⟨o, [x0, x1, x2, x3, x4, x5], v, A1, c1, k⟩ : NT) (by omega) w1 (HP.out w1 B1.out) (HOK.out w1 B1.out) (HT.out.1.keep B1.out) (HT.out.2.keep B1.out))
  rw [NT.val_lit] at FC
  go_wp2_with fail
  refine FC.out.mono ?_
  rintro ev w2 ⟨rfl, hb⟩
  have B2 := Lib.hid (B1.out.trans (hb.mono B1.out.size))
  have X2 := Lib.hid (X1.out.keep hb)
  clear hb B1 X1 a0 a1 a2 a3 a4 a5 a6 a7 a8 FC
  obtain ⟨a0, a1, a2, a3, a4, a5, a6, a7, a8⟩ := X2.out.cells
  obtain ⟨tx, er, hf⟩ : ∃ tx er, MX.fmtE L (NT.n (⟨o, [x0, x1, x2, x3, x4, x5], v, A1, c1, k⟩ : NT)) = (tx, er) := ⟨_, _, rfl⟩
  have HF := Lib.hid hf
  unfold fmtV
  rw [hf]
  dsimp only
  have RC := Lib.hid (rformat12_any A n cp L (⟨o, [x0, x1, x2, x3, x4, x5], v, A1, c1, k⟩ : NT) (by omega) w2 (HP.out w2 B2.out) (HOK.out w2 B2.out))
  rw [NT.val_lit] at RC
  go_wp2_with fail
  refine RC.out.mono ?_
  rintro ev w3 ⟨rfl, hb⟩
  have B3 := Lib.hid (B2.out.trans (hb.mono B2.out.size))
  have X3 := Lib.hid (X2.out.keep hb)
  clear hb B2 X2 a0 a1 a2 a3 a4 a5 a6 a7 a8 RC
  obtain ⟨a0, a1, a2, a3, a4, a5, a6, a7, a8⟩ := X3.out.cells
  unfold fmtV
  rw [HF.out]
  dsimp only
  clear HF hf HP HT HOK h6 X3 a0 a1 a2 a3 a4 a5 a6 a7 a8
  have ee : (er == er) = true := beq_self_eq_true er
  have et : ((str tx).toList == (str tx).toList) = true := beq_self_eq_true _
  generalize str tx = stx at *
  go_wp2_with fail
  refine (LV.out _ B3.out).mono ?_
  rintro ev w9 ⟨rfl, hb⟩
  have FB := Lib.hid (B3.out.trans (hb.mono B3.out.size))
  clear hb B3 LV
  go_wp2
  go_ret
  exact ⟨rfl, FB.out⟩
end Go.Proofs.YtcokplikmjegcaaGreatDoor
