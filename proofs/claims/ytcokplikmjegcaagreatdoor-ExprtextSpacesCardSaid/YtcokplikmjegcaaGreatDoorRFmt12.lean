/- The reference's Format: no claim of its own. -/
import Derived.Test.YtcokplikmjegcaaGreatDoorRText12
import Derived.Test.YtcokplikmjegcaaGreatDoorJH
namespace Go.Proofs.YtcokplikmjegcaaGreatDoor
open Go.RowKit
open MC (Pr)
open ME (F Nd)
set_option maxRecDepth 100000 in
set_option maxHeartbeats 8000000 in
theorem rformat12_any (A : Option Addr) (n cp : Nat) (L : List Pr) (x : NT) (hx : x.size ≤ 1000000) (w : World) (hp : Prs w A n cp L) (hok : x.Ok w (fun _ => True)) :
    Calls Tryz.prog 9 #[.slice A n cp, x.val] w (Gives (fmtV L x.n) w) := by
  obtain ⟨o, bb, v, A1, c1, k⟩ := x
  obtain ⟨x0, x1, x2, x3, x4, x5, rfl⟩ := six hok.six
  have h6 : ∀ z ∈ (NT.n (⟨o, [x0, x1, x2, x3, x4, x5], v, A1, c1, k⟩ : NT)).pre, z.b.length = 6 := hok.six_pre
  have B0 := Lib.hid (below_new w (.cells #[.int .i64 o, .int .i64 x0, .int .i64 x1, .int .i64 x2, .int .i64 x3, .int .i64 x4, .int .i64 x5, .int .i64 v, .slice A1 k.len c1] 27))
  have X0 : Hid (B9 (w.alloc (.cells #[.int .i64 o, .int .i64 x0, .int .i64 x1, .int .i64 x2, .int .i64 x3, .int .i64 x4, .int .i64 x5, .int .i64 v, .slice A1 k.len c1] 27)) w.heap.size (.int .i64 o) (.int .i64 x0) (.int .i64 x1) (.int .i64 x2) (.int .i64 x3) (.int .i64 x4) (.int .i64 x5) (.int .i64 v) (.slice A1 k.len c1)) := Lib.hid (heap_new _ _)
  have CL := Lib.hid (fun w' (hb : Below w.heap.size w w') => rcheck8_any A n cp L w' (hp.keep hb))
  have CX := Lib.hid (fun w' (hb : Below w.heap.size w w') => rcheck_any (⟨o, [x0, x1, x2, x3, x4, x5], v, A1, c1, k⟩ : NT) hx w' (fun _ => True) (hok.below hb))
  have CF := Lib.hid (fun w' (hb : Below w.heap.size w w') => rfits12_any A n cp L 1000000 (⟨o, [x0, x1, x2, x3, x4, x5], v, A1, c1, k⟩ : NT) hx w' (fun _ => True) (hp.keep hb) (hok.below hb))
  have HP := Lib.hid hp
  have HO := Lib.hid hok
  rw [NT.val_lit] at CX CF ⊢
  clear hp hok
  go_enter Tryz.func9, Tryz.ntmps9
  go_upto_region 1 with (fail)
  obtain ⟨W0, hW0⟩ : ∃ W0, W0 = w.alloc (.cells #[.int .i64 o, .int .i64 x0, .int .i64 x1, .int .i64 x2, .int .i64 x3, .int .i64 x4, .int .i64 x5, .int .i64 v, .slice A1 k.len c1] 27) := ⟨_, rfl⟩
  rw [← hW0] at B0 X0 ⊢
  clear hW0
  go_wp2_with fail
  refine (CL.out _ B0.out).mono ?_
  rintro ev w1 ⟨rfl, hb⟩
  have B1 := Lib.hid (B0.out.trans (hb.mono B0.out.size))
  have X1 := Lib.hid (X0.out.keep hb)
  clear hb B0 X0 CL
  by_cases hL : MC.chkL L = 0
  case neg =>
    have hne : (MC.chkL L != 0) = true := bne_iff_ne.2 hL
    have R := Lib.hid (ret_fmt (L := L) (n := NT.n (⟨o, [x0, x1, x2, x3, x4, x5], v, A1, c1, k⟩ : NT)) (s := []) (e := MC.chkL L) (by unfold MX.fmtE; rw [if_pos hL]))
    generalize MC.chkL L = kk at *
    clear hL CX CF
    go_wp2
    refine bodyPost_ret (v := .tuple #[.string ⟨#[]⟩, .int .i64 kk]) (by simp [results, Tryz.results9, go_sem]) rfl ?_
    exact ⟨R.out, B1.out⟩
  rw [hL]
  obtain ⟨a0, a1, a2, a3, a4, a5, a6, a7, a8⟩ := X1.out.cells
  go_wp2_with fail
  refine (CX.out _ B1.out).mono ?_
  rintro ev w2 ⟨rfl, hb⟩
  have B2 := Lib.hid (B1.out.trans (hb.mono B1.out.size))
  have X2 := Lib.hid (X1.out.keep hb)
  clear hb B1 X1 CX a0 a1 a2 a3 a4 a5 a6 a7 a8
  by_cases hN : ME.checkE (NT.n (⟨o, [x0, x1, x2, x3, x4, x5], v, A1, c1, k⟩ : NT)) = 0
  case neg =>
    have hne : (ME.checkE (NT.n (⟨o, [x0, x1, x2, x3, x4, x5], v, A1, c1, k⟩ : NT)) != 0) = true := bne_iff_ne.2 hN
    have R := Lib.hid (ret_fmt (L := L) (n := NT.n (⟨o, [x0, x1, x2, x3, x4, x5], v, A1, c1, k⟩ : NT)) (s := []) (e := ME.checkE (NT.n (⟨o, [x0, x1, x2, x3, x4, x5], v, A1, c1, k⟩ : NT))) (by unfold MX.fmtE; rw [if_neg (by simpa using hL), if_pos hN]))
    generalize ME.checkE (NT.n (⟨o, [x0, x1, x2, x3, x4, x5], v, A1, c1, k⟩ : NT)) = kk at *
    clear hL hN CF
    go_wp2
    refine bodyPost_ret (v := .tuple #[.string ⟨#[]⟩, .int .i64 kk]) (by simp [results, Tryz.results9, go_sem]) rfl ?_
    exact ⟨R.out, B2.out⟩
  rw [hN]
  have hiff := allFit_iff (L := L) h6
  have HIF := Lib.hid hiff
  obtain ⟨a0, a1, a2, a3, a4, a5, a6, a7, a8⟩ := X2.out.cells
  clear hiff
  generalize hbf : allFit L (NT.n (⟨o, [x0, x1, x2, x3, x4, x5], v, A1, c1, k⟩ : NT)).pre = bf at *
  clear hbf
  go_wp2_with fail
  refine (CF.out _ B2.out).mono ?_
  rintro ev w3 ⟨rfl, hb⟩
  have B3 := Lib.hid (B2.out.trans (hb.mono B2.out.size))
  have X3 := Lib.hid (X2.out.keep hb)
  clear hb B2 X2 CF a0 a1 a2 a3 a4 a5 a6 a7 a8
  cases bf with
  | false =>
    have hF : ¬ MX.FitN L (NT.n (⟨o, [x0, x1, x2, x3, x4, x5], v, A1, c1, k⟩ : NT)) := fun h => by have := HIF.out.2 h; cases this
    have R := Lib.hid (ret_fmt (L := L) (n := NT.n (⟨o, [x0, x1, x2, x3, x4, x5], v, A1, c1, k⟩ : NT)) (s := []) (e := 4) (by unfold MX.fmtE; rw [if_neg (by simpa using hL), if_neg (by simpa using hN), if_pos hF]))
    clear hL hN hF HIF
    go_wp2
    refine bodyPost_ret (v := .tuple #[.string ⟨#[]⟩, .int .i64 4]) (by simp [results, Tryz.results9, go_sem]) rfl ?_
    exact ⟨R.out, B3.out⟩
  | true =>
    have hFN : MX.FitN L (NT.n (⟨o, [x0, x1, x2, x3, x4, x5], v, A1, c1, k⟩ : NT)) := HIF.out.1 rfl
    have HOK := MX.ok_of hN hFN h6
    have hsz := (ME.checkE_zero.1 hN).2.1
    rw [NT.size_n] at hsz
    have EF := Lib.hid (show MX.fmtE L (NT.n (⟨o, [x0, x1, x2, x3, x4, x5], v, A1, c1, k⟩ : NT)) = if 4000 < (MX.txN L (NT.n (⟨o, [x0, x1, x2, x3, x4, x5], v, A1, c1, k⟩ : NT))).length then ([], 3) else (MX.txN L (NT.n (⟨o, [x0, x1, x2, x3, x4, x5], v, A1, c1, k⟩ : NT)), 0) by unfold MX.fmtE; rw [if_neg (by simpa using hL), if_neg (by simpa using hN), if_neg (by simpa using hFN)])
    have CT := rtext12_any A n cp L 8000 (⟨o, [x0, x1, x2, x3, x4, x5], v, A1, c1, k⟩ : NT) (by omega) (Nat.le_refl _) w3 (fun _ => True) (HP.out.keep B3.out) (HO.out.below B3.out) HOK
    rw [NT.val_lit] at CT
    have CT := Lib.hid CT
    have hsl : (str (MX.txN L (NT.n (⟨o, [x0, x1, x2, x3, x4, x5], v, A1, c1, k⟩ : NT)))).size = (MX.txN L (NT.n (⟨o, [x0, x1, x2, x3, x4, x5], v, A1, c1, k⟩ : NT))).length := str_size _
    clear hL hN hFN HIF HOK hsz h6
    generalize MX.txN L (NT.n (⟨o, [x0, x1, x2, x3, x4, x5], v, A1, c1, k⟩ : NT)) = tx at *
    obtain ⟨a0, a1, a2, a3, a4, a5, a6, a7, a8⟩ := X3.out.cells
    go_wp2_with fail
    refine CT.out.mono ?_
    rintro ev w4 ⟨rfl, hb⟩
    have B4 := Lib.hid (B3.out.trans (hb.mono B3.out.size))
    clear hb CT B3 X3 a0 a1 a2 a3 a4 a5 a6 a7 a8
    by_cases h4 : 4000 < tx.length
    · have R := Lib.hid (ret_fmt (EF.out.trans (if_pos h4)))
      have h4' : (4000 : Int) < ((str tx).size : Int) := by omega
      clear EF h4 hsl
      generalize str tx = st at *
      go_wp2
      refine bodyPost_ret (v := .tuple #[.string ⟨#[]⟩, .int .i64 3]) (by simp [results, Tryz.results9, go_sem]) rfl ?_
      exact ⟨R.out, B4.out⟩
    · have R := Lib.hid (ret_fmt (EF.out.trans (if_neg h4)))
      have h4' : ¬ (4000 : Int) < ((str tx).size : Int) := by omega
      clear EF h4 hsl
      generalize str tx = st at *
      go_wp2
      refine bodyPost_ret (v := .tuple #[.string st, .int .i64 0]) (by simp [results, Tryz.results9, go_sem]) rfl ?_
      exact ⟨R.out, B4.out⟩
end Go.Proofs.YtcokplikmjegcaaGreatDoor
