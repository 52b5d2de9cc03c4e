/- RExpB, RExpV, joined: no claim of its own. -/
import Derived.Test.YtcokplikmjegcaaGreatDoorJRX
import Derived.Deep.RegionHeld3
import Derived.Deep.DeepCutAuto
import Derived.Deep.AppendLies
namespace Go.Proofs.YtcokplikmjegcaaGreatDoor
open Go.RowKit
open ME (F Nd)
open MC (Pr)
set_option maxRecDepth 100000 in
set_option maxHeartbeats 16000000 in
theorem rexp_bonus (A : Option Addr) (n cp : Nat) (LP : List Pr) (N f g : Nat) (vl at9 : Int) (r : List Tk) (w : World) (IH0 : RExOk A n cp LP N f) (h : SR (fun k => g ≤ k) w g (⟨1, MX.bonusW, vl, at9⟩ :: r) 0) (hrl : r.length < f) (hwd : ∀ t ∈ r, t.kind = 1 → t.text ≠ []) (hf : f + 1 ≤ 100000) (hN : N ≤ g) (hNw : N ≤ w.heap.size) (hP : ∀ w', Below N w w' → Prs w' A n cp LP) (hc : MC.chkL LP = 0) : Calls Tryz.prog 31 #[.slice A n cp, .pointer (some ⟨g, 0, none⟩)] w (fun e w' => ∃ y : NT, e = .returned y.val ∧ ((MX.rdE LP (f + 1) (⟨1, MX.bonusW, vl, at9⟩ :: r) 0).2.2 = 0 → y.n = (MX.rdE LP (f + 1) (⟨1, MX.bonusW, vl, at9⟩ :: r) 0).1) ∧ y.Ok w' (fun k => w.heap.size ≤ k) ∧ SR (fun k => g ≤ k) w' g (MX.rdE LP (f + 1) (⟨1, MX.bonusW, vl, at9⟩ :: r) 0).2.1 (MX.rdE LP (f + 1) (⟨1, MX.bonusW, vl, at9⟩ :: r) 0).2.2 ∧ Mv N g g w w') := by
  suffices H9 : ∀ (PP : Ending → World → Prop), (∀ e w', (∃ y : NT, e = .returned y.val ∧ ((MX.rdE LP (f + 1) (⟨1, MX.bonusW, vl, at9⟩ :: r) 0).2.2 = 0 → y.n = (MX.rdE LP (f + 1) (⟨1, MX.bonusW, vl, at9⟩ :: r) 0).1) ∧ y.Ok w' (fun k => w.heap.size ≤ k) ∧ SR (fun k => g ≤ k) w' g (MX.rdE LP (f + 1) (⟨1, MX.bonusW, vl, at9⟩ :: r) 0).2.1 (MX.rdE LP (f + 1) (⟨1, MX.bonusW, vl, at9⟩ :: r) 0).2.2 ∧ Mv N g g w w') → PP e w') → Calls Tryz.prog 31 #[.slice A n cp, .pointer (some ⟨g, 0, none⟩)] w PP from H9 _ (fun _ _ q => q)
  intro PP hPP
  have POST0 := Lib.hid hPP
  clear hPP
  obtain ⟨ea, hea⟩ : ∃ ea, MX.exE 40 r 0 = ea := ⟨_, rfl⟩
  obtain ⟨ta, hta⟩ : ∃ ta, MX.nxt r ea = ta := ⟨_, rfl⟩
  have HF : Hid (MX.rdE LP (f + 1) (⟨1, MX.bonusW, vl, at9⟩ :: r) 0 = MX.body LP 4 (MX.rdE LP f ta ea) (MX.rdL (MX.rdE LP f) f (MX.rdE LP f ta ea).2.1 (MX.rdE LP f ta ea).2.2)) := Lib.hid (by
    rw [MX.rdE, if_neg (show ¬ MX.hk (⟨1, MX.bonusW, vl, at9⟩ :: r) ≠ 1 from fun q => q rfl), if_neg (show ¬ MX.opW (MX.hw (⟨1, MX.bonusW, vl, at9⟩ :: r)) = 0 from show ¬ MX.opW MX.bonusW = 0 by decide), List.drop_succ_cons, List.drop_zero, hea, hta]
    rfl)
  rw [HF.out] at POST0
  clear HF
  have hsuf : ta <:+ r := by rw [← hta]; exact MX.nxt_suf _ _
  have htaf : ta.length < f := Nat.lt_of_le_of_lt hsuf.length_le hrl
  have HTW := Lib.hid (fun t (ht : t ∈ ta) => hwd t (hsuf.subset ht))
  have IH := Lib.hid IH0
  have RSUF := Lib.hid ((MX.rd_suf LP f ta ea).length_le)
  have RSUB := Lib.hid (fun t (ht : t ∈ (MX.rdE LP f ta ea).2.1) => HTW.out t ((MX.rd_suf LP f ta ea).subset ht))
  obtain ⟨n1, t1, e1, hr1⟩ : ∃ n1 t1 e1, MX.rdE LP f ta ea = (n1, t1, e1) := ⟨_, _, _, rfl⟩
  have HR1 := Lib.hid hr1
  rw [hr1] at POST0 RSUF RSUB
  dsimp only at POST0 RSUF RSUB
  have NM := Lib.hid (fun (w' : World) (hs : SR (fun k => g ≤ k) w' g (⟨1, MX.bonusW, vl, at9⟩ :: r) 0) => rnameU hs)
  have hn0 : nmE (⟨1, MX.bonusW, vl, at9⟩ :: r) 0 = 0 := rfl
  have ht0 : nmT' (⟨1, MX.bonusW, vl, at9⟩ :: r) 0 = MX.bonusW := rfl
  rw [if_pos hn0, hn0, ht0, List.drop_succ_cons, List.drop_zero, show str MX.bonusW = (⟨#[98, 111, 110, 117, 115]⟩ : ByteArray) from rfl] at NM
  have EXP := Lib.hid (fun (w' : World) (hs : SR (fun k => g ≤ k) w' g r 0) => rexpectU 40 hs)
  rw [hea, hta] at EXP
  have HT : Hid (headT (⟨1, MX.bonusW, vl, at9⟩ :: r) = ⟨1, MX.bonusW, vl, at9⟩) := Lib.hid rfl
  have HPs := Lib.hid hP
  have HC := Lib.hid hc
  have etx : str MX.bonusW = (⟨#[98, 111, 110, 117, 115]⟩ : ByteArray) := rfl
  clear hn0 ht0 hP hc hr1 hea hta hsuf IH0 hwd
  have hgw : g < w.heap.size := h.lt
  have B0 := below_new w (.cells #[.int .i64 0, .int .i64 0, .int .i64 0, .int .i64 0, .int .i64 0, .int .i64 0, .int .i64 0, .int .i64 0, .slice none 0 0] 27)
  have RB := Lib.hid (show B9 (w.alloc (.cells #[.int .i64 0, .int .i64 0, .int .i64 0, .int .i64 0, .int .i64 0, .int .i64 0, .int .i64 0, .int .i64 0, .slice none 0 0] 27)) w.heap.size (.int .i64 0) (.int .i64 0) (.int .i64 0) (.int .i64 0) (.int .i64 0) (.int .i64 0) (.int .i64 0) (.int .i64 0) (.slice none 0 0) from heap_new w (.cells #[.int .i64 0, .int .i64 0, .int .i64 0, .int .i64 0, .int .i64 0, .int .i64 0, .int .i64 0, .int .i64 0, .slice none 0 0] 27))
  have HM := Lib.hid ((Mv.refl N g g w).quiet B0 hNw)
  have HS := Lib.hid (h.keep B0)
  have PK := Lib.hid (fun (w' : World) (hs : SR (fun k => g ≤ k) w' g (⟨1, MX.bonusW, vl, at9⟩ :: r) 0) => rpeekU hs)
  clear h B0
  go_enter Tryz.func31, Tryz.ntmps31
  go_upto_region 1 with (fail)
  obtain ⟨W0, hW0⟩ : ∃ W0, W0 = w.alloc (.cells #[.int .i64 0, .int .i64 0, .int .i64 0, .int .i64 0, .int .i64 0, .int .i64 0, .int .i64 0, .int .i64 0, .slice none 0 0] 27) := ⟨_, rfl⟩
  rw [← hW0] at RB HM HS ⊢
  clear hW0
  go_wp2_with fail
  refine (PK.out _ HS.out).mono ?_
  rintro ev w1 ⟨rfl, hb⟩
  unfold aggT
  rw [HT.out]
  dsimp only
  rw [etx]
  have BT := below_new w1 (.cells #[.int .i64 1, .string ⟨#[98, 111, 110, 117, 115]⟩, .int .i64 vl, .int .i64 at9] 105)
  have S2 := Lib.hid ((HS.out.keep hb).keep BT)
  have M2 := Lib.hid ((HM.out.quiet hb hNw).quiet BT hNw)
  have R2 := Lib.hid ((RB.out.keep hb).keep BT)
  have T2 := Lib.hid (heap_new w1 (.cells #[.int .i64 1, .string ⟨#[98, 111, 110, 117, 115]⟩, .int .i64 vl, .int .i64 at9] 105))
  clear hb BT HS HM RB PK HT
  go_upto_region 2 with (fail)
  obtain ⟨W2, hW2⟩ : ∃ W2, W2 = w1.alloc (.cells #[.int .i64 1, .string ⟨#[98, 111, 110, 117, 115]⟩, .int .i64 vl, .int .i64 at9] 105) := ⟨_, rfl⟩
  rw [← hW2] at S2 M2 R2 T2 ⊢
  clear hW2
  generalize w1.heap.size = gt at *
  have c0 : W2.cell? ⟨gt, 0, none⟩ = some (.int .i64 1) := by rw [cell_of_row _ _ _ _ _ _ T2.out]; rfl
  have c1 : W2.cell? ⟨gt, 1, none⟩ = some (.string ⟨#[98, 111, 110, 117, 115]⟩) := by rw [cell_of_row _ _ _ _ _ _ T2.out]; rfl
  have BE := below_new W2 (.cells #[.int .i64 0, .int .i64 0, .int .i64 0, .int .i64 0, .int .i64 0, .int .i64 0, .int .i64 0, .int .i64 0, .slice none 0 0] 27)
  have hgeW : w.heap.size < W2.heap.size := R2.out.lt
  have E3 : Hid (ES N g W2.heap.size 0 0 0 0 0 0 0 0 (.slice none 0 0) (.slice none 0 0) [] (⟨1, MX.bonusW, vl, at9⟩ :: r) 0 w (W2.alloc (.cells #[.int .i64 0, .int .i64 0, .int .i64 0, .int .i64 0, .int .i64 0, .int .i64 0, .int .i64 0, .int .i64 0, .slice none 0 0] 27))) := Lib.hid ⟨S2.out.keep BE, heap_new W2 (.cells #[.int .i64 0, .int .i64 0, .int .i64 0, .int .i64 0, .int .i64 0, .int .i64 0, .int .i64 0, .int .i64 0, .slice none 0 0] 27), OwnL.nil _ _ _, (fun z hz => by cases hz), R2.out.keep BE, M2.out.quiet BE hNw⟩
  clear BE S2 M2 R2 T2
  go_upto_region 6 with (fail)
  obtain ⟨W3, hW3⟩ : ∃ W3, W3 = W2.alloc (.cells #[.int .i64 0, .int .i64 0, .int .i64 0, .int .i64 0, .int .i64 0, .int .i64 0, .int .i64 0, .int .i64 0, .slice none 0 0] 27) := ⟨_, rfl⟩
  rw [← hW3] at E3 ⊢
  clear hW3 c0 c1
  obtain ⟨ge, hgee⟩ : ∃ ge, ge = W2.heap.size := ⟨_, rfl⟩
  rw [← hgee] at E3 hgeW ⊢
  clear hgee W2
  have hge := hgeW
  clear hgeW
  have NM3 := Lib.hid (NM.out _ E3.out.sp)
  clear NM
  go_wp2_with fail
  refine NM3.out.mono ?_
  rintro ev w4 ⟨rfl, hs4, hg4⟩
  have E4 := Lib.hid (E3.out.turn hg4 hs4 hN hNw hgw hge)
  clear hs4 hg4 E3 NM3
  obtain ⟨a0, a1, a2, a3, a4, a5, a6, a7, a8⟩ := E4.out.box.cells
  obtain ⟨f0, f1, f2, f3, f4, f5, f6, f7, f8⟩ := E4.out.box.free
  have hza := E4.out.box.lt
  go_upto_region 17 with (fail)
  have E5 := Lib.hid (E4.out.set0 4 hN hNw hgw hge)
  obtain ⟨W5, hW5⟩ : ∃ W5, W5 = w4.setCell ⟨ge, 0, none⟩ (.int .i64 4) := ⟨_, rfl⟩
  rw [← hW5] at E5 ⊢
  clear hW5 E4 a0 a1 a2 a3 a4 a5 a6 a7 a8 f0 f1 f2 f3 f4 f5 f6 f7 f8 hza
  have EX5 := Lib.hid (EXP.out _ E5.out.sp)
  clear EXP
  go_wp2_with fail
  refine EX5.out.mono ?_
  rintro ev w6 ⟨rfl, hs6, hg6⟩
  have E6 := Lib.hid (E5.out.turn hg6 hs6 hN hNw hgw hge)
  clear hs6 hg6 E5 EX5
  have RX := Lib.hid (IH.out g ta ea w6 htaf (by omega) E6.out.sp hN (Nat.le_trans hNw E6.out.mv.below.size) (fun w' hb => HPs.out w' (E6.out.mv.below.trans hb)) HTW.out)
  rw [HR1.out] at RX
  go_wp2_with fail
  refine RX.out.mono ?_
  rintro ev w7 ⟨y, rfl, hyn, hyo, hs7, hm7⟩
  obtain ⟨oy, byy, vy, Ay, cy, ky⟩ := y
  obtain ⟨p0, p1, p2, p3, p4, p5, rfl⟩ := Proofs.YtcokplikmjegcaaGreatDoor.six hyo.six
  have HYN := Lib.hid hyn
  have E7 := E6.out.turn hm7.grow hs7 hN hNw hgw hge
  have hgy : ge + 1 ≤ w6.heap.size := E6.out.box.lt
  have BY := below_new w7 (.cells #[.int .i64 oy, .int .i64 p0, .int .i64 p1, .int .i64 p2, .int .i64 p3, .int .i64 p4, .int .i64 p5, .int .i64 vy, .slice Ay ky.len cy] 27)
  have hgz : ge + 1 ≤ w7.heap.size := E7.box.lt
  have YK := (hyo.keep (ok' := fun k => ge + 1 ≤ k ∧ k ≠ w7.heap.size) (fun _ _ _ => rfl) (Nat.le_refl _) (fun k q hl => ⟨by omega, by omega⟩)).below BY
  have E8 := Lib.hid (E7.first BY (own_one (heap_new w7 (.cells #[.int .i64 oy, .int .i64 p0, .int .i64 p1, .int .i64 p2, .int .i64 p3, .int .i64 p4, .int .i64 p5, .int .i64 vy, .slice Ay ky.len cy] 27)) (list9 oy p0 p1 p2 p3 p4 p5 vy Ay ky.len cy) rfl hgz) YK hNw)
  rw [NT.val_lit]
  clear hyn hyo hs7 hm7 E6 E7 BY YK RX hgy HR1
  obtain ⟨a0, a1, a2, a3, a4, a5, a6, a7, a8⟩ := E8.out.box.cells
  obtain ⟨f0, f1, f2, f3, f4, f5, f6, f7, f8⟩ := E8.out.box.free
  have hza := E8.out.box.lt
  go_upto_region 19 with (fail)
  have E9 := Lib.hid (E8.out.set8 (.slice (some ⟨w7.heap.size, 0, none⟩) 1 1) hN hNw hgw hge)
  obtain ⟨W9, hW9⟩ : ∃ W9, W9 = (w7.alloc (.cells #[.int .i64 oy, .int .i64 p0, .int .i64 p1, .int .i64 p2, .int .i64 p3, .int .i64 p4, .int .i64 p5, .int .i64 vy, .slice Ay ky.len cy] 27)).setCell ⟨ge, 8, none⟩ (.slice (some ⟨w7.heap.size, 0, none⟩) 1 1) := ⟨_, rfl⟩
  rw [← hW9] at E9 ⊢
  clear hW9 E8 a0 a1 a2 a3 a4 a5 a6 a7 a8 f0 f1 f2 f3 f4 f5 f6 f7 f8 hza
  obtain ⟨gz, hgze⟩ : ∃ gz, gz = w7.heap.size := ⟨_, rfl⟩
  rw [← hgze] at E9 hgz ⊢
  clear hgze w7
  obtain ⟨t2, e2, h2⟩ : ∃ t2 e2, MX.nxt t1 (MX.exE 44 t1 e1) = t2 ∧ MX.exE 44 t1 e1 = e2 := ⟨_, _, rfl, rfl⟩
  have EX6 := Lib.hid (rexpectU 44 E9.out.sp)
  have HE2 : Hid (e2 = 0 → e1 = 0) := Lib.hid (fun q => (MX.ex_zero (h2.2.trans q)).1)
  have hbody : MX.body LP 4 (n1, t1, e1) (MX.rdL (MX.rdE LP f) f t1 e1) = MX.endP ⟨4, (MX.bid LP t2 e2).1, (MX.bid LP t2 e2).2.1, MX.mkF [n1]⟩ (MX.bid LP t2 e2).2.2.1 (MX.bid LP t2 e2).2.2.2 := by
    unfold MX.body MX.body2
    rw [if_neg (by decide), if_pos rfl]
    dsimp only
    rw [h2.1, h2.2]
  rw [hbody] at POST0
  rw [h2.1, h2.2] at EX6
  clear hbody h2 RSUF RSUB HTW IH
  have c0 := E9.out.box.cells.1
  go_wp2_with fail
  refine EX6.out.mono ?_
  rintro ev w10 ⟨rfl, hs10, hg10⟩
  have E10 := Lib.hid (E9.out.turn hg10 hs10 hN hNw hgw hge)
  clear hs10 hg10 E9 EX6 c0
  have PR := Lib.hid (rpriced_any A n cp LP N g t2 e2 w10 E10.out.sp hN (Nat.le_trans hNw E10.out.mv.below.size) (fun w' hb => HPs.out w' (E10.out.mv.below.trans hb)) HC.out)
  have hbl : (MX.bid LP t2 e2).1.length = 6 := by unfold MX.bid MX.bid1 MX.bid2; exact scanU_len _ _ _
  have hbs : (∀ z ∈ (MX.bid LP t2 e2).1, 0 ≤ z ∧ z ≤ 4) ∧ 0 ≤ (MX.bid LP t2 e2).2.1 ∧ (MX.bid LP t2 e2).2.1 ≤ 1000000 := by unfold MX.bid MX.bid1 MX.bid2; exact ⟨scanU_small _ _ _, amtV_small _ _⟩
  have HE3 : Hid ((MX.bid LP t2 e2).2.2.2 = 0 → e1 = 0) := Lib.hid (fun q => HE2.out (MX.bid_zero q).1)
  clear HE2
  obtain ⟨bb, bv, t3, e3, hB⟩ : ∃ bb bv bt be, MX.bid LP t2 e2 = (bb, bv, bt, be) := ⟨_, _, _, _, rfl⟩
  rw [hB] at POST0 PR hbl hbs HE3
  dsimp only at POST0 hbl hbs HE3
  clear hB HPs HC
  obtain ⟨q0, q1, q2, q3, q4, q5, rfl⟩ := Proofs.YtcokplikmjegcaaGreatDoor.six hbl
  have V64 := Lib.hid (show In64 bv from in64_small hbs.2.1 hbs.2.2)
  have B64 := Lib.hid (show ∀ z ∈ ([q0, q1, q2, q3, q4, q5] : List Int), In64 z from fun z hz => by
    have k1 := hbs.1 z hz
    exact in64_small k1.1 (by omega))
  clear hbs hbl
  go_wp2_with fail
  refine PR.out.mono ?_
  rintro ev w11 ⟨rfl, hs11, hm11⟩
  dsimp only at hs11 ⊢
  rw [aggB_lit]
  have E11 := E10.out.turn hm11.grow hs11 hN hNw hgw hge
  have BQ := below_new w11 (.cells #[.int .i64 q0, .int .i64 q1, .int .i64 q2, .int .i64 q3, .int .i64 q4, .int .i64 q5] 24)
  have E12 := Lib.hid (E11.keep BQ hNw)
  have Q12 := Lib.hid (BB.new w11 24 q0 q1 q2 q3 q4 q5)
  have hq12 : ge < w11.heap.size := E11.box.lt
  clear hs11 hm11 BQ E11 E10 PR
  go_upto_region 29 with (fail)
  obtain ⟨w12, hw12⟩ : ∃ w12, w12 = w11.alloc (.cells #[.int .i64 q0, .int .i64 q1, .int .i64 q2, .int .i64 q3, .int .i64 q4, .int .i64 q5] 24) := ⟨_, rfl⟩
  rw [← hw12] at E12 Q12 ⊢
  clear hw12
  obtain ⟨g9, hg9e⟩ : ∃ g9, g9 = w11.heap.size := ⟨_, rfl⟩
  rw [← hg9e] at Q12 hq12 ⊢
  clear hg9e w11
  obtain ⟨s0, s1, s2, s3, s4, s5⟩ := cells6 Q12.out
  obtain ⟨a0, a1, a2, a3, a4, a5, a6, a7, a8⟩ := E12.out.box.cells
  obtain ⟨f0, f1, f2, f3, f4, f5, f6, f7, f8⟩ := E12.out.box.free
  have hza := E12.out.box.lt
  go_upto_region 30 with (fail)
  have E13 := Lib.hid (E12.out.want q0 q1 q2 q3 q4 q5 hN hNw hgw hge)
  obtain ⟨w13, hw13⟩ : ∃ w13, w13 = ((((((w12.setCell ⟨ge, 1, none⟩ (.int .i64 q0)).setCell ⟨ge, 2, none⟩ (.int .i64 q1)).setCell ⟨ge, 3, none⟩ (.int .i64 q2)).setCell ⟨ge, 4, none⟩ (.int .i64 q3)).setCell ⟨ge, 5, none⟩ (.int .i64 q4)).setCell ⟨ge, 6, none⟩ (.int .i64 q5)) := ⟨_, rfl⟩
  rw [← hw13] at E13 ⊢
  clear hw13 E12 a0 a1 a2 a3 a4 a5 a6 a7 a8 f0 f1 f2 f3 f4 f5 f6 f7 f8 hza s0 s1 s2 s3 s4 s5 Q12 hq12
  obtain ⟨a0, a1, a2, a3, a4, a5, a6, a7, a8⟩ := E13.out.box.cells
  obtain ⟨f0, f1, f2, f3, f4, f5, f6, f7, f8⟩ := E13.out.box.free
  have hza := E13.out.box.lt
  go_upto_region 31 with (fail)
  have E14 := Lib.hid (E13.out.set7 bv hN hNw hgw hge)
  obtain ⟨w14, hw14⟩ : ∃ w14, w14 = w13.setCell ⟨ge, 7, none⟩ (.int .i64 bv) := ⟨_, rfl⟩
  rw [← hw14] at E14 ⊢
  clear hw14 E13 a0 a1 a2 a3 a4 a5 a6 a7 a8 f0 f1 f2 f3 f4 f5 f6 f7 f8 hza
  have EX7 := Lib.hid (rexpectU 41 E14.out.sp)
  have HE4 : Hid (MX.exE 41 t3 e3 = 0 → e1 = 0) := Lib.hid (fun q => HE3.out (MX.ex_zero q).1)
  unfold MX.endP at POST0
  dsimp only at POST0
  go_wp2_with fail
  refine EX7.out.mono ?_
  rintro ev w9 ⟨rfl, hs9, hg9⟩
  have E9 := Lib.hid (E14.out.turn hg9 hs9 hN hNw hgw hge)
  clear hs9 hg9 E14 EX7 HE3
  obtain ⟨Ar, cr, hvk, hl, hab⟩ := E9.out.own.form2 (own_few E9.out.own)
  obtain ⟨rfl, rfl⟩ : Ar = some ⟨gz, 0, none⟩ ∧ cr = 1 := by injection hvk with q1 q2 q3; exact ⟨q1.symm, q3.symm⟩
  have KD := Lib.hid (own_kids (ok := fun j => ge + 1 ≤ j) hl (fun ad e => (hab ad e).1) (fun z hz => (E9.out.ok z hz).keep (fun _ _ _ => rfl) (Nat.le_refl _) (fun j q _ => q.1)))
  clear hl hab
  obtain ⟨a0, a1, a2, a3, a4, a5, a6, a7, a8⟩ := E9.out.box.cells
  obtain ⟨r0, r1, r2, r3, r4, r5, r6, r7, r8⟩ := E9.out.rb.cells
  obtain ⟨f0, f1, f2, f3, f4, f5, f6, f7, f8⟩ := E9.out.rb.free
  have hzr := E9.out.rb.lt
  have hza := E9.out.box.lt
  go_wp2
  refine bodyPost_ret (rexp_results _ rfl (by rw [nest_0]; exact E9.out.rb.put _ _ _ _ _ _ _ _ _)) rfl ?_
  rw [nest_0]
  have hgr := grown_setsP (w := w9) (g := w.heap.size) [.int .i64 4, .int .i64 q0, .int .i64 q1, .int .i64 q2, .int .i64 q3, .int .i64 q4, .int .i64 q5, .int .i64 bv, .slice (some ⟨gz, 0, none⟩) 1 1] 0
  have FIN := POST0.out _ _ ⟨⟨4, [q0, q1, q2, q3, q4, q5], bv, some ⟨gz, 0, none⟩, 1, FT.of [(⟨oy, [p0, p1, p2, p3, p4, p5], vy, Ay, cy, ky⟩ : NT)]⟩, rfl, fun q => (by have e := HYN.out (HE4.out q); show (⟨4, [q0, q1, q2, q3, q4, q5], bv, (FT.of [(⟨oy, [p0, p1, p2, p3, p4, p5], vy, Ay, cy, ky⟩ : NT)]).f⟩ : Nd) = ⟨4, [q0, q1, q2, q3, q4, q5], bv, MX.mkF [n1]⟩; rw [← e]; rfl), ⟨rfl, in64_small (z := 4) (by decide) (by decide), V64.out, B64.out, KD.out.keep (fun j q hl => hgr.block j hl (fun e => by have := Option.some.inj e; omega)) hgr.size (fun j q _ => by omega)⟩,
    E9.out.sp.turn hgr (fun k e => ⟨by have := Option.some.inj e; show g ≤ k; omega, by have := Option.some.inj e; omega⟩), E9.out.mv.turn hgr hNw (fun k e => ⟨by have := Option.some.inj e; omega, .inr (.inr (by have := Option.some.inj e; omega))⟩)⟩
  rw [NT.val_lit, FT.of_len] at FIN
  exact FIN
end Go.Proofs.YtcokplikmjegcaaGreatDoor
namespace Go.Proofs.YtcokplikmjegcaaGreatDoor
open Go.RowKit
open ME (F Nd)
open MC (Pr)
set_option maxRecDepth 100000 in
set_option maxHeartbeats 16000000 in
theorem rexp_limit (A : Option Addr) (n cp : Nat) (LP : List Pr) (N f g : Nat) (vl at9 : Int) (r : List Tk) (w : World) (IH0 : RExOk A n cp LP N f) (h : SR (fun k => g ≤ k) w g (⟨1, MX.limitW, vl, at9⟩ :: r) 0) (hrl : r.length < f) (hwd : ∀ t ∈ r, t.kind = 1 → t.text ≠ []) (hf : f + 1 ≤ 100000) (hN : N ≤ g) (hNw : N ≤ w.heap.size) (hP : ∀ w', Below N w w' → Prs w' A n cp LP) (hc : MC.chkL LP = 0) : Calls Tryz.prog 31 #[.slice A n cp, .pointer (some ⟨g, 0, none⟩)] w (fun e w' => ∃ y : NT, e = .returned y.val ∧ ((MX.rdE LP (f + 1) (⟨1, MX.limitW, vl, at9⟩ :: r) 0).2.2 = 0 → y.n = (MX.rdE LP (f + 1) (⟨1, MX.limitW, vl, at9⟩ :: r) 0).1) ∧ y.Ok w' (fun k => w.heap.size ≤ k) ∧ SR (fun k => g ≤ k) w' g (MX.rdE LP (f + 1) (⟨1, MX.limitW, vl, at9⟩ :: r) 0).2.1 (MX.rdE LP (f + 1) (⟨1, MX.limitW, vl, at9⟩ :: r) 0).2.2 ∧ Mv N g g w w') := by
  suffices H9 : ∀ (PP : Ending → World → Prop), (∀ e w', (∃ y : NT, e = .returned y.val ∧ ((MX.rdE LP (f + 1) (⟨1, MX.limitW, vl, at9⟩ :: r) 0).2.2 = 0 → y.n = (MX.rdE LP (f + 1) (⟨1, MX.limitW, vl, at9⟩ :: r) 0).1) ∧ y.Ok w' (fun k => w.heap.size ≤ k) ∧ SR (fun k => g ≤ k) w' g (MX.rdE LP (f + 1) (⟨1, MX.limitW, vl, at9⟩ :: r) 0).2.1 (MX.rdE LP (f + 1) (⟨1, MX.limitW, vl, at9⟩ :: r) 0).2.2 ∧ Mv N g g w w') → PP e w') → Calls Tryz.prog 31 #[.slice A n cp, .pointer (some ⟨g, 0, none⟩)] w PP from H9 _ (fun _ _ q => q)
  intro PP hPP
  have POST0 := Lib.hid hPP
  clear hPP
  obtain ⟨ea, hea⟩ : ∃ ea, MX.exE 40 r 0 = ea := ⟨_, rfl⟩
  obtain ⟨ta, hta⟩ : ∃ ta, MX.nxt r ea = ta := ⟨_, rfl⟩
  have HF : Hid (MX.rdE LP (f + 1) (⟨1, MX.limitW, vl, at9⟩ :: r) 0 = MX.body LP 5 (MX.rdE LP f ta ea) (MX.rdL (MX.rdE LP f) f (MX.rdE LP f ta ea).2.1 (MX.rdE LP f ta ea).2.2)) := Lib.hid (by
    rw [MX.rdE, if_neg (show ¬ MX.hk (⟨1, MX.limitW, vl, at9⟩ :: r) ≠ 1 from fun q => q rfl), if_neg (show ¬ MX.opW (MX.hw (⟨1, MX.limitW, vl, at9⟩ :: r)) = 0 from show ¬ MX.opW MX.limitW = 0 by decide), List.drop_succ_cons, List.drop_zero, hea, hta]
    rfl)
  rw [HF.out] at POST0
  clear HF
  have hsuf : ta <:+ r := by rw [← hta]; exact MX.nxt_suf _ _
  have htaf : ta.length < f := Nat.lt_of_le_of_lt hsuf.length_le hrl
  have HTW := Lib.hid (fun t (ht : t ∈ ta) => hwd t (hsuf.subset ht))
  have IH := Lib.hid IH0
  have RSUF := Lib.hid ((MX.rd_suf LP f ta ea).length_le)
  have RSUB := Lib.hid (fun t (ht : t ∈ (MX.rdE LP f ta ea).2.1) => HTW.out t ((MX.rd_suf LP f ta ea).subset ht))
  obtain ⟨n1, t1, e1, hr1⟩ : ∃ n1 t1 e1, MX.rdE LP f ta ea = (n1, t1, e1) := ⟨_, _, _, rfl⟩
  have HR1 := Lib.hid hr1
  rw [hr1] at POST0 RSUF RSUB
  dsimp only at POST0 RSUF RSUB
  have NM := Lib.hid (fun (w' : World) (hs : SR (fun k => g ≤ k) w' g (⟨1, MX.limitW, vl, at9⟩ :: r) 0) => rnameU hs)
  have hn0 : nmE (⟨1, MX.limitW, vl, at9⟩ :: r) 0 = 0 := rfl
  have ht0 : nmT' (⟨1, MX.limitW, vl, at9⟩ :: r) 0 = MX.limitW := rfl
  rw [if_pos hn0, hn0, ht0, List.drop_succ_cons, List.drop_zero, show str MX.limitW = (⟨#[108, 105, 109, 105, 116]⟩ : ByteArray) from rfl] at NM
  have EXP := Lib.hid (fun (w' : World) (hs : SR (fun k => g ≤ k) w' g r 0) => rexpectU 40 hs)
  rw [hea, hta] at EXP
  have HT : Hid (headT (⟨1, MX.limitW, vl, at9⟩ :: r) = ⟨1, MX.limitW, vl, at9⟩) := Lib.hid rfl
  have HPs := Lib.hid hP
  have HC := Lib.hid hc
  have etx : str MX.limitW = (⟨#[108, 105, 109, 105, 116]⟩ : ByteArray) := rfl
  clear hn0 ht0 hP hc hr1 hea hta hsuf IH0 hwd
  have hgw : g < w.heap.size := h.lt
  have B0 := below_new w (.cells #[.int .i64 0, .int .i64 0, .int .i64 0, .int .i64 0, .int .i64 0, .int .i64 0, .int .i64 0, .int .i64 0, .slice none 0 0] 27)
  have RB := Lib.hid (show B9 (w.alloc (.cells #[.int .i64 0, .int .i64 0, .int .i64 0, .int .i64 0, .int .i64 0, .int .i64 0, .int .i64 0, .int .i64 0, .slice none 0 0] 27)) w.heap.size (.int .i64 0) (.int .i64 0) (.int .i64 0) (.int .i64 0) (.int .i64 0) (.int .i64 0) (.int .i64 0) (.int .i64 0) (.slice none 0 0) from heap_new w (.cells #[.int .i64 0, .int .i64 0, .int .i64 0, .int .i64 0, .int .i64 0, .int .i64 0, .int .i64 0, .int .i64 0, .slice none 0 0] 27))
  have HM := Lib.hid ((Mv.refl N g g w).quiet B0 hNw)
  have HS := Lib.hid (h.keep B0)
  have PK := Lib.hid (fun (w' : World) (hs : SR (fun k => g ≤ k) w' g (⟨1, MX.limitW, vl, at9⟩ :: r) 0) => rpeekU hs)
  clear h B0
  go_enter Tryz.func31, Tryz.ntmps31
  go_upto_region 1 with (fail)
  obtain ⟨W0, hW0⟩ : ∃ W0, W0 = w.alloc (.cells #[.int .i64 0, .int .i64 0, .int .i64 0, .int .i64 0, .int .i64 0, .int .i64 0, .int .i64 0, .int .i64 0, .slice none 0 0] 27) := ⟨_, rfl⟩
  rw [← hW0] at RB HM HS ⊢
  clear hW0
  go_wp2_with fail
  refine (PK.out _ HS.out).mono ?_
  rintro ev w1 ⟨rfl, hb⟩
  unfold aggT
  rw [HT.out]
  dsimp only
  rw [etx]
  have BT := below_new w1 (.cells #[.int .i64 1, .string ⟨#[108, 105, 109, 105, 116]⟩, .int .i64 vl, .int .i64 at9] 105)
  have S2 := Lib.hid ((HS.out.keep hb).keep BT)
  have M2 := Lib.hid ((HM.out.quiet hb hNw).quiet BT hNw)
  have R2 := Lib.hid ((RB.out.keep hb).keep BT)
  have T2 := Lib.hid (heap_new w1 (.cells #[.int .i64 1, .string ⟨#[108, 105, 109, 105, 116]⟩, .int .i64 vl, .int .i64 at9] 105))
  clear hb BT HS HM RB PK HT
  go_upto_region 2 with (fail)
  obtain ⟨W2, hW2⟩ : ∃ W2, W2 = w1.alloc (.cells #[.int .i64 1, .string ⟨#[108, 105, 109, 105, 116]⟩, .int .i64 vl, .int .i64 at9] 105) := ⟨_, rfl⟩
  rw [← hW2] at S2 M2 R2 T2 ⊢
  clear hW2
  generalize w1.heap.size = gt at *
  have c0 : W2.cell? ⟨gt, 0, none⟩ = some (.int .i64 1) := by rw [cell_of_row _ _ _ _ _ _ T2.out]; rfl
  have c1 : W2.cell? ⟨gt, 1, none⟩ = some (.string ⟨#[108, 105, 109, 105, 116]⟩) := by rw [cell_of_row _ _ _ _ _ _ T2.out]; rfl
  have BE := below_new W2 (.cells #[.int .i64 0, .int .i64 0, .int .i64 0, .int .i64 0, .int .i64 0, .int .i64 0, .int .i64 0, .int .i64 0, .slice none 0 0] 27)
  have hgeW : w.heap.size < W2.heap.size := R2.out.lt
  have E3 : Hid (ES N g W2.heap.size 0 0 0 0 0 0 0 0 (.slice none 0 0) (.slice none 0 0) [] (⟨1, MX.limitW, vl, at9⟩ :: r) 0 w (W2.alloc (.cells #[.int .i64 0, .int .i64 0, .int .i64 0, .int .i64 0, .int .i64 0, .int .i64 0, .int .i64 0, .int .i64 0, .slice none 0 0] 27))) := Lib.hid ⟨S2.out.keep BE, heap_new W2 (.cells #[.int .i64 0, .int .i64 0, .int .i64 0, .int .i64 0, .int .i64 0, .int .i64 0, .int .i64 0, .int .i64 0, .slice none 0 0] 27), OwnL.nil _ _ _, (fun z hz => by cases hz), R2.out.keep BE, M2.out.quiet BE hNw⟩
  clear BE S2 M2 R2 T2
  go_upto_region 6 with (fail)
  obtain ⟨W3, hW3⟩ : ∃ W3, W3 = W2.alloc (.cells #[.int .i64 0, .int .i64 0, .int .i64 0, .int .i64 0, .int .i64 0, .int .i64 0, .int .i64 0, .int .i64 0, .slice none 0 0] 27) := ⟨_, rfl⟩
  rw [← hW3] at E3 ⊢
  clear hW3 c0 c1
  obtain ⟨ge, hgee⟩ : ∃ ge, ge = W2.heap.size := ⟨_, rfl⟩
  rw [← hgee] at E3 hgeW ⊢
  clear hgee W2
  have hge := hgeW
  clear hgeW
  have NM3 := Lib.hid (NM.out _ E3.out.sp)
  clear NM
  go_wp2_with fail
  refine NM3.out.mono ?_
  rintro ev w4 ⟨rfl, hs4, hg4⟩
  have E4 := Lib.hid (E3.out.turn hg4 hs4 hN hNw hgw hge)
  clear hs4 hg4 E3 NM3
  obtain ⟨a0, a1, a2, a3, a4, a5, a6, a7, a8⟩ := E4.out.box.cells
  obtain ⟨f0, f1, f2, f3, f4, f5, f6, f7, f8⟩ := E4.out.box.free
  have hza := E4.out.box.lt
  go_upto_region 17 with (fail)
  have E5 := Lib.hid (E4.out.set0 5 hN hNw hgw hge)
  obtain ⟨W5, hW5⟩ : ∃ W5, W5 = w4.setCell ⟨ge, 0, none⟩ (.int .i64 5) := ⟨_, rfl⟩
  rw [← hW5] at E5 ⊢
  clear hW5 E4 a0 a1 a2 a3 a4 a5 a6 a7 a8 f0 f1 f2 f3 f4 f5 f6 f7 f8 hza
  have EX5 := Lib.hid (EXP.out _ E5.out.sp)
  clear EXP
  go_wp2_with fail
  refine EX5.out.mono ?_
  rintro ev w6 ⟨rfl, hs6, hg6⟩
  have E6 := Lib.hid (E5.out.turn hg6 hs6 hN hNw hgw hge)
  clear hs6 hg6 E5 EX5
  have RX := Lib.hid (IH.out g ta ea w6 htaf (by omega) E6.out.sp hN (Nat.le_trans hNw E6.out.mv.below.size) (fun w' hb => HPs.out w' (E6.out.mv.below.trans hb)) HTW.out)
  rw [HR1.out] at RX
  go_wp2_with fail
  refine RX.out.mono ?_
  rintro ev w7 ⟨y, rfl, hyn, hyo, hs7, hm7⟩
  obtain ⟨oy, byy, vy, Ay, cy, ky⟩ := y
  obtain ⟨p0, p1, p2, p3, p4, p5, rfl⟩ := Proofs.YtcokplikmjegcaaGreatDoor.six hyo.six
  have HYN := Lib.hid hyn
  have E7 := E6.out.turn hm7.grow hs7 hN hNw hgw hge
  have hgy : ge + 1 ≤ w6.heap.size := E6.out.box.lt
  have BY := below_new w7 (.cells #[.int .i64 oy, .int .i64 p0, .int .i64 p1, .int .i64 p2, .int .i64 p3, .int .i64 p4, .int .i64 p5, .int .i64 vy, .slice Ay ky.len cy] 27)
  have hgz : ge + 1 ≤ w7.heap.size := E7.box.lt
  have YK := (hyo.keep (ok' := fun k => ge + 1 ≤ k ∧ k ≠ w7.heap.size) (fun _ _ _ => rfl) (Nat.le_refl _) (fun k q hl => ⟨by omega, by omega⟩)).below BY
  have E8 := Lib.hid (E7.first BY (own_one (heap_new w7 (.cells #[.int .i64 oy, .int .i64 p0, .int .i64 p1, .int .i64 p2, .int .i64 p3, .int .i64 p4, .int .i64 p5, .int .i64 vy, .slice Ay ky.len cy] 27)) (list9 oy p0 p1 p2 p3 p4 p5 vy Ay ky.len cy) rfl hgz) YK hNw)
  rw [NT.val_lit]
  clear hyn hyo hs7 hm7 E6 E7 BY YK RX hgy HR1
  obtain ⟨a0, a1, a2, a3, a4, a5, a6, a7, a8⟩ := E8.out.box.cells
  obtain ⟨f0, f1, f2, f3, f4, f5, f6, f7, f8⟩ := E8.out.box.free
  have hza := E8.out.box.lt
  go_upto_region 19 with (fail)
  have E9 := Lib.hid (E8.out.set8 (.slice (some ⟨w7.heap.size, 0, none⟩) 1 1) hN hNw hgw hge)
  obtain ⟨W9, hW9⟩ : ∃ W9, W9 = (w7.alloc (.cells #[.int .i64 oy, .int .i64 p0, .int .i64 p1, .int .i64 p2, .int .i64 p3, .int .i64 p4, .int .i64 p5, .int .i64 vy, .slice Ay ky.len cy] 27)).setCell ⟨ge, 8, none⟩ (.slice (some ⟨w7.heap.size, 0, none⟩) 1 1) := ⟨_, rfl⟩
  rw [← hW9] at E9 ⊢
  clear hW9 E8 a0 a1 a2 a3 a4 a5 a6 a7 a8 f0 f1 f2 f3 f4 f5 f6 f7 f8 hza
  obtain ⟨gz, hgze⟩ : ∃ gz, gz = w7.heap.size := ⟨_, rfl⟩
  rw [← hgze] at E9 hgz ⊢
  clear hgze w7
  obtain ⟨t2, e2, h2⟩ : ∃ t2 e2, MX.nxt t1 (MX.exE 44 t1 e1) = t2 ∧ MX.exE 44 t1 e1 = e2 := ⟨_, _, rfl, rfl⟩
  have EX6 := Lib.hid (rexpectU 44 E9.out.sp)
  have HE2 : Hid (e2 = 0 → e1 = 0) := Lib.hid (fun q => (MX.ex_zero (h2.2.trans q)).1)
  have hbody : MX.body LP 5 (n1, t1, e1) (MX.rdL (MX.rdE LP f) f t1 e1) = MX.endP ⟨5, MC.Z6, MX.amtV 1000000 t2 e2, MX.mkF [n1]⟩ (MX.nxt t2 (MX.amtE 1000000 t2 e2)) (MX.amtE 1000000 t2 e2) := by
    unfold MX.body MX.body2
    rw [if_neg (by decide), if_neg (by decide)]
    dsimp only
    rw [h2.1, h2.2]
  rw [hbody] at POST0
  rw [h2.1, h2.2] at EX6
  clear hbody h2 RSUF RSUB HTW IH HPs HC
  have c0 := E9.out.box.cells.1
  go_wp2_with fail
  refine EX6.out.mono ?_
  rintro ev w10 ⟨rfl, hs10, hg10⟩
  have E10 := Lib.hid (E9.out.turn hg10 hs10 hN hNw hgw hge)
  clear hs10 hg10 E9 EX6 c0
  have AM := Lib.hid (ramountU 1000000 E10.out.sp)
  have V64 := Lib.hid (show In64 (MX.amtV 1000000 t2 e2) from in64_small (amtV_small t2 e2).1 (amtV_small t2 e2).2)
  have HE3 : Hid (MX.amtE 1000000 t2 e2 = 0 → e1 = 0) := Lib.hid (fun q => HE2.out (MX.amt_zero q).1)
  clear HE2
  obtain ⟨av, hav⟩ : ∃ av, MX.amtV 1000000 t2 e2 = av := ⟨_, rfl⟩
  obtain ⟨e3, he3⟩ : ∃ e3, MX.amtE 1000000 t2 e2 = e3 := ⟨_, rfl⟩
  obtain ⟨t3, ht3⟩ : ∃ t3, MX.nxt t2 e3 = t3 := ⟨_, rfl⟩
  rw [he3, ht3, hav] at AM POST0
  rw [he3] at HE3
  rw [hav] at V64
  clear hav he3 ht3
  go_wp2_with fail
  refine AM.out.mono ?_
  rintro ev w11 ⟨rfl, hs11, hg11⟩
  have E11 := Lib.hid (E10.out.turn hg11 hs11 hN hNw hgw hge)
  clear hs11 hg11 E10 AM
  obtain ⟨a0, a1, a2, a3, a4, a5, a6, a7, a8⟩ := E11.out.box.cells
  obtain ⟨f0, f1, f2, f3, f4, f5, f6, f7, f8⟩ := E11.out.box.free
  have hza := E11.out.box.lt
  go_upto_region 31 with (fail)
  have E12 := Lib.hid (E11.out.set7 av hN hNw hgw hge)
  obtain ⟨W12, hW12⟩ : ∃ W12, W12 = w11.setCell ⟨ge, 7, none⟩ (.int .i64 av) := ⟨_, rfl⟩
  rw [← hW12] at E12 ⊢
  clear hW12 E11 a0 a1 a2 a3 a4 a5 a6 a7 a8 f0 f1 f2 f3 f4 f5 f6 f7 f8 hza
  have EX7 := Lib.hid (rexpectU 41 E12.out.sp)
  have HE4 : Hid (MX.exE 41 t3 e3 = 0 → e1 = 0) := Lib.hid (fun q => HE3.out (MX.ex_zero q).1)
  unfold MX.endP at POST0
  dsimp only at POST0
  go_wp2_with fail
  refine EX7.out.mono ?_
  rintro ev w9 ⟨rfl, hs9, hg9⟩
  have E9 := Lib.hid (E12.out.turn hg9 hs9 hN hNw hgw hge)
  have B64 := Lib.hid six0_64
  clear hs9 hg9 E12 EX7 HE3
  obtain ⟨Ar, cr, hvk, hl, hab⟩ := E9.out.own.form2 (own_few E9.out.own)
  obtain ⟨rfl, rfl⟩ : Ar = some ⟨gz, 0, none⟩ ∧ cr = 1 := by injection hvk with q1 q2 q3; exact ⟨q1.symm, q3.symm⟩
  have KD := Lib.hid (own_kids (ok := fun j => ge + 1 ≤ j) hl (fun ad e => (hab ad e).1) (fun z hz => (E9.out.ok z hz).keep (fun _ _ _ => rfl) (Nat.le_refl _) (fun j q _ => q.1)))
  clear hl hab
  obtain ⟨a0, a1, a2, a3, a4, a5, a6, a7, a8⟩ := E9.out.box.cells
  obtain ⟨r0, r1, r2, r3, r4, r5, r6, r7, r8⟩ := E9.out.rb.cells
  obtain ⟨f0, f1, f2, f3, f4, f5, f6, f7, f8⟩ := E9.out.rb.free
  have hzr := E9.out.rb.lt
  have hza := E9.out.box.lt
  go_wp2
  refine bodyPost_ret (rexp_results _ rfl (by rw [nest_0]; exact E9.out.rb.put _ _ _ _ _ _ _ _ _)) rfl ?_
  rw [nest_0]
  have hgr := grown_setsP (w := w9) (g := w.heap.size) [.int .i64 5, .int .i64 0, .int .i64 0, .int .i64 0, .int .i64 0, .int .i64 0, .int .i64 0, .int .i64 av, .slice (some ⟨gz, 0, none⟩) 1 1] 0
  have FIN := POST0.out _ _ ⟨⟨5, [0, 0, 0, 0, 0, 0], av, some ⟨gz, 0, none⟩, 1, FT.of [(⟨oy, [p0, p1, p2, p3, p4, p5], vy, Ay, cy, ky⟩ : NT)]⟩, rfl, fun q => (by have e := HYN.out (HE4.out q); show (⟨5, [0, 0, 0, 0, 0, 0], av, (FT.of [(⟨oy, [p0, p1, p2, p3, p4, p5], vy, Ay, cy, ky⟩ : NT)]).f⟩ : Nd) = ⟨5, MC.Z6, av, MX.mkF [n1]⟩; rw [← e]; rfl), ⟨rfl, in64_small (z := 5) (by decide) (by decide), V64.out, B64.out, KD.out.keep (fun j q hl => hgr.block j hl (fun e => by have := Option.some.inj e; omega)) hgr.size (fun j q _ => by omega)⟩,
    E9.out.sp.turn hgr (fun k e => ⟨by have := Option.some.inj e; show g ≤ k; omega, by have := Option.some.inj e; omega⟩), E9.out.mv.turn hgr hNw (fun k e => ⟨by have := Option.some.inj e; omega, .inr (.inr (by have := Option.some.inj e; omega))⟩)⟩
  rw [NT.val_lit, FT.of_len] at FIN
  exact FIN
end Go.Proofs.YtcokplikmjegcaaGreatDoor
