/- The reference's expression: an or: no claim of its own. -/
import Derived.Test.YtcokplikmjegcaaGreatDoorRExpL
import Derived.Deep.RegionHeld3
import Derived.Deep.DeepCutAuto
import Derived.Deep.AppendLies
namespace Go.Proofs.YtcokplikmjegcaaGreatDoor
open Go.RowKit
open ME (F Nd)
open MC (Pr)
def oporr0 : Oper := { dst := some 67, op := Op.fieldAddr 27 (Operand.tmp 8) 3, type := 0, pos := "ref.go:115", after := #[], guard := none }
def oporr1 : Oper := { dst := some 68, op := Op.load 25 (Operand.tmp 67), type := 25, pos := "ref.go:115", after := #[{ on := 0, ground := Ground.data }], guard := none }
def oporr2 : Oper := { dst := some 69, op := Op.move (Operand.tmp 0), type := 22, pos := "ref.go:115", after := #[], guard := none }
def oporr3 : Oper := { dst := some 70, op := Op.move (Operand.tmp 1), type := 66, pos := "ref.go:115", after := #[], guard := none }
def oporr4 : Oper := { dst := some 71, op := Op.call { callee := Callee.value (Operand.func 31), args := #[Operand.tmp 69, Operand.tmp 70], argTypes := #[22, 66] }, type := 27, pos := "ref.go:115", after := #[{ on := 2, ground := Ground.data }, { on := 3, ground := Ground.data }], guard := none }
def oporr5 : Oper := { dst := some 72, op := Op.buildSlice 25 1 #[(0, Operand.tmp 71)], type := 25, pos := "ref.go:115", after := #[{ on := 4, ground := Ground.data }], guard := none }
def oporr6 : Oper := { dst := some 73, op := Op.call { callee := Callee.builtin Builtin.append, args := #[Operand.tmp 68, Operand.tmp 72], argTypes := #[25, 25] }, type := 25, pos := "ref.go:115", after := #[{ on := 1, ground := Ground.data }, { on := 5, ground := Ground.data }, { on := 4, ground := Ground.chain }], guard := none }
def oporr7 : Oper := { dst := some 74, op := Op.fieldAddr 27 (Operand.tmp 8) 3, type := 0, pos := "ref.go:115", after := #[{ on := 0, ground := Ground.phase }, { on := 1, ground := Ground.phase }, { on := 2, ground := Ground.phase }, { on := 3, ground := Ground.phase }, { on := 4, ground := Ground.phase }, { on := 5, ground := Ground.phase }, { on := 6, ground := Ground.phase }], guard := none }
def oporr8 : Oper := { dst := none, op := Op.store 25 (Operand.tmp 74) (Operand.tmp 73), type := 0, pos := "ref.go:115", after := #[{ on := 7, ground := Ground.data }, { on := 6, ground := Ground.data }, { on := 6, ground := Ground.chain }, { on := 0, ground := Ground.phase }, { on := 1, ground := Ground.phase }, { on := 2, ground := Ground.phase }, { on := 3, ground := Ground.phase }, { on := 4, ground := Ground.phase }, { on := 5, ground := Ground.phase }, { on := 6, ground := Ground.phase }], guard := none }
set_option maxRecDepth 100000 in
set_option maxHeartbeats 16000000 in
theorem rexp_orr (A : Option Addr) (n cp : Nat) (LP : List Pr) (N f g : Nat) (vl at9 : Int) (r : List Tk) (w : World) (IH0 : RExOk A n cp LP N f) (h : SR (fun k => g ≤ k) w g (⟨1, MX.orW, vl, at9⟩ :: r) 0) (hrl : r.length < f) (hwd : ∀ t ∈ r, t.kind = 1 → t.text ≠ []) (hf : f + 1 ≤ 100000) (hN : N ≤ g) (hNw : N ≤ w.heap.size) (hP : ∀ w', Below N w w' → Prs w' A n cp LP) (hc : MC.chkL LP = 0) : Calls Tryz.prog 31 #[.slice A n cp, .pointer (some ⟨g, 0, none⟩)] w (fun e w' => ∃ y : NT, e = .returned y.val ∧ ((MX.rdE LP (f + 1) (⟨1, MX.orW, vl, at9⟩ :: r) 0).2.2 = 0 → y.n = (MX.rdE LP (f + 1) (⟨1, MX.orW, vl, at9⟩ :: r) 0).1) ∧ y.Ok w' (fun k => w.heap.size ≤ k) ∧ SR (fun k => g ≤ k) w' g (MX.rdE LP (f + 1) (⟨1, MX.orW, vl, at9⟩ :: r) 0).2.1 (MX.rdE LP (f + 1) (⟨1, MX.orW, vl, at9⟩ :: r) 0).2.2 ∧ Mv N g g w w') := by
  suffices H9 : ∀ (PP : Ending → World → Prop), (∀ e w', (∃ y : NT, e = .returned y.val ∧ ((MX.rdE LP (f + 1) (⟨1, MX.orW, vl, at9⟩ :: r) 0).2.2 = 0 → y.n = (MX.rdE LP (f + 1) (⟨1, MX.orW, vl, at9⟩ :: r) 0).1) ∧ y.Ok w' (fun k => w.heap.size ≤ k) ∧ SR (fun k => g ≤ k) w' g (MX.rdE LP (f + 1) (⟨1, MX.orW, vl, at9⟩ :: r) 0).2.1 (MX.rdE LP (f + 1) (⟨1, MX.orW, vl, at9⟩ :: r) 0).2.2 ∧ Mv N g g w w') → PP e w') → Calls Tryz.prog 31 #[.slice A n cp, .pointer (some ⟨g, 0, none⟩)] w PP from H9 _ (fun _ _ q => q)
  intro PP hPP
  have POST0 := Lib.hid hPP
  clear hPP
  obtain ⟨ea, hea⟩ : ∃ ea, MX.exE 40 r 0 = ea := ⟨_, rfl⟩
  obtain ⟨ta, hta⟩ : ∃ ta, MX.nxt r ea = ta := ⟨_, rfl⟩
  have HF : Hid (MX.rdE LP (f + 1) (⟨1, MX.orW, vl, at9⟩ :: r) 0 = MX.body LP 3 (MX.rdE LP f ta ea) (MX.rdL (MX.rdE LP f) f (MX.rdE LP f ta ea).2.1 (MX.rdE LP f ta ea).2.2)) := Lib.hid (by
    rw [MX.rdE, if_neg (show ¬ MX.hk (⟨1, MX.orW, vl, at9⟩ :: r) ≠ 1 from fun q => q rfl), if_neg (show ¬ MX.opW (MX.hw (⟨1, MX.orW, vl, at9⟩ :: r)) = 0 from show ¬ MX.opW MX.orW = 0 by decide), List.drop_succ_cons, List.drop_zero, hea, hta]
    rfl)
  rw [HF.out] at POST0
  clear HF
  have hsuf : ta <:+ r := by rw [← hta]; exact MX.nxt_suf _ _
  have htaf : ta.length < f := Nat.lt_of_le_of_lt hsuf.length_le hrl
  have HTW := Lib.hid (fun t (ht : t ∈ ta) => hwd t (hsuf.subset ht))
  have IH := Lib.hid IH0
  have RSUF := Lib.hid ((MX.rd_suf LP f ta ea).length_le)
  have RSUB := Lib.hid (fun t (ht : t ∈ (MX.rdE LP f ta ea).2.1) => HTW.out t ((MX.rd_suf LP f ta ea).subset ht))
  obtain ⟨n1, t1, e1, hr1⟩ : ∃ n1 t1 e1, MX.rdE LP f ta ea = (n1, t1, e1) := ⟨_, _, _, rfl⟩
  have HR1 := Lib.hid hr1
  rw [hr1] at POST0 RSUF RSUB
  dsimp only at POST0 RSUF RSUB
  have NM := Lib.hid (fun (w' : World) (hs : SR (fun k => g ≤ k) w' g (⟨1, MX.orW, vl, at9⟩ :: r) 0) => rnameU hs)
  have hn0 : nmE (⟨1, MX.orW, vl, at9⟩ :: r) 0 = 0 := rfl
  have ht0 : nmT' (⟨1, MX.orW, vl, at9⟩ :: r) 0 = MX.orW := rfl
  rw [if_pos hn0, hn0, ht0, List.drop_succ_cons, List.drop_zero, show str MX.orW = (⟨#[111, 114]⟩ : ByteArray) from rfl] at NM
  have EXP := Lib.hid (fun (w' : World) (hs : SR (fun k => g ≤ k) w' g r 0) => rexpectU 40 hs)
  rw [hea, hta] at EXP
  have HT : Hid (headT (⟨1, MX.orW, vl, at9⟩ :: r) = ⟨1, MX.orW, vl, at9⟩) := Lib.hid rfl
  have HPs := Lib.hid hP
  have HC := Lib.hid hc
  have etx : str MX.orW = (⟨#[111, 114]⟩ : ByteArray) := rfl
  have hwdr := hwd
  clear hn0 ht0 hP hc hr1 hea hta hsuf IH0 hwd
  have hgw : g < w.heap.size := h.lt
  have B0 := below_new w (.cells #[.int .i64 0, .int .i64 0, .int .i64 0, .int .i64 0, .int .i64 0, .int .i64 0, .int .i64 0, .int .i64 0, .slice none 0 0] 27)
  have RB := Lib.hid (show B9 (w.alloc (.cells #[.int .i64 0, .int .i64 0, .int .i64 0, .int .i64 0, .int .i64 0, .int .i64 0, .int .i64 0, .int .i64 0, .slice none 0 0] 27)) w.heap.size (.int .i64 0) (.int .i64 0) (.int .i64 0) (.int .i64 0) (.int .i64 0) (.int .i64 0) (.int .i64 0) (.int .i64 0) (.slice none 0 0) from heap_new w (.cells #[.int .i64 0, .int .i64 0, .int .i64 0, .int .i64 0, .int .i64 0, .int .i64 0, .int .i64 0, .int .i64 0, .slice none 0 0] 27))
  have HM := Lib.hid ((Mv.refl N g g w).quiet B0 hNw)
  have HS := Lib.hid (h.keep B0)
  have PK := Lib.hid (fun (w' : World) (hs : SR (fun k => g ≤ k) w' g (⟨1, MX.orW, vl, at9⟩ :: r) 0) => rpeekU hs)
  clear h B0
  go_enter Tryz.func31, Tryz.ntmps31
  go_upto_region 1 with (fail)
  obtain ⟨W0, hW0⟩ : ∃ W0, W0 = w.alloc (.cells #[.int .i64 0, .int .i64 0, .int .i64 0, .int .i64 0, .int .i64 0, .int .i64 0, .int .i64 0, .int .i64 0, .slice none 0 0] 27) := ⟨_, rfl⟩
  rw [← hW0] at RB HM HS ⊢
  clear hW0
  go_wp2_with fail
  refine (PK.out _ HS.out).mono ?_
  rintro ev w1 ⟨rfl, hb⟩
  unfold aggT
  rw [HT.out]
  dsimp only
  rw [etx]
  have BT := below_new w1 (.cells #[.int .i64 1, .string ⟨#[111, 114]⟩, .int .i64 vl, .int .i64 at9] 105)
  have S2 := Lib.hid ((HS.out.keep hb).keep BT)
  have M2 := Lib.hid ((HM.out.quiet hb hNw).quiet BT hNw)
  have R2 := Lib.hid ((RB.out.keep hb).keep BT)
  have T2 := Lib.hid (heap_new w1 (.cells #[.int .i64 1, .string ⟨#[111, 114]⟩, .int .i64 vl, .int .i64 at9] 105))
  clear hb BT HS HM RB PK HT
  go_upto_region 2 with (fail)
  obtain ⟨W2, hW2⟩ : ∃ W2, W2 = w1.alloc (.cells #[.int .i64 1, .string ⟨#[111, 114]⟩, .int .i64 vl, .int .i64 at9] 105) := ⟨_, rfl⟩
  rw [← hW2] at S2 M2 R2 T2 ⊢
  clear hW2
  generalize w1.heap.size = gt at *
  have c0 : W2.cell? ⟨gt, 0, none⟩ = some (.int .i64 1) := by rw [cell_of_row _ _ _ _ _ _ T2.out]; rfl
  have c1 : W2.cell? ⟨gt, 1, none⟩ = some (.string ⟨#[111, 114]⟩) := by rw [cell_of_row _ _ _ _ _ _ T2.out]; rfl
  have BE := below_new W2 (.cells #[.int .i64 0, .int .i64 0, .int .i64 0, .int .i64 0, .int .i64 0, .int .i64 0, .int .i64 0, .int .i64 0, .slice none 0 0] 27)
  have hgeW : w.heap.size < W2.heap.size := R2.out.lt
  have E3 : Hid (ES N g W2.heap.size 0 0 0 0 0 0 0 0 (.slice none 0 0) (.slice none 0 0) [] (⟨1, MX.orW, vl, at9⟩ :: r) 0 w (W2.alloc (.cells #[.int .i64 0, .int .i64 0, .int .i64 0, .int .i64 0, .int .i64 0, .int .i64 0, .int .i64 0, .int .i64 0, .slice none 0 0] 27))) := Lib.hid ⟨S2.out.keep BE, heap_new W2 (.cells #[.int .i64 0, .int .i64 0, .int .i64 0, .int .i64 0, .int .i64 0, .int .i64 0, .int .i64 0, .int .i64 0, .slice none 0 0] 27), OwnL.nil _ _ _, (fun z hz => by cases hz), R2.out.keep BE, M2.out.quiet BE hNw⟩
  clear BE S2 M2 R2 T2
  go_upto_region 6 with (fail)
  obtain ⟨W3, hW3⟩ : ∃ W3, W3 = W2.alloc (.cells #[.int .i64 0, .int .i64 0, .int .i64 0, .int .i64 0, .int .i64 0, .int .i64 0, .int .i64 0, .int .i64 0, .slice none 0 0] 27) := ⟨_, rfl⟩
  rw [← hW3] at E3 ⊢
  clear hW3 c0 c1
  obtain ⟨ge, hgee⟩ : ∃ ge, ge = W2.heap.size := ⟨_, rfl⟩
  rw [← hgee] at E3 hgeW ⊢
  clear hgee W2
  have hge := hgeW
  clear hgeW
  have NM3 := Lib.hid (NM.out _ E3.out.sp)
  clear NM
  go_wp2_with fail
  refine NM3.out.mono ?_
  rintro ev w4 ⟨rfl, hs4, hg4⟩
  have E4 := Lib.hid (E3.out.turn hg4 hs4 hN hNw hgw hge)
  clear hs4 hg4 E3 NM3
  obtain ⟨a0, a1, a2, a3, a4, a5, a6, a7, a8⟩ := E4.out.box.cells
  obtain ⟨f0, f1, f2, f3, f4, f5, f6, f7, f8⟩ := E4.out.box.free
  have hza := E4.out.box.lt
  go_upto_region 17 with (fail)
  have E5 := Lib.hid (E4.out.set0 3 hN hNw hgw hge)
  obtain ⟨W5, hW5⟩ : ∃ W5, W5 = w4.setCell ⟨ge, 0, none⟩ (.int .i64 3) := ⟨_, rfl⟩
  rw [← hW5] at E5 ⊢
  clear hW5 E4 a0 a1 a2 a3 a4 a5 a6 a7 a8 f0 f1 f2 f3 f4 f5 f6 f7 f8 hza
  have EX5 := Lib.hid (EXP.out _ E5.out.sp)
  clear EXP
  go_wp2_with fail
  refine EX5.out.mono ?_
  rintro ev w6 ⟨rfl, hs6, hg6⟩
  have E6 := Lib.hid (E5.out.turn hg6 hs6 hN hNw hgw hge)
  clear hs6 hg6 E5 EX5
  have RX := Lib.hid (IH.out g ta ea w6 htaf (by omega) E6.out.sp hN (Nat.le_trans hNw E6.out.mv.below.size) (fun w' hb => HPs.out w' (E6.out.mv.below.trans hb)) HTW.out)
  rw [HR1.out] at RX
  go_wp2_with fail
  refine RX.out.mono ?_
  rintro ev w7 ⟨y, rfl, hyn, hyo, hs7, hm7⟩
  obtain ⟨oy, byy, vy, Ay, cy, ky⟩ := y
  obtain ⟨p0, p1, p2, p3, p4, p5, rfl⟩ := Proofs.YtcokplikmjegcaaGreatDoor.six hyo.six
  have HYN := Lib.hid hyn
  have E7 := E6.out.turn hm7.grow hs7 hN hNw hgw hge
  have hgy : ge + 1 ≤ w6.heap.size := E6.out.box.lt
  have BY := below_new w7 (.cells #[.int .i64 oy, .int .i64 p0, .int .i64 p1, .int .i64 p2, .int .i64 p3, .int .i64 p4, .int .i64 p5, .int .i64 vy, .slice Ay ky.len cy] 27)
  have hgz : ge + 1 ≤ w7.heap.size := E7.box.lt
  have YK := (hyo.keep (ok' := fun k => ge + 1 ≤ k ∧ k ≠ w7.heap.size) (fun _ _ _ => rfl) (Nat.le_refl _) (fun k q hl => ⟨by omega, by omega⟩)).below BY
  have E8 := Lib.hid (E7.first BY (own_one (heap_new w7 (.cells #[.int .i64 oy, .int .i64 p0, .int .i64 p1, .int .i64 p2, .int .i64 p3, .int .i64 p4, .int .i64 p5, .int .i64 vy, .slice Ay ky.len cy] 27)) (list9 oy p0 p1 p2 p3 p4 p5 vy Ay ky.len cy) rfl hgz) YK hNw)
  rw [NT.val_lit]
  clear hyn hyo hs7 hm7 E6 E7 BY YK RX hgy HR1
  obtain ⟨a0, a1, a2, a3, a4, a5, a6, a7, a8⟩ := E8.out.box.cells
  obtain ⟨f0, f1, f2, f3, f4, f5, f6, f7, f8⟩ := E8.out.box.free
  have hza := E8.out.box.lt
  go_upto_region 19 with (fail)
  have E9 := Lib.hid (E8.out.set8 (.slice (some ⟨w7.heap.size, 0, none⟩) 1 1) hN hNw hgw hge)
  obtain ⟨W9, hW9⟩ : ∃ W9, W9 = (w7.alloc (.cells #[.int .i64 oy, .int .i64 p0, .int .i64 p1, .int .i64 p2, .int .i64 p3, .int .i64 p4, .int .i64 p5, .int .i64 vy, .slice Ay ky.len cy] 27)).setCell ⟨ge, 8, none⟩ (.slice (some ⟨w7.heap.size, 0, none⟩) 1 1) := ⟨_, rfl⟩
  rw [← hW9] at E9 ⊢
  clear hW9 E8 a0 a1 a2 a3 a4 a5 a6 a7 a8 f0 f1 f2 f3 f4 f5 f6 f7 f8 hza
  obtain ⟨gz, hgze⟩ : ∃ gz, gz = w7.heap.size := ⟨_, rfl⟩
  rw [← hgze] at E9 hgz ⊢
  clear hgze w7
  obtain ⟨Tn, Tt, Te, hT⟩ : ∃ Tn Tt Te, MX.rdL (MX.rdE LP f) f t1 e1 = (Tn, Tt, Te) := ⟨_, _, _, rfl⟩
  have HTT := Lib.hid hT
  have hbody : MX.body LP 3 (n1, t1, e1) (MX.rdL (MX.rdE LP f) f t1 e1) = MX.endP ⟨3, MC.Z6, 0, MX.mkF (n1 :: Tn)⟩ Tt Te := by
    unfold MX.body
    rw [if_pos (by decide), hT]
  rw [hbody] at POST0
  have HD1 : Hid (Te = 0 → e1 = 0) := Lib.hid (fun q => by
    by_cases e : e1 = 0
    · exact e
    · exact absurd (show (MX.rdL (MX.rdE LP f) f t1 e1).2.2 = 0 by rw [hT]; exact q) (MX.rdL_dead (fun ts er h => MX.rd_dead f ts er h) f t1 e1 e))
  have hd1 : t1.length < f := Nat.lt_of_le_of_lt RSUF.out htaf
  have HW1 := RSUB
  have HN1 : Hid (Te = 0 → [NT.n (⟨oy, [p0, p1, p2, p3, p4, p5], vy, Ay, cy, ky⟩ : NT)] = [n1]) := Lib.hid (fun q => by rw [HYN.out (HD1.out q)])
  have hf1 : f ≤ 100000 := by omega
  obtain ⟨i0, hi, hz0, hz1, hz2⟩ := info_parts infoExpr
  clear hbody hT RSUF RSUB HTW HD1 HYN htaf
  obtain ⟨L1, hL1, hl1⟩ : ∃ L1 : List NT, L1 = [(⟨oy, [p0, p1, p2, p3, p4, p5], vy, Ay, cy, ky⟩ : NT)] ∧ L1.length + t1.length ≤ 100001 := ⟨_, rfl, by rw [List.length_singleton]; omega⟩
  have E9L : Hid (ES N g ge 3 0 0 0 0 0 0 0 (.slice (some ⟨gz, 0, none⟩) 1 1) (.slice (some ⟨gz, 0, none⟩) 1 1) L1 t1 e1 w W9) := Lib.hid (by rw [hL1]; exact E9.out)
  have HN2 : Hid (Te = 0 → L1.map NT.n = [n1]) := Lib.hid (by rw [hL1]; exact HN1.out)
  have c0 := E9.out.box.cells.1
  clear E9 hL1 HN1 hgz hwdr
  go_wp2
  clear c0
  go_loopw [] (fun wr => ∃ (q : Nat) (L : List NT) (vk : Value) (ts : List Tk) (er : Int), Hid (ES N g ge 3 0 0 0 0 0 0 0 vk vk L ts er w wr) ∧ ts.length < q ∧ ts.length < f ∧ L.length + ts.length ≤ 100001 ∧ Hid (∀ t ∈ ts, t.kind = 1 → t.text ≠ []) ∧ Hid ((MX.rdL (MX.rdE LP f) q ts er).2 = (Tt, Te)) ∧ Hid (Te = 0 → L.map NT.n ++ (MX.rdL (MX.rdE LP f) q ts er).1 = n1 :: Tn)) (fun wr => lenR g wr)
  case atStart => exact ⟨f, L1, _, t1, e1, E9L, hd1, hd1, hl1, HW1, Lib.hid (by rw [HTT.out]), Lib.hid (fun q => by rw [HN2.out q, HTT.out]; rfl)⟩
  case round =>
    rename_i wr
    clear E9L HN2 hl1 hd1 HTT HW1 L1 t1 e1 W9
    obtain ⟨q, L, vk, ts, er, HE0, hq, hts, hll0, HNE, HE2, HE1⟩ := hrel
    obtain ⟨q, rfl⟩ : ∃ k, q = k + 1 := ⟨q - 1, by omega⟩
    have AC := Lib.hid (raccU 44 HE0.out.sp)
    cases hb : MC.isO 44 ts[0]? with
    | true =>
      obtain ⟨m, tr, rfl, hm⟩ := MX.isO_cons hb
      obtain rfl : er = 0 := by
        by_cases e : er = 0
        · exact e
        · have := HE0.out.sp.dead e; cases this
      rw [hb, if_pos rfl, List.drop_succ_cons, List.drop_zero] at AC
      have HE3 := Lib.hid (HE1.out)
      have HE4 := Lib.hid (HE2.out)
      rw [MX.rdL, if_pos hb] at HE3 HE4
      rw [List.drop_succ_cons, List.drop_zero] at HE3 HE4
      simp only [List.length_cons] at hq hts hll0
      have HLen := Lib.hid (show lenR g wr = (m :: tr).length from HE0.out.sp.lenR)
      have HNE2 := Lib.hid (fun t (ht : t ∈ tr) => HNE.out t (List.mem_cons_of_mem _ ht))
      clear HE1 HE2 HNE hb hm
      go_wp2_with fail
      refine AC.out.mono ?_
      rintro ev w5 ⟨rfl, hs, hg⟩
      have HE1 := Lib.hid (HE0.out.turn hg hs hN hNw hgw hge)
      clear hs hg AC HE0
      obtain ⟨Av, cv, rfl, _, _⟩ := HE1.out.own.form2 (own_few HE1.out.own)
      have HE := HE1
      have HNE := HNE2
      clear HE1 HNE2
      have hts2 : tr.length < f := by omega
      have hll : L.length + 1 ≤ 200000 := by omega
      have hq2 : tr.length < q := by omega
      have hl2 : L.length + 1 + tr.length ≤ 100001 := by omega
      have RSUF := Lib.hid ((MX.rd_suf LP f tr 0).length_le)
      have RSUB := Lib.hid (fun t (ht : t ∈ (MX.rdE LP f tr 0).2.1) => HNE.out t ((MX.rd_suf LP f tr 0).subset ht))
      clear hts hq hll0
      have hts := hts2
      clear hts2
      obtain ⟨er, hr0⟩ : ∃ er : Int, er = 0 := ⟨0, rfl⟩
      obtain ⟨ts, htr⟩ : ∃ ts, ts = tr := ⟨_, rfl⟩
      have HE' : Hid (ES N g ge 3 0 0 0 0 0 0 0 (.slice Av L.length cv) (.slice Av L.length cv) L ts er w w5) := Lib.hid (by rw [htr, hr0]; exact HE.out)
      have HE3' : Hid (Te = 0 → L.map NT.n ++ ((MX.rdE LP f ts er).1 :: (MX.rdL (MX.rdE LP f) q (MX.rdE LP f ts er).2.1 (MX.rdE LP f ts er).2.2).1) = n1 :: Tn) := Lib.hid (by rw [htr, hr0]; exact HE3.out)
      have HE4' : Hid ((MX.rdL (MX.rdE LP f) q (MX.rdE LP f ts er).2.1 (MX.rdE LP f ts er).2.2).2 = (Tt, Te)) := Lib.hid (by rw [htr, hr0]; exact HE4.out)
      rw [← htr, ← hr0] at RSUF RSUB
      rw [← htr] at HNE hts hq2 hl2
      clear HE HE3 HE4 hr0
      have HE := HE'
      have HE3 := HE3'
      have HE4 := HE4'
      clear HE' HE3' HE4'
      have HLn2 : Hid (ts.length < lenR g wr) := Lib.hid (by rw [HLen.out, htr]; simp)
      have HDD : Hid (Te = 0 → (MX.rdE LP f ts er).2.2 = 0) := Lib.hid (fun qq => by
        by_cases e : (MX.rdE LP f ts er).2.2 = 0
        · exact e
        · have h1 := MX.rdL_dead (fun ts er h => MX.rd_dead (L := LP) f ts er h) q (MX.rdE LP f ts er).2.1 (MX.rdE LP f ts er).2.2 e
          have h2 := congrArg Prod.snd HE4.out
          exact absurd (h2.trans qq) h1)
      clear htr HLen
      go_upto_region 25 with (fail)
      have HE5 := Lib.hid (HE.out.keep (below_drawn w5) hNw)
      clear HE
      have HE := HE5
      clear HE5
      have HX5 : B9 w5.drew w.heap.size (.int .i64 0) (.int .i64 0) (.int .i64 0) (.int .i64 0) (.int .i64 0) (.int .i64 0) (.int .i64 0) (.int .i64 0) (.slice none 0 0) := HE.out.rb
      refine wp_region_held_drew (S := fun w' => B9 w' w.heap.size (.int .i64 0) (.int .i64 0) (.int .i64 0) (.int .i64 0) (.int .i64 0) (.int .i64 0) (.int .i64 0) (.int .i64 0) (.slice none 0 0)) (by kernel_rfl) HX5 (fun hHeld => ?_)
      clear HX5
      generalize w5.drew = X at *
      obtain ⟨H, hH⟩ : ∃ H, H = X.heap.size := ⟨_, rfl⟩
      have hzX : H ≤ X.heap.size := Nat.le_of_eq hH
      have hvb : ∀ k, (.slice Av L.length cv : Value).ownBlock = some k → ge + 1 ≤ k ∧ k < H := fun k q => by have := World.ownsRow.lt HE.out.own.1 k q; omega
      have hgH : ge < H := by have := HE.out.box.lt; omega
      have hli : (L.length : Int) < (L.length : Int) + 1 := by omega
      clear hH
      refine wpAnyH_take (i := 0) (oi := oporr0) (v := ?_) rfl (by kernel_rfl) (by kernel_rfl) (by kernel_rfl) (fun _ _ _ h => h) (Or.inl ⟨by rfl, ?_⟩) (by assumption) ?_
      rotate_left
      · intro w hSw; (try dsimp only at hSw); unfold oporr0; go_simp; try with_reducible rfl
      try unfold oporr0
      (try simp only [Act.put, List.setIfInBounds_toArray, List.set_cons_zero, List.set_cons_succ])
      refine wpAnyH_take (i := 2) (oi := oporr2) (v := ?_) rfl (by kernel_rfl) (by kernel_rfl) (by kernel_rfl) (fun _ _ _ h => h) (Or.inl ⟨by rfl, ?_⟩) (by assumption) ?_
      rotate_left
      · intro w hSw; (try dsimp only at hSw); unfold oporr2; go_simp; try with_reducible rfl
      try unfold oporr2
      (try simp only [Act.put, List.setIfInBounds_toArray, List.set_cons_zero, List.set_cons_succ])
      refine wpAnyH_take (i := 3) (oi := oporr3) (v := ?_) rfl (by kernel_rfl) (by kernel_rfl) (by kernel_rfl) (fun _ _ _ h => h) (Or.inl ⟨by rfl, ?_⟩) (by assumption) ?_
      rotate_left
      · intro w hSw; (try dsimp only at hSw); unfold oporr3; go_simp; try with_reducible rfl
      try unfold oporr3
      (try simp only [Act.put, List.setIfInBounds_toArray, List.set_cons_zero, List.set_cons_succ])
      refine wpAnyH_ready (rs := [1, 4]) (by kernel_rfl) (by simp) ?_
      refine AllReadyH.cons (o := oporr1) rfl (fun K hK => ?_) (AllReadyH.cons (o := oporr4) rfl (fun K hK => ?_) AllReadyH.nil)
      {
 try unfold oporr1
 have c8 := HE.out.box.cells.2.2.2.2.2.2.2.2
 go_simp
 refine hK.out _ _ ?_ (fun hHeld => ?_)
 · exact HE.out.rb
 clear c8
 clear hK K
 try unfold oporr1
 (try simp only [Act.put, List.setIfInBounds_toArray, List.set_cons_zero, List.set_cons_succ])
 refine wpAnyH_ready (rs := [4]) (by kernel_rfl) (by simp) ?_
 refine AllReadyH.cons (o := oporr4) rfl (fun K hK => ?_) AllReadyH.nil
 try unfold oporr4
 go_simp
 refine (IH.out g ts er X hts hf1 HE.out.sp hN (Nat.le_trans hNw HE.out.mv.below.size) (fun w' hb => HPs.out w' (HE.out.mv.below.trans hb)) HNE.out).mono ?_
 rintro ev w5 ⟨y, rfl, hyn, hyo, hs5, hm5⟩
 obtain ⟨oy, byy, vy, Ay, cy, ky⟩ := y
 obtain ⟨p0, p1, p2, p3, p4, p5, rfl⟩ := Proofs.YtcokplikmjegcaaGreatDoor.six hyo.six
 have hg5 := hm5.grow
 have HY := Lib.hid (hyo.keep (ok' := fun k => H ≤ k) (fun _ _ _ => rfl) (Nat.le_refl _) (fun k q _ => Nat.le_trans hzX q))
 have HYN := Lib.hid hyn
 have HE5 := Lib.hid (HE.out.turn hg5 hs5 hN hNw hgw hge)
 have hzw5 : H ≤ w5.heap.size := Nat.le_trans hzX hg5.size
 rw [NT.val_lit]
 clear hyn hyo hs5 hm5 hg5 HE
 have HE := HE5
 clear HE5
 refine hK.out _ _ ?_ (fun hHeld => ?_)
 · exact HE.out.rb
 clear hK K
 try unfold oporr4
 (try simp only [Act.put, List.setIfInBounds_toArray, List.set_cons_zero, List.set_cons_succ])
 refine wpAnyH_ready (rs := [5]) (by kernel_rfl) (by simp) ?_
 refine AllReadyH.cons (o := oporr5) rfl (fun K hK => ?_) AllReadyH.nil
 try unfold oporr5
 go_simp
 have hb := below_new w5 (.cells #[.int .i64 oy, .int .i64 p0, .int .i64 p1, .int .i64 p2, .int .i64 p3, .int .i64 p4, .int .i64 p5, .int .i64 vy, .slice Ay ky.len cy] 27)
 have HZ := Lib.hid (heap_new w5 (.cells #[.int .i64 oy, .int .i64 p0, .int .i64 p1, .int .i64 p2, .int .i64 p3, .int .i64 p4, .int .i64 p5, .int .i64 vy, .slice Ay ky.len cy] 27))
 have HE4 := Lib.hid (HE.out.keep hb hNw)
 have hzw6 : H ≤ (w5.alloc (.cells #[.int .i64 oy, .int .i64 p0, .int .i64 p1, .int .i64 p2, .int .i64 p3, .int .i64 p4, .int .i64 p5, .int .i64 vy, .slice Ay ky.len cy] 27)).heap.size := Nat.le_trans hzw5 hb.size
 replace HY := Lib.hid (HY.out.below hb)
 clear hb HE
 have HE := HE4
 clear HE4
 obtain ⟨w6, hw6⟩ : ∃ w6, w6 = w5.alloc (.cells #[.int .i64 oy, .int .i64 p0, .int .i64 p1, .int .i64 p2, .int .i64 p3, .int .i64 p4, .int .i64 p5, .int .i64 vy, .slice Ay ky.len cy] 27) := ⟨_, rfl⟩
 rw [← hw6] at HZ HE hzw6 HY ⊢
 clear hw6
 refine hK.out _ _ ?_ (fun hHeld => ?_)
 · exact HE.out.rb
 clear hK K
 try unfold oporr5
 (try simp only [Act.put, List.setIfInBounds_toArray, List.set_cons_zero, List.set_cons_succ])
 refine wpAnyH_ready (rs := [6]) (by kernel_rfl) (by simp) ?_
 refine AllReadyH.cons (o := oporr6) rfl (fun K hK => ?_) AllReadyH.nil
 try unfold oporr6
 refine step_append_lies _ (by rfl) _ _ _ (by rfl) (ge + 1) 27 i0 (.agg #[.int .i64 0, .int .i64 0, .int .i64 0, .int .i64 0, .int .i64 0, .int .i64 0, .int .i64 0, .int .i64 0, .slice none 0 0]) 9 88 Tryz.underlying25 hi hz0 hz1 hz2 rfl (by decide) _ _ _ (by rfl) HE.out.own.1 ⟨w5.heap.size, 0, none⟩ 1 1 [.int .i64 oy, .int .i64 p0, .int .i64 p1, .int .i64 p2, .int .i64 p3, .int .i64 p4, .int .i64 p5, .int .i64 vy, .slice Ay ky.len cy] (by rfl) rfl ?c1 ?c2 (by decide) ?c4 ?c5 ?c6 _ rfl ?_
 case c1 => exact World.news_of_block HZ.out
 case c2 => exact ntE.one (⟨oy, [p0, p1, p2, p3, p4, p5], vy, Ay, cy, ky⟩ : NT)
 case c4 => unfold maxLen; omega
 case c5 => omega
 case c6 => omega
 intro gg cp7 w7 hown hgrow hat hlt7
 replace HY := Lib.hid (HY.out.keep (ok' := fun k => ge + 1 ≤ k ∧ (.slice Av L.length cv : Value).ownBlock ≠ some k) (fun _ _ _ => rfl) (Nat.le_refl _) (fun k q _ => ⟨by omega, fun e => by have := hvb k e; omega⟩))
 have HE7 := Lib.hid (HE.out.app hown hgrow hat HY.out hN hNw hgw hge)
 clear hown hgrow hat hlt7 HZ HE HY
 have HE := HE7
 clear HE7
 refine hK.out _ _ ?_ (fun hHeld => ?_)
 · exact HE.out.rb
 clear hK K
 try unfold oporr6
 (try simp only [Act.put, List.setIfInBounds_toArray, List.set_cons_zero, List.set_cons_succ])
 refine wpAnyH_take (i := 7) (oi := oporr7) (v := ?_) rfl (by kernel_rfl) (by kernel_rfl) (by kernel_rfl) (fun _ _ _ h => h) (Or.inl ⟨by rfl, ?_⟩) (by assumption) ?_
 rotate_left
 · intro w hSw; (try dsimp only at hSw); unfold oporr7; go_simp; try with_reducible rfl
 try unfold oporr7
 (try simp only [Act.put, List.setIfInBounds_toArray, List.set_cons_zero, List.set_cons_succ])
 refine wpAnyH_ready (rs := [8]) (by kernel_rfl) (by simp) ?_
 refine AllReadyH.cons (o := oporr8) rfl (fun K hK => ?_) AllReadyH.nil
 try unfold oporr8
 have c8 := HE.out.box.cells.2.2.2.2.2.2.2.2
 have f8 := HE.out.box.free.2.2.2.2.2.2.2.2
 have hza := HE.out.box.lt
 go_simp
 have HE9 := Lib.hid (HE.out.set8 (.slice (some ⟨gg, 0, none⟩) (L.length + 1) cp7) hN hNw hgw hge)
 obtain ⟨w9, hw9⟩ : ∃ w9, w9 = w7.setCell ⟨ge, 8, none⟩ (.slice (some ⟨gg, 0, none⟩) (L.length + 1) cp7) := ⟨_, rfl⟩
 rw [← hw9] at HE9 ⊢
 clear hw9 HE c8 f8 hza
 have HE := HE9
 clear HE9
 refine hK.out _ _ ?_ (fun hHeld => ?_)
 · exact HE.out.rb
 clear hK K
 try unfold oporr8
 (try simp only [Act.put, List.setIfInBounds_toArray, List.set_cons_zero, List.set_cons_succ])
 refine wpAnyH_done (by kernel_rfl) ?_ _
 have HFin : Hid (Te = 0 → (L ++ [(⟨oy, [p0, p1, p2, p3, p4, p5], vy, Ay, cy, ky⟩ : NT)]).map NT.n ++ (MX.rdL (MX.rdE LP f) q (MX.rdE LP f ts er).2.1 (MX.rdE LP f ts er).2.2).1 = n1 :: Tn) := Lib.hid (fun qq => by rw [List.map_append, List.map_singleton, HYN.out (HDD.out qq), List.append_assoc]; exact HE3.out qq)
 have HM2 : Hid (lenR g w9 < lenR g wr) := Lib.hid (by rw [HE.out.sp.lenR]; exact Nat.lt_of_le_of_lt RSUF.out HLn2.out)
 have hla : (L ++ [(⟨oy, [p0, p1, p2, p3, p4, p5], vy, Ay, cy, ky⟩ : NT)]).length + (MX.rdE LP f ts er).2.1.length ≤ 100001 := by rw [List.length_append, List.length_singleton]; have := RSUF.out; omega
 have hlb := Nat.lt_of_le_of_lt RSUF.out hq2
 have hlc := Nat.lt_of_le_of_lt RSUF.out hts
 clear hHeld HDD HYN HE3
 go_wp2_with fail
 go_roundw
 case rel => exact ⟨q, _, _, _, _, HE, hlb, hlc, hla, RSUB, HE4, HFin⟩
 case measure => exact HM2.out
 }
      {
 try unfold oporr4
 go_simp
 refine (IH.out g ts er X hts hf1 HE.out.sp hN (Nat.le_trans hNw HE.out.mv.below.size) (fun w' hb => HPs.out w' (HE.out.mv.below.trans hb)) HNE.out).mono ?_
 rintro ev w5 ⟨y, rfl, hyn, hyo, hs5, hm5⟩
 obtain ⟨oy, byy, vy, Ay, cy, ky⟩ := y
 obtain ⟨p0, p1, p2, p3, p4, p5, rfl⟩ := Proofs.YtcokplikmjegcaaGreatDoor.six hyo.six
 have hg5 := hm5.grow
 have HY := Lib.hid (hyo.keep (ok' := fun k => H ≤ k) (fun _ _ _ => rfl) (Nat.le_refl _) (fun k q _ => Nat.le_trans hzX q))
 have HYN := Lib.hid hyn
 have HE5 := Lib.hid (HE.out.turn hg5 hs5 hN hNw hgw hge)
 have hzw5 : H ≤ w5.heap.size := Nat.le_trans hzX hg5.size
 rw [NT.val_lit]
 clear hyn hyo hs5 hm5 hg5 HE
 have HE := HE5
 clear HE5
 refine hK.out _ _ ?_ (fun hHeld => ?_)
 · exact HE.out.rb
 clear hK K
 try unfold oporr4
 (try simp only [Act.put, List.setIfInBounds_toArray, List.set_cons_zero, List.set_cons_succ])
 refine wpAnyH_ready (rs := [1, 5]) (by kernel_rfl) (by simp) ?_
 refine AllReadyH.cons (o := oporr1) rfl (fun K hK => ?_) (AllReadyH.cons (o := oporr5) rfl (fun K hK => ?_) AllReadyH.nil)
 {
 try unfold oporr1
 have c8 := HE.out.box.cells.2.2.2.2.2.2.2.2
 go_simp
 refine hK.out _ _ ?_ (fun hHeld => ?_)
 · exact HE.out.rb
 clear c8
 clear hK K
 try unfold oporr1
 (try simp only [Act.put, List.setIfInBounds_toArray, List.set_cons_zero, List.set_cons_succ])
 refine wpAnyH_ready (rs := [5]) (by kernel_rfl) (by simp) ?_
 refine AllReadyH.cons (o := oporr5) rfl (fun K hK => ?_) AllReadyH.nil
 try unfold oporr5
 go_simp
 have hb := below_new w5 (.cells #[.int .i64 oy, .int .i64 p0, .int .i64 p1, .int .i64 p2, .int .i64 p3, .int .i64 p4, .int .i64 p5, .int .i64 vy, .slice Ay ky.len cy] 27)
 have HZ := Lib.hid (heap_new w5 (.cells #[.int .i64 oy, .int .i64 p0, .int .i64 p1, .int .i64 p2, .int .i64 p3, .int .i64 p4, .int .i64 p5, .int .i64 vy, .slice Ay ky.len cy] 27))
 have HE4 := Lib.hid (HE.out.keep hb hNw)
 have hzw6 : H ≤ (w5.alloc (.cells #[.int .i64 oy, .int .i64 p0, .int .i64 p1, .int .i64 p2, .int .i64 p3, .int .i64 p4, .int .i64 p5, .int .i64 vy, .slice Ay ky.len cy] 27)).heap.size := Nat.le_trans hzw5 hb.size
 replace HY := Lib.hid (HY.out.below hb)
 clear hb HE
 have HE := HE4
 clear HE4
 obtain ⟨w6, hw6⟩ : ∃ w6, w6 = w5.alloc (.cells #[.int .i64 oy, .int .i64 p0, .int .i64 p1, .int .i64 p2, .int .i64 p3, .int .i64 p4, .int .i64 p5, .int .i64 vy, .slice Ay ky.len cy] 27) := ⟨_, rfl⟩
 rw [← hw6] at HZ HE hzw6 HY ⊢
 clear hw6
 refine hK.out _ _ ?_ (fun hHeld => ?_)
 · exact HE.out.rb
 clear hK K
 try unfold oporr5
 (try simp only [Act.put, List.setIfInBounds_toArray, List.set_cons_zero, List.set_cons_succ])
 refine wpAnyH_ready (rs := [6]) (by kernel_rfl) (by simp) ?_
 refine AllReadyH.cons (o := oporr6) rfl (fun K hK => ?_) AllReadyH.nil
 try unfold oporr6
 refine step_append_lies _ (by rfl) _ _ _ (by rfl) (ge + 1) 27 i0 (.agg #[.int .i64 0, .int .i64 0, .int .i64 0, .int .i64 0, .int .i64 0, .int .i64 0, .int .i64 0, .int .i64 0, .slice none 0 0]) 9 88 Tryz.underlying25 hi hz0 hz1 hz2 rfl (by decide) _ _ _ (by rfl) HE.out.own.1 ⟨w5.heap.size, 0, none⟩ 1 1 [.int .i64 oy, .int .i64 p0, .int .i64 p1, .int .i64 p2, .int .i64 p3, .int .i64 p4, .int .i64 p5, .int .i64 vy, .slice Ay ky.len cy] (by rfl) rfl ?c1 ?c2 (by decide) ?c4 ?c5 ?c6 _ rfl ?_
 case c1 => exact World.news_of_block HZ.out
 case c2 => exact ntE.one (⟨oy, [p0, p1, p2, p3, p4, p5], vy, Ay, cy, ky⟩ : NT)
 case c4 => unfold maxLen; omega
 case c5 => omega
 case c6 => omega
 intro gg cp7 w7 hown hgrow hat hlt7
 replace HY := Lib.hid (HY.out.keep (ok' := fun k => ge + 1 ≤ k ∧ (.slice Av L.length cv : Value).ownBlock ≠ some k) (fun _ _ _ => rfl) (Nat.le_refl _) (fun k q _ => ⟨by omega, fun e => by have := hvb k e; omega⟩))
 have HE7 := Lib.hid (HE.out.app hown hgrow hat HY.out hN hNw hgw hge)
 clear hown hgrow hat hlt7 HZ HE HY
 have HE := HE7
 clear HE7
 refine hK.out _ _ ?_ (fun hHeld => ?_)
 · exact HE.out.rb
 clear hK K
 try unfold oporr6
 (try simp only [Act.put, List.setIfInBounds_toArray, List.set_cons_zero, List.set_cons_succ])
 refine wpAnyH_take (i := 7) (oi := oporr7) (v := ?_) rfl (by kernel_rfl) (by kernel_rfl) (by kernel_rfl) (fun _ _ _ h => h) (Or.inl ⟨by rfl, ?_⟩) (by assumption) ?_
 rotate_left
 · intro w hSw; (try dsimp only at hSw); unfold oporr7; go_simp; try with_reducible rfl
 try unfold oporr7
 (try simp only [Act.put, List.setIfInBounds_toArray, List.set_cons_zero, List.set_cons_succ])
 refine wpAnyH_ready (rs := [8]) (by kernel_rfl) (by simp) ?_
 refine AllReadyH.cons (o := oporr8) rfl (fun K hK => ?_) AllReadyH.nil
 try unfold oporr8
 have c8 := HE.out.box.cells.2.2.2.2.2.2.2.2
 have f8 := HE.out.box.free.2.2.2.2.2.2.2.2
 have hza := HE.out.box.lt
 go_simp
 have HE9 := Lib.hid (HE.out.set8 (.slice (some ⟨gg, 0, none⟩) (L.length + 1) cp7) hN hNw hgw hge)
 obtain ⟨w9, hw9⟩ : ∃ w9, w9 = w7.setCell ⟨ge, 8, none⟩ (.slice (some ⟨gg, 0, none⟩) (L.length + 1) cp7) := ⟨_, rfl⟩
 rw [← hw9] at HE9 ⊢
 clear hw9 HE c8 f8 hza
 have HE := HE9
 clear HE9
 refine hK.out _ _ ?_ (fun hHeld => ?_)
 · exact HE.out.rb
 clear hK K
 try unfold oporr8
 (try simp only [Act.put, List.setIfInBounds_toArray, List.set_cons_zero, List.set_cons_succ])
 refine wpAnyH_done (by kernel_rfl) ?_ _
 have HFin : Hid (Te = 0 → (L ++ [(⟨oy, [p0, p1, p2, p3, p4, p5], vy, Ay, cy, ky⟩ : NT)]).map NT.n ++ (MX.rdL (MX.rdE LP f) q (MX.rdE LP f ts er).2.1 (MX.rdE LP f ts er).2.2).1 = n1 :: Tn) := Lib.hid (fun qq => by rw [List.map_append, List.map_singleton, HYN.out (HDD.out qq), List.append_assoc]; exact HE3.out qq)
 have HM2 : Hid (lenR g w9 < lenR g wr) := Lib.hid (by rw [HE.out.sp.lenR]; exact Nat.lt_of_le_of_lt RSUF.out HLn2.out)
 have hla : (L ++ [(⟨oy, [p0, p1, p2, p3, p4, p5], vy, Ay, cy, ky⟩ : NT)]).length + (MX.rdE LP f ts er).2.1.length ≤ 100001 := by rw [List.length_append, List.length_singleton]; have := RSUF.out; omega
 have hlb := Nat.lt_of_le_of_lt RSUF.out hq2
 have hlc := Nat.lt_of_le_of_lt RSUF.out hts
 clear hHeld HDD HYN HE3
 go_wp2_with fail
 go_roundw
 case rel => exact ⟨q, _, _, _, _, HE, hlb, hlc, hla, RSUB, HE4, HFin⟩
 case measure => exact HM2.out
 }
 {
 try unfold oporr5
 go_simp
 have hb := below_new w5 (.cells #[.int .i64 oy, .int .i64 p0, .int .i64 p1, .int .i64 p2, .int .i64 p3, .int .i64 p4, .int .i64 p5, .int .i64 vy, .slice Ay ky.len cy] 27)
 have HZ := Lib.hid (heap_new w5 (.cells #[.int .i64 oy, .int .i64 p0, .int .i64 p1, .int .i64 p2, .int .i64 p3, .int .i64 p4, .int .i64 p5, .int .i64 vy, .slice Ay ky.len cy] 27))
 have HE4 := Lib.hid (HE.out.keep hb hNw)
 have hzw6 : H ≤ (w5.alloc (.cells #[.int .i64 oy, .int .i64 p0, .int .i64 p1, .int .i64 p2, .int .i64 p3, .int .i64 p4, .int .i64 p5, .int .i64 vy, .slice Ay ky.len cy] 27)).heap.size := Nat.le_trans hzw5 hb.size
 replace HY := Lib.hid (HY.out.below hb)
 clear hb HE
 have HE := HE4
 clear HE4
 obtain ⟨w6, hw6⟩ : ∃ w6, w6 = w5.alloc (.cells #[.int .i64 oy, .int .i64 p0, .int .i64 p1, .int .i64 p2, .int .i64 p3, .int .i64 p4, .int .i64 p5, .int .i64 vy, .slice Ay ky.len cy] 27) := ⟨_, rfl⟩
 rw [← hw6] at HZ HE hzw6 HY ⊢
 clear hw6
 refine hK.out _ _ ?_ (fun hHeld => ?_)
 · exact HE.out.rb
 clear hK K
 try unfold oporr5
 (try simp only [Act.put, List.setIfInBounds_toArray, List.set_cons_zero, List.set_cons_succ])
 refine wpAnyH_ready (rs := [1]) (by kernel_rfl) (by simp) ?_
 refine AllReadyH.cons (o := oporr1) rfl (fun K hK => ?_) AllReadyH.nil
 try unfold oporr1
 have c8 := HE.out.box.cells.2.2.2.2.2.2.2.2
 go_simp
 refine hK.out _ _ ?_ (fun hHeld => ?_)
 · exact HE.out.rb
 clear c8
 clear hK K
 try unfold oporr1
 (try simp only [Act.put, List.setIfInBounds_toArray, List.set_cons_zero, List.set_cons_succ])
 refine wpAnyH_ready (rs := [6]) (by kernel_rfl) (by simp) ?_
 refine AllReadyH.cons (o := oporr6) rfl (fun K hK => ?_) AllReadyH.nil
 try unfold oporr6
 refine step_append_lies _ (by rfl) _ _ _ (by rfl) (ge + 1) 27 i0 (.agg #[.int .i64 0, .int .i64 0, .int .i64 0, .int .i64 0, .int .i64 0, .int .i64 0, .int .i64 0, .int .i64 0, .slice none 0 0]) 9 88 Tryz.underlying25 hi hz0 hz1 hz2 rfl (by decide) _ _ _ (by rfl) HE.out.own.1 ⟨w5.heap.size, 0, none⟩ 1 1 [.int .i64 oy, .int .i64 p0, .int .i64 p1, .int .i64 p2, .int .i64 p3, .int .i64 p4, .int .i64 p5, .int .i64 vy, .slice Ay ky.len cy] (by rfl) rfl ?c1 ?c2 (by decide) ?c4 ?c5 ?c6 _ rfl ?_
 case c1 => exact World.news_of_block HZ.out
 case c2 => exact ntE.one (⟨oy, [p0, p1, p2, p3, p4, p5], vy, Ay, cy, ky⟩ : NT)
 case c4 => unfold maxLen; omega
 case c5 => omega
 case c6 => omega
 intro gg cp7 w7 hown hgrow hat hlt7
 replace HY := Lib.hid (HY.out.keep (ok' := fun k => ge + 1 ≤ k ∧ (.slice Av L.length cv : Value).ownBlock ≠ some k) (fun _ _ _ => rfl) (Nat.le_refl _) (fun k q _ => ⟨by omega, fun e => by have := hvb k e; omega⟩))
 have HE7 := Lib.hid (HE.out.app hown hgrow hat HY.out hN hNw hgw hge)
 clear hown hgrow hat hlt7 HZ HE HY
 have HE := HE7
 clear HE7
 refine hK.out _ _ ?_ (fun hHeld => ?_)
 · exact HE.out.rb
 clear hK K
 try unfold oporr6
 (try simp only [Act.put, List.setIfInBounds_toArray, List.set_cons_zero, List.set_cons_succ])
 refine wpAnyH_take (i := 7) (oi := oporr7) (v := ?_) rfl (by kernel_rfl) (by kernel_rfl) (by kernel_rfl) (fun _ _ _ h => h) (Or.inl ⟨by rfl, ?_⟩) (by assumption) ?_
 rotate_left
 · intro w hSw; (try dsimp only at hSw); unfold oporr7; go_simp; try with_reducible rfl
 try unfold oporr7
 (try simp only [Act.put, List.setIfInBounds_toArray, List.set_cons_zero, List.set_cons_succ])
 refine wpAnyH_ready (rs := [8]) (by kernel_rfl) (by simp) ?_
 refine AllReadyH.cons (o := oporr8) rfl (fun K hK => ?_) AllReadyH.nil
 try unfold oporr8
 have c8 := HE.out.box.cells.2.2.2.2.2.2.2.2
 have f8 := HE.out.box.free.2.2.2.2.2.2.2.2
 have hza := HE.out.box.lt
 go_simp
 have HE9 := Lib.hid (HE.out.set8 (.slice (some ⟨gg, 0, none⟩) (L.length + 1) cp7) hN hNw hgw hge)
 obtain ⟨w9, hw9⟩ : ∃ w9, w9 = w7.setCell ⟨ge, 8, none⟩ (.slice (some ⟨gg, 0, none⟩) (L.length + 1) cp7) := ⟨_, rfl⟩
 rw [← hw9] at HE9 ⊢
 clear hw9 HE c8 f8 hza
 have HE := HE9
 clear HE9
 refine hK.out _ _ ?_ (fun hHeld => ?_)
 · exact HE.out.rb
 clear hK K
 try unfold oporr8
 (try simp only [Act.put, List.setIfInBounds_toArray, List.set_cons_zero, List.set_cons_succ])
 refine wpAnyH_done (by kernel_rfl) ?_ _
 have HFin : Hid (Te = 0 → (L ++ [(⟨oy, [p0, p1, p2, p3, p4, p5], vy, Ay, cy, ky⟩ : NT)]).map NT.n ++ (MX.rdL (MX.rdE LP f) q (MX.rdE LP f ts er).2.1 (MX.rdE LP f ts er).2.2).1 = n1 :: Tn) := Lib.hid (fun qq => by rw [List.map_append, List.map_singleton, HYN.out (HDD.out qq), List.append_assoc]; exact HE3.out qq)
 have HM2 : Hid (lenR g w9 < lenR g wr) := Lib.hid (by rw [HE.out.sp.lenR]; exact Nat.lt_of_le_of_lt RSUF.out HLn2.out)
 have hla : (L ++ [(⟨oy, [p0, p1, p2, p3, p4, p5], vy, Ay, cy, ky⟩ : NT)]).length + (MX.rdE LP f ts er).2.1.length ≤ 100001 := by rw [List.length_append, List.length_singleton]; have := RSUF.out; omega
 have hlb := Nat.lt_of_le_of_lt RSUF.out hq2
 have hlc := Nat.lt_of_le_of_lt RSUF.out hts
 clear hHeld HDD HYN HE3
 go_wp2_with fail
 go_roundw
 case rel => exact ⟨q, _, _, _, _, HE, hlb, hlc, hla, RSUB, HE4, HFin⟩
 case measure => exact HM2.out
 }
 }
    | false =>
      rw [hb, if_neg (by decide)] at AC
      have HE3 := HE1.out
      have HE4 := HE2.out
      rw [MX.rdL_nil hb] at HE3 HE4
      rw [List.append_nil] at HE3
      have e4 : ts = Tt ∧ er = Te := by simpa using HE4
      obtain ⟨rfl, rfl⟩ := e4
      have HE5 := Lib.hid HE3
      clear HE3 HE4 HE1 HE2 hb
      go_wp2_with fail
      refine AC.out.mono ?_
      rintro ev w5 ⟨rfl, hs, hg⟩
      have E12 := Lib.hid (HE0.out.turn hg hs hN hNw hgw hge)
      clear hs hg AC HE0 HNE
      have EX7 := Lib.hid (rexpectU 41 E12.out.sp)
      have HE4 : Hid (MX.exE 41 ts er = 0 → er = 0) := Lib.hid (fun q => (MX.ex_zero q).1)
      unfold MX.endP at POST0
      dsimp only at POST0
      go_wp2_with fail
      refine EX7.out.mono ?_
      rintro ev w9 ⟨rfl, hs9, hg9⟩
      have E9 := Lib.hid (E12.out.turn hg9 hs9 hN hNw hgw hge)
      have B64 := Lib.hid six0_64
      have V64 := Lib.hid (in64_small (z := 0) (by decide) (by decide))
      clear hs9 hg9 E12 EX7
      obtain ⟨Ar, cr, hvk, hl, hab⟩ := E9.out.own.form2 (own_few E9.out.own)
      subst hvk
      have KD := Lib.hid (own_kids (ok := fun j => ge + 1 ≤ j) hl (fun ad e => (hab ad e).1) (fun z hz => (E9.out.ok z hz).keep (fun _ _ _ => rfl) (Nat.le_refl _) (fun j q _ => q.1)))
      clear hl hab
      obtain ⟨a0, a1, a2, a3, a4, a5, a6, a7, a8⟩ := E9.out.box.cells
      obtain ⟨r0, r1, r2, r3, r4, r5, r6, r7, r8⟩ := E9.out.rb.cells
      obtain ⟨f0, f1, f2, f3, f4, f5, f6, f7, f8⟩ := E9.out.rb.free
      have hzr := E9.out.rb.lt
      have hza := E9.out.box.lt
      go_wp2
      refine bodyPost_ret (rexp_results _ rfl (by rw [nest_0]; exact E9.out.rb.put _ _ _ _ _ _ _ _ _)) rfl ?_
      rw [nest_0]
      have hgr := grown_setsP (w := w9) (g := w.heap.size) [.int .i64 3, .int .i64 0, .int .i64 0, .int .i64 0, .int .i64 0, .int .i64 0, .int .i64 0, .int .i64 0, .slice Ar L.length cr] 0
      have FIN := POST0.out _ _ ⟨⟨3, [0, 0, 0, 0, 0, 0], 0, Ar, cr, FT.of L⟩, rfl, fun q => (by have e := HE5.out (HE4.out q); show (⟨3, [0, 0, 0, 0, 0, 0], 0, (FT.of L).f⟩ : Nd) = ⟨3, MC.Z6, 0, MX.mkF (n1 :: Tn)⟩; rw [← e, ← FT.of_f, MX.mkF_roots]; rfl), ⟨rfl, in64_small (z := 3) (by decide) (by decide), V64.out, B64.out, KD.out.keep (fun j q hl => hgr.block j hl (fun e => by have := Option.some.inj e; omega)) hgr.size (fun j q _ => by omega)⟩,
        E9.out.sp.turn hgr (fun k e => ⟨by have := Option.some.inj e; show g ≤ k; omega, by have := Option.some.inj e; omega⟩), E9.out.mv.turn hgr hNw (fun k e => ⟨by have := Option.some.inj e; omega, .inr (.inr (by have := Option.some.inj e; omega))⟩)⟩
      rw [NT.val_lit, FT.of_len] at FIN
      exact FIN
end Go.Proofs.YtcokplikmjegcaaGreatDoor
