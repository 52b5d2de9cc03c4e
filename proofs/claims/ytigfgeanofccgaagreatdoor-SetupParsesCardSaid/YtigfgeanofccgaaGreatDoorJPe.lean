/- UPFeas, UPRem, joined: no claim of its own. -/
import Derived.Test.YtigfgeanofccgaaGreatDoorJPl
import Derived.Test.YtigfgeanofccgaaGreatDoorJGl
namespace Go.Proofs.YtigfgeanofccgaaGreatDoor
open Go.RowKit
open MU (Su Cp As)
/-- What lies while the bundles are added up. -/
structure Fbp (wo : World) (v1 v2 v3 v4 : Value) (a u o c : List Int) (Ba Bo : Nat) (wr : World) : Prop where
  box : TB wr wo.heap.size 27 v1 v2 v3 v4
  al : BB wr Ba 40 a
  ou : BB wr (Ba + 1) 40 u
  op : BB wr Bo 40 o
  cl : BB wr (Bo + 1) 40 c
  apart : wo.heap.size < Ba ∧ Ba + 1 < Bo
  below : Below wo.heap.size wo wr
section
variable {wo wr wr' : World} {v1 v2 v3 v4 : Value} {a u o c : List Int} {Ba Bo : Nat}
theorem Fbp.keep (h : Fbp wo v1 v2 v3 v4 a u o c Ba Bo wr) (hb : Below wr.heap.size wr wr') : Fbp wo v1 v2 v3 v4 a u o c Ba Bo wr' :=
  ⟨h.box.keep hb, h.al.keep hb h.al.lt, h.ou.keep hb h.ou.lt, h.op.keep hb h.op.lt, h.cl.keep hb h.cl.lt, h.apart, h.below.trans (hb.mono h.below.size)⟩
theorem TB.six {w : World} {g : Nat} {T : TypeId} {a b c d : Value} (h : TB w g T a b c d) {B : Nat} (hne : g ≠ B) (y0 y1 y2 y3 y4 y5 : Value) : TB ((((((w.setCell ⟨B, 0, none⟩ y0).setCell ⟨B, 1, none⟩ y1).setCell ⟨B, 2, none⟩ y2).setCell ⟨B, 3, none⟩ y3).setCell ⟨B, 4, none⟩ y4).setCell ⟨B, 5, none⟩ y5) g T a b c d :=
  (((((h.other _ hne).other _ hne).other _ hne).other _ hne).other _ hne).other _ hne
theorem Fbp.setA {a0 a1 a2 a3 a4 a5 : Int} (h : Fbp wo v1 v2 v3 v4 [a0, a1, a2, a3, a4, a5] u o c Ba Bo wr) (y0 y1 y2 y3 y4 y5 : Int) : Fbp wo v1 v2 v3 v4 [y0, y1, y2, y3, y4, y5] u o c Ba Bo ((((((wr.setCell ⟨Ba, 0, none⟩ (.int .i64 y0)).setCell ⟨Ba, 1, none⟩ (.int .i64 y1)).setCell ⟨Ba, 2, none⟩ (.int .i64 y2)).setCell ⟨Ba, 3, none⟩ (.int .i64 y3)).setCell ⟨Ba, 4, none⟩ (.int .i64 y4)).setCell ⟨Ba, 5, none⟩ (.int .i64 y5)) := by
  have ha := h.apart
  exact ⟨h.box.six (by omega) _ _ _ _ _ _, h.al.six y0 y1 y2 y3 y4 y5, h.ou.six_other (by omega) _ _ _ _ _ _, h.op.six_other (by omega) _ _ _ _ _ _, h.cl.six_other (by omega) _ _ _ _ _ _, ha, below_six h.below _ (by omega) _ _ _ _ _ _⟩
theorem Fbp.setU {u0 u1 u2 u3 u4 u5 : Int} (h : Fbp wo v1 v2 v3 v4 a [u0, u1, u2, u3, u4, u5] o c Ba Bo wr) (y0 y1 y2 y3 y4 y5 : Int) : Fbp wo v1 v2 v3 v4 a [y0, y1, y2, y3, y4, y5] o c Ba Bo ((((((wr.setCell ⟨Ba + 1, 0, none⟩ (.int .i64 y0)).setCell ⟨Ba + 1, 1, none⟩ (.int .i64 y1)).setCell ⟨Ba + 1, 2, none⟩ (.int .i64 y2)).setCell ⟨Ba + 1, 3, none⟩ (.int .i64 y3)).setCell ⟨Ba + 1, 4, none⟩ (.int .i64 y4)).setCell ⟨Ba + 1, 5, none⟩ (.int .i64 y5)) := by
  have ha := h.apart
  have hs := h.al.six_other (B := Ba + 1) (by omega) y0 y1 y2 y3 y4 y5
  exact ⟨h.box.six (by omega) _ _ _ _ _ _, hs, h.ou.six y0 y1 y2 y3 y4 y5, h.op.six_other (by omega) _ _ _ _ _ _, h.cl.six_other (by omega) _ _ _ _ _ _, ha, below_six h.below _ (by omega) _ _ _ _ _ _⟩
end
set_option maxRecDepth 100000 in
set_option maxHeartbeats 16000000 in
theorem pfeas_any (A1 : Option Addr) (n1 c1 : Nat) (A2 : Option Addr) (n2 c2 : Nat) (A3 : Option Addr) (n3 c3 : Nat) (A4 : Option Addr) (n4 c4 : Nat) (s : Su) (A : Option Addr) (n c : Nat) (l : List (List Int)) (w : World) (h : SuAt w A1 n1 c1 A2 n2 c2 A3 n3 c3 A4 n4 c4 s) (h' : Lst bunE w A n c l) :
    Calls Tryz.prog 17 #[.agg #[.slice A1 n1 c1, .slice A2 n2 c2, .slice A3 n3 c3, .slice A4 n4 c4], .slice A n c] w (Gives (.int .i64 (MU.feasE s l)) w) := by
  have hn := h'.few
  have hc := h'.cap
  have hn2 := h.bs.few
  have hc2 := h.bs.cap
  have HL2 := Lib.hid h.bs.len
  have HL := Lib.hid h'.len
  have CK := Lib.hid (fun w' (hb : Below w.heap.size w w') => pcheck_any A1 n1 c1 A2 n2 c2 A3 n3 c3 A4 n4 c4 s w' (h.keep hb))
  have AD := Lib.hid (fun I b0 b1 b2 b3 b4 b5 w' (hb : Below w.heap.size w w') hs hI => allowed_any A1 n1 c1 A2 n2 c2 A3 n3 c3 A4 n4 c4 s I b0 b1 b2 b3 b4 b5 w' (h.keep hb) hs hI)
  have OP := Lib.hid (fun w' (hb : Below w.heap.size w w') hs => openUnits_any A1 n1 c1 A2 n2 c2 A3 n3 c3 A4 n4 c4 s w' (h.keep hb) hs)
  have SP := Lib.hid (fun w' (hb : Below w.heap.size w w') => supply_any A1 n1 c1 s.ps w' (h.ps.keep hb))
  have hmo : Tryz.prog.follows .mixedOrders = true := by kernel_rfl
  have H := Lib.hid h
  have H' := Lib.hid h'
  clear h h'
  have T0 := Lib.hid (TB.new w 27 (.slice A1 n1 c1) (.slice A2 n2 c2) (.slice A3 n3 c3) (.slice A4 n4 c4))
  have B0 := Lib.hid (below_new w (.cells #[.slice A1 n1 c1, .slice A2 n2 c2, .slice A3 n3 c3, .slice A4 n4 c4] 27))
  go_enter Tryz.func17, Tryz.ntmps17
  obtain ⟨er, her⟩ : ∃ er, MU.chkS s = er := ⟨_, rfl⟩
  have HE := Lib.hid her
  rw [her] at CK
  clear her
  go_upto_region 1 with (fail)
  generalize w.alloc (.cells #[.slice A1 n1 c1, .slice A2 n2 c2, .slice A3 n3 c3, .slice A4 n4 c4] 27) = W0 at *
  obtain ⟨x0, x1, x2, x3⟩ := T0.out.cells
  go_wp2_with fail
  refine (CK.out _ B0.out).mono ?_
  rintro ev w1 ⟨rfl, hb⟩
  have B1 := Lib.hid (B0.out.trans (hb.mono B0.out.size))
  have T1 := Lib.hid (T0.out.keep hb)
  clear hb CK T0 B0 x0 x1 x2 x3
  obtain ⟨x0, x1, x2, x3⟩ := T1.out.cells
  by_cases h1 : er = 0
  · subst h1
    by_cases hlen : n = n2
    · subst hlen
      have hLL : l.length = s.bs.length := by rw [HL.out, HL2.out]
      have HLL := Lib.hid hLL
      clear hLL
      have e2 : ((n : Int) != (n : Int)) = false := by simp
      have HST := Lib.hid (fun (k : Nat) (ee : Int) (hu : NoE (MU.eachE s l) k) (hk : k < n) (he : MU.eachE s l k = ee) (h0 : ee ≠ 0) =>
        ret_int (k := .i64) (show ee = MU.feasE s l by
          have e := hu.stop (by rw [he]; exact h0) (show k < l.length by rw [HL.out]; exact hk)
          rw [MU.feasE_each HE.out HLL.out (by rw [e, he]; exact h0), e, he]))
      go_wp2
      go_loopw [28] (fun i wr => ∃ k : Nat, k ≤ n ∧ i = .int .i64 k ∧ Hid (NoE (MU.eachE s l) k) ∧ Hid (Below w1.heap.size w1 wr)) (fun i _ => n - (intOf i).toNat)
      case atStart => exact ⟨0, Nat.zero_le _, rfl, Lib.hid (NoE.start _), Lib.hid (Below.refl _ _)⟩
      case round =>
        obtain ⟨k, hk, rfl, HU, HB⟩ := hrel
        clear x0 x1 x2 x3
        have T2 := Lib.hid (T1.out.keep HB.out)
        have B2 := Lib.hid (B1.out.trans (HB.out.mono B1.out.size))
        obtain ⟨x0, x1, x2, x3⟩ := T2.out.cells
        by_cases hlt : k < n
        · obtain ⟨ad, b0, b1, b2, b3, b4, b5, rfl, q1, hbk, y0, y1, y2, y3, y4, y5⟩ := bun_at (H'.out.keep B2.out) hlt
          have HA := Lib.hid (MU.eachE_at (s := s) q1)
          have N1 := Lib.hid (BB.new wr 40 b0 b1 b2 b3 b4 b5)
          have B3 := Lib.hid (HB.out.trans ((below_new wr (.cells #[.int .i64 b0, .int .i64 b1, .int .i64 b2, .int .i64 b3, .int .i64 b4, .int .i64 b5] 40)).mono HB.out.size))
          have HST2 := Lib.hid (fun ee he h0 => HST.out k ee HU.out hlt he h0)
          obtain ⟨ee, hee⟩ : ∃ ee, MU.allowE s (k : Int) [b0, b1, b2, b3, b4, b5] = ee := ⟨_, rfl⟩
          have AD2 := Lib.hid (fun w' hb => AD.out k b0 b1 b2 b3 b4 b5 w' hb HE.out hlt)
          rw [hee] at HA AD2
          clear q1 hbk hee HB T2 HST
          go_upto_region 9 with (fail)
          obtain ⟨X, hX⟩ : ∃ X, X = wr.alloc (.cells #[.int .i64 b0, .int .i64 b1, .int .i64 b2, .int .i64 b3, .int .i64 b4, .int .i64 b5] 40) := ⟨_, rfl⟩
          rw [← hX] at N1 B3 ⊢
          clear hX x0 x1 x2 x3 y0 y1 y2 y3 y4 y5
          have T3 := T1.out.keep B3.out
          obtain ⟨x0, x1, x2, x3⟩ := T3.cells
          obtain ⟨y0, y1, y2, y3, y4, y5⟩ := cells6 N1.out
          clear T3
          go_wp2_with fail
          refine (AD2.out _ (B1.out.trans (B3.out.mono B1.out.size))).mono ?_
          rintro ev w2 ⟨rfl, hb⟩
          have B4 := Lib.hid (B3.out.trans (hb.mono B3.out.size))
          clear hb AD2 x0 x1 x2 x3 y0 y1 y2 y3 y4 y5 B3 N1
          by_cases he : ee = 0
          · subst he
            have G := Lib.hid (HU.out.step HA.out)
            clear HST2
            go_wp2
            go_roundw
            case rel => exact ⟨k + 1, by omega, by go_num, G, B4⟩
            case measure => simp [intOf]; omega
          · have hb : (ee != 0) = true := bne_iff_ne.2 he
            have G := Lib.hid (HST2.out ee HA.out he)
            have B5 := Lib.hid (B1.out.trans (B4.out.mono B1.out.size))
            clear HST2
            go_wp2
            go_ret
            exact ⟨G.out, B5.out⟩
        · obtain rfl : k = n := by omega
          have HU2 := Lib.hid (show NoE (MU.eachE s l) l.length by rw [HL.out]; exact HU.out)
          have HBN := Lib.hid (MU.each_rng HU2.out)
          rw [HL.out] at HBN
          have hfew : k ≤ 8 := by have := (MR.chk_good (MU.chkS_good HE.out).bs).few; rw [HL2.out] at this; exact this
          have SPo := Lib.hid (fun w' hb => OP.out w' hb HE.out)
          clear HST HU OP AD
          obtain ⟨o0, o1, o2, o3, o4, o5, ho⟩ := six (MU.openB_len s)
          obtain ⟨k0, k1, k2, k3, k4, k5, hk'⟩ := six (MU.classB_len s)
          obtain ⟨p0, p1, p2, p3, p4, p5, hp⟩ := six (MC.supB_length s.ps)
          rw [ho, hk', aggB_lit, aggB_lit] at SPo
          rw [hp, aggB_lit] at SP
          have HO := Lib.hid ho
          have HK := Lib.hid hk'
          have HP := Lib.hid hp
          clear ho hk' hp
          obtain ⟨wo1, hwo1⟩ : ∃ wo1 : World, wo1 = wr := ⟨_, rfl⟩
          rw [← hwo1] at B2 T2 x0 x1 x2 x3 ⊢
          clear hwo1 HB T1
          have Z2 := Lib.hid (below_two wo1 (.cells #[.int .i64 0, .int .i64 0, .int .i64 0, .int .i64 0, .int .i64 0, .int .i64 0] 40) (.cells #[.int .i64 0, .int .i64 0, .int .i64 0, .int .i64 0, .int .i64 0, .int .i64 0] 40))
          have N2 := Lib.hid (two_boxes wo1 40 40 0 0 0 0 0 0 0 0 0 0 0 0)
          have T3 := Lib.hid (T2.out.keep Z2.out)
          have B3 := Lib.hid (B2.out.trans (Z2.out.mono B2.out.size))
          have hsz := Lib.hid T2.out.lt
          go_upto_region 14 with (fail)
          generalize ((wo1.alloc (.cells #[.int .i64 0, .int .i64 0, .int .i64 0, .int .i64 0, .int .i64 0, .int .i64 0] 40)).alloc (.cells #[.int .i64 0, .int .i64 0, .int .i64 0, .int .i64 0, .int .i64 0, .int .i64 0] 40)) = W3 at *
          generalize wo1.heap.size = Ba at *
          clear x0 x1 x2 x3 B2 T2 Z2
          obtain ⟨x0, x1, x2, x3⟩ := T3.out.cells
          go_wp2_with fail
          refine (SPo.out _ B3.out).mono ?_
          rintro ev w4 ⟨rfl, hb⟩
          have FB := Lib.hid (show Fbp w (.slice A1 n1 c1) (.slice A2 k c2) (.slice A3 n3 c3) (.slice A4 n4 c4) (MU.sumB l 0) (MU.souB s l 0) [o0, o1, o2, o3, o4, o5] [k0, k1, k2, k3, k4, k5] Ba w4.heap.size
              ((w4.alloc (.cells #[.int .i64 o0, .int .i64 o1, .int .i64 o2, .int .i64 o3, .int .i64 o4, .int .i64 o5] 40)).alloc (.cells #[.int .i64 k0, .int .i64 k1, .int .i64 k2, .int .i64 k3, .int .i64 k4, .int .i64 k5] 40)) by
            have hb2 := hb.trans ((below_two w4 (.cells #[.int .i64 o0, .int .i64 o1, .int .i64 o2, .int .i64 o3, .int .i64 o4, .int .i64 o5] 40) (.cells #[.int .i64 k0, .int .i64 k1, .int .i64 k2, .int .i64 k3, .int .i64 k4, .int .i64 k5] 40)).mono hb.size)
            obtain ⟨t1, t2⟩ := two_boxes w4 40 40 o0 o1 o2 o3 o4 o5 k0 k1 k2 k3 k4 k5
            have hlt2 := N2.out.2.lt
            have hbs := hb.size
            exact ⟨T3.out.keep hb2, N2.out.1.keep hb2 N2.out.1.lt, N2.out.2.keep hb2 N2.out.2.lt, t1, t2, ⟨hsz.out, by omega⟩, B3.out.trans (hb2.mono B3.out.size)⟩)
          clear hb N2 B3 T3 SPo x0 x1 x2 x3 hsz
          go_wp2
          generalize ((w4.alloc (.cells #[.int .i64 o0, .int .i64 o1, .int .i64 o2, .int .i64 o3, .int .i64 o4, .int .i64 o5] 40)).alloc (.cells #[.int .i64 k0, .int .i64 k1, .int .i64 k2, .int .i64 k3, .int .i64 k4, .int .i64 k5] 40)) = W5 at *
          generalize w4.heap.size = Bo at *
          go_loopw [48] (fun i wr => ∃ j : Nat, j ≤ k ∧ i = .int .i64 j ∧ Hid (Fbp w (.slice A1 n1 c1) (.slice A2 k c2) (.slice A3 n3 c3) (.slice A4 n4 c4) (MU.sumB l j) (MU.souB s l j) [o0, o1, o2, o3, o4, o5] [k0, k1, k2, k3, k4, k5] Ba Bo wr)) (fun i _ => k - (intOf i).toNat)
          case atStart => exact ⟨0, Nat.zero_le _, rfl, FB⟩
          case round =>
            obtain ⟨j, hj, rfl, HF⟩ := hrel
            clear FB
            by_cases hjt : j < k
            · obtain ⟨ad, b0, b1, b2, b3, b4, b5, rfl, q1, hbk, y0, y1, y2, y3, y4, y5⟩ := bun_at (H'.out.keep HF.out.below) hjt
              have hbb : Ba < wr.heap.size ∧ Ba + 1 < wr.heap.size := ⟨HF.out.al.lt, HF.out.ou.lt⟩
              obtain ⟨a0, a1, a2, a3, a4, a5, ha⟩ := six (show (MU.sumB l j).length = 6 from rfl)
              obtain ⟨s0, s1, s2, s3, s4, s5, hs⟩ := six (show (MU.sumB l (j + 1)).length = 6 from rfl)
              obtain ⟨u0, u1, u2, u3, u4, u5, hu⟩ := six (show (MU.souB s l j).length = 6 from rfl)
              obtain ⟨t0, t1, t2, t3, t4, t5, ht⟩ := six (show (MU.souB s l (j + 1)).length = 6 from rfl)
              have hadd : addB [a0, a1, a2, a3, a4, a5] [b0, b1, b2, b3, b4, b5] = [s0, s1, s2, s3, s4, s5] := by rw [← ha, ← hs]; exact MU.sumB_step HBN.out (by omega) hjt q1
              obtain ⟨adb, pq, e', q2, hfi, hbk2, z0, z1, z2, z3⟩ := bd_at (H.out.bs.keep HF.out.below) (show j < k by omega)
              have HCL := MU.clsOf_at q2
              have hou : addB [u0, u1, u2, u3, u4, u5] (MU.outB [k0, k1, k2, k3, k4, k5] pq.cls [b0, b1, b2, b3, b4, b5]) = [t0, t1, t2, t3, t4, t5] := by
                rw [← hu, ← ht, ← HK.out, ← HCL]; exact MU.souB_step HBN.out (by omega) hjt q1
              obtain ⟨v0, v1, v2, v3, v4, v5, hv⟩ := six (show (MU.outB [k0, k1, k2, k3, k4, k5] pq.cls [b0, b1, b2, b3, b4, b5]).length = 6 from rfl)
              have AA := Lib.hid (fun w' => add_any a0 a1 a2 a3 a4 a5 b0 b1 b2 b3 b4 b5 w')
              have OU := Lib.hid (fun w' => outside_any k0 k1 k2 k3 k4 k5 pq.cls b0 b1 b2 b3 b4 b5 w')
              have AU := Lib.hid (fun w' => add_any u0 u1 u2 u3 u4 u5 v0 v1 v2 v3 v4 v5 w')
              rw [hv] at hou
              rw [hadd, aggB_lit] at AA
              rw [hou, aggB_lit] at AU
              rw [hv, aggB_lit] at OU
              have HS1 := Lib.hid hs
              have HQ2 := Lib.hid q2
              have HT1 := Lib.hid ht
              rw [ha, hu] at HF
              have N1 := Lib.hid (BB.new wr 40 b0 b1 b2 b3 b4 b5)
              have F1 := Lib.hid (HF.out.keep (below_new wr (.cells #[.int .i64 b0, .int .i64 b1, .int .i64 b2, .int .i64 b3, .int .i64 b4, .int .i64 b5] 40)))
              subst e'
              clear q1 hbk ha hs hu ht hadd q2 hfi hbk2 z0 z1 z2 z3 HCL hou hv HF
              obtain ⟨pn, pcl, pbu, pp⟩ := pq
              simp only at *
              go_upto_region 18 with (fail)
              obtain ⟨X, hX⟩ : ∃ X, X = wr.alloc (.cells #[.int .i64 b0, .int .i64 b1, .int .i64 b2, .int .i64 b3, .int .i64 b4, .int .i64 b5] 40) := ⟨_, rfl⟩
              rw [← hX] at N1 F1 ⊢
              generalize hbp : wr.heap.size = bp at *
              clear hX hbp y0 y1 y2 y3 y4 y5
              obtain ⟨y0, y1, y2, y3, y4, y5⟩ := cells6 N1.out
              obtain ⟨c0', c1', c2', c3', c4', c5'⟩ := cells6 F1.out.al
              go_wp2_with fail
              refine (AA.out _).mono ?_
              rintro ev w6 ⟨rfl, hb⟩
              have N2 := Lib.hid (N1.out.keep hb N1.out.lt)
              have F2 := Lib.hid (F1.out.keep hb)
              clear hb AA N1 F1 y0 y1 y2 y3 y4 y5 c0' c1' c2' c3' c4' c5'
              obtain ⟨c0', c1', c2', c3', c4', c5'⟩ := cells6 F2.out.al
              obtain ⟨g0, g1, g2, g3, g4, g5⟩ := free6 F2.out.al
              have hzz := F2.out.al.lt
              have N3 := Lib.hid (N2.out.six_other (show bp ≠ Ba by omega) s0 s1 s2 s3 s4 s5)
              have F3 := Lib.hid (F2.out.setA s0 s1 s2 s3 s4 s5)
              clear N2 F2
              go_upto_region 19 with (fail)
              revert N3 F3
              generalize ((((((w6.setCell ⟨Ba, 0, none⟩ (.int .i64 s0)).setCell ⟨Ba, 1, none⟩ (.int .i64 s1)).setCell ⟨Ba, 2, none⟩ (.int .i64 s2)).setCell ⟨Ba, 3, none⟩ (.int .i64 s3)).setCell ⟨Ba, 4, none⟩ (.int .i64 s4)).setCell ⟨Ba, 5, none⟩ (.int .i64 s5)) = Y
              intro N3 F3
              clear c0' c1' c2' c3' c4' c5' g0 g1 g2 g3 g4 g5 hzz
              obtain ⟨x0, x1, x2, x3⟩ := F3.out.box.cells
              obtain ⟨y0, y1, y2, y3, y4, y5⟩ := cells6 N3.out
              obtain ⟨f0, f1, f2, f3, f4, f5⟩ := cells6 F3.out.ou
              obtain ⟨g0, g1, g2, g3, g4, g5⟩ := cells6 F3.out.cl
              obtain ⟨adb', pq', e', q2, hfi, hbk2, z0, z1, z2, z3⟩ := bd_at (H.out.bs.keep F3.out.below) (show j < k by omega)
              injection e' with e'
              subst e'
              rw [HQ2.out] at q2
              injection q2 with q2
              subst q2
              simp only at z0 z1 z2 z3
              have hjt' : (j : Int) < (k : Int) := by omega
              have k1' := cell_regrown x1
              have k2' := cell_regrown z1
              have m0 := cell_regrown y0
              have m1 := cell_regrown y1
              have m2 := cell_regrown y2
              have m3 := cell_regrown y3
              have m4 := cell_regrown y4
              have m5 := cell_regrown y5
              have i0 := cell_regrown f0
              have i1 := cell_regrown f1
              have i2 := cell_regrown f2
              have i3 := cell_regrown f3
              have i4 := cell_regrown f4
              have i5 := cell_regrown f5
              have j0 := cell_regrown g0
              have j1 := cell_regrown g1
              have j2 := cell_regrown g2
              have j3 := cell_regrown g3
              have j4 := cell_regrown g4
              have j5 := cell_regrown g5
              have cS := fun d os => Calls.regrown_of (OU.out (Go.Sort.grow (redrawn Y d) os))
              have cW := fun d os => Calls.regrown_of (AU.out (Go.Sort.grow (redrawn Y d) os))
              clear x0 x1 x2 x3 y0 y1 y2 y3 y4 y5 f0 f1 f2 f3 f4 f5 g0 g1 g2 g3 g4 g5 z0 z1 z2 z3 hfi hbk2 HQ2 N3
              refine region_cut 11 hmo (by kernel_rfl) ?_
              simp only [List.take_succ_cons, List.take_zero, List.drop_succ_cons, List.drop_zero]
              repeat (quiet_step (first | (with_reducible exact cS _ _) | (with_reducible exact cW _ _)))
              refine wpQuiet_nil ?_
              rintro _ ⟨pz, rfl⟩
              have F4 := Lib.hid (F3.out.keep (below_regrown Y pz.d pz.os))
              clear cS cW k1' k2' m0 m1 m2 m3 m4 m5 i0 i1 i2 i3 i4 i5 j0 j1 j2 j3 j4 j5 F3 OU AU
              generalize Go.Sort.grow (redrawn Y pz.d) pz.os = Z at *
              obtain ⟨f0, f1, f2, f3, f4, f5⟩ := cells6 F4.out.ou
              obtain ⟨g0, g1, g2, g3, g4, g5⟩ := free6 F4.out.ou
              have hzz := F4.out.ou.lt
              have F5 := Lib.hid (F4.out.setU t0 t1 t2 t3 t4 t5)
              rw [← HS1.out, ← HT1.out] at F5
              clear F4 HS1 HT1
              go_wp2
              go_roundw
              case rel => exact ⟨j + 1, by omega, by go_num, F5⟩
              case measure => simp [intOf]; omega
            · obtain rfl : j = k := by omega
              obtain ⟨a0, a1, a2, a3, a4, a5, ha⟩ := six (show (MU.sumB l j).length = 6 from rfl)
              obtain ⟨u0, u1, u2, u3, u4, u5, hu⟩ := six (show (MU.souB s l j).length = 6 from rfl)
              have WA := Lib.hid (fun w' => within_any a0 a1 a2 a3 a4 a5 p0 p1 p2 p3 p4 p5 w')
              have WU := Lib.hid (fun w' => within_any u0 u1 u2 u3 u4 u5 o0 o1 o2 o3 o4 o5 w')
              obtain ⟨v1, hv1⟩ : ∃ v, MB.withinB [a0, a1, a2, a3, a4, a5] [p0, p1, p2, p3, p4, p5] 6 = v := ⟨_, rfl⟩
              obtain ⟨v2, hv2⟩ : ∃ v, MB.withinB [u0, u1, u2, u3, u4, u5] [o0, o1, o2, o3, o4, o5] 6 = v := ⟨_, rfl⟩
              rw [hv1] at WA
              rw [hv2] at WU
              rw [ha, hu] at HF
              rw [← ha, ← HP.out] at hv1
              rw [← hu, ← HO.out] at hv2
              have E1 := Lib.hid (show MB.withinB (MU.sumB l l.length) (MC.supB s.ps) 6 = v1 by rw [HL.out]; exact hv1)
              have E2 := Lib.hid (show MB.withinB (MU.souB s l l.length) (MU.openB s) 6 = v2 by rw [HL.out]; exact hv2)
              clear ha hu hv1 hv2
              obtain ⟨x0, x1, x2, x3⟩ := HF.out.box.cells
              obtain ⟨y0, y1, y2, y3, y4, y5⟩ := cells6 HF.out.al
              obtain ⟨f0, f1, f2, f3, f4, f5⟩ := cells6 HF.out.ou
              obtain ⟨g0, g1, g2, g3, g4, g5⟩ := cells6 HF.out.op
              obtain ⟨Y, hY⟩ : ∃ Y : World, Y = wr := ⟨_, rfl⟩
              rw [← hY] at HF x0 x1 x2 x3 y0 y1 y2 y3 y4 y5 f0 f1 f2 f3 f4 f5 g0 g1 g2 g3 g4 g5 ⊢
              clear hY
              go_upto_region 21 with (fail)
              have k1' := cell_regrown x0
              have m0 := cell_regrown y0
              have m1 := cell_regrown y1
              have m2 := cell_regrown y2
              have m3 := cell_regrown y3
              have m4 := cell_regrown y4
              have m5 := cell_regrown y5
              have i0 := cell_regrown f0
              have i1 := cell_regrown f1
              have i2 := cell_regrown f2
              have i3 := cell_regrown f3
              have i4 := cell_regrown f4
              have i5 := cell_regrown f5
              have j0 := cell_regrown g0
              have j1 := cell_regrown g1
              have j2 := cell_regrown g2
              have j3 := cell_regrown g3
              have j4 := cell_regrown g4
              have j5 := cell_regrown g5
              have cS := fun d os => Calls.regrown_of (SP.out (Go.Sort.grow (redrawn Y d) os) (HF.out.below.trans ((below_regrown Y d os).mono HF.out.below.size)))
              have cW := fun d os => Calls.regrown_of (WA.out (Go.Sort.grow (redrawn Y d) os))
              have cU := fun d os => Calls.regrown_of (WU.out (Go.Sort.grow (redrawn Y d) os))
              have BD0 := Lib.hid HF.out.below
              clear x0 x1 x2 x3 y0 y1 y2 y3 y4 y5 f0 f1 f2 f3 f4 f5 g0 g1 g2 g3 g4 g5
              cases v1 with
              | false =>
                have G := Lib.hid (ret_int (k := .i64) (MU.feas_over HE.out HLL.out HU2.out (.inl E1.out)).symm)
                refine wp_region_quiet_below hmo (by kernel_rfl) ?_
                repeat (quiet_step (first | (with_reducible exact cS _ _) | (with_reducible exact cW _ _) | (with_reducible exact cU _ _)))
                refine wpQuiet_nil ?_
                rintro _ ⟨pz, rfl⟩
                have BD := Lib.hid (BD0.out.trans ((below_regrown Y pz.d pz.os).mono BD0.out.size))
                clear cS cW cU k1' m0 m1 m2 m3 m4 m5 i0 i1 i2 i3 i4 i5 j0 j1 j2 j3 j4 j5
                generalize Go.Sort.grow (redrawn Y pz.d) pz.os = Z at *
                go_wp2
                go_ret
                exact ⟨G.out, BD.out⟩
              | true =>
                cases v2 with
                | false =>
                  have G := Lib.hid (ret_int (k := .i64) (MU.feas_over HE.out HLL.out HU2.out (.inr E2.out)).symm)
                  refine wp_region_quiet_below hmo (by kernel_rfl) ?_
                  repeat (quiet_step (first | (with_reducible exact cS _ _) | (with_reducible exact cW _ _) | (with_reducible exact cU _ _)))
                  refine wpQuiet_nil ?_
                  rintro _ ⟨pz, rfl⟩
                  have BD := Lib.hid (BD0.out.trans ((below_regrown Y pz.d pz.os).mono BD0.out.size))
                  clear cS cW cU k1' m0 m1 m2 m3 m4 m5 i0 i1 i2 i3 i4 i5 j0 j1 j2 j3 j4 j5
                  generalize Go.Sort.grow (redrawn Y pz.d) pz.os = Z at *
                  go_wp2
                  go_ret
                  exact ⟨G.out, BD.out⟩
                | true =>
                  have G := Lib.hid (ret_int (k := .i64) (MU.feas_fine HE.out HLL.out HU2.out E1.out E2.out).symm)
                  refine wp_region_quiet_below hmo (by kernel_rfl) ?_
                  repeat (quiet_step (first | (with_reducible exact cS _ _) | (with_reducible exact cW _ _) | (with_reducible exact cU _ _)))
                  refine wpQuiet_nil ?_
                  rintro _ ⟨pz, rfl⟩
                  have BD := Lib.hid (BD0.out.trans ((below_regrown Y pz.d pz.os).mono BD0.out.size))
                  clear cS cW cU k1' m0 m1 m2 m3 m4 m5 i0 i1 i2 i3 i4 i5 j0 j1 j2 j3 j4 j5
                  generalize Go.Sort.grow (redrawn Y pz.d) pz.os = Z at *
                  go_wp2
                  go_ret
                  exact ⟨G.out, BD.out⟩
    · have e2 : ((n : Int) != (n2 : Int)) = true := bne_iff_ne.2 (by omega)
      have G := Lib.hid (ret_int (k := .i64) (MU.feasE_long (l := l) HE.out (by rw [HL.out, HL2.out]; exact hlen)).symm)
      clear AD OP SP
      go_wp2
      go_ret
      exact ⟨G.out, B1.out⟩
  · have hne : (er != 0) = true := bne_iff_ne.2 h1
    have G := Lib.hid (ret_int (k := .i64) (show er = MU.feasE s l by rw [MU.feasE_chk (by rw [HE.out]; exact h1), HE.out]))
    clear AD OP SP
    go_wp2
    go_ret
    exact ⟨G.out, B1.out⟩
end Go.Proofs.YtigfgeanofccgaaGreatDoor
namespace Go.Proofs.YtigfgeanofccgaaGreatDoor
open Go.RowKit
open MU (Su Cp As)
/-- What lies while the bundles are taken away. -/
structure Rmp (wo : World) (v1 v2 v3 v4 : Value) (a : List Int) (Bl : Nat) (wr : World) : Prop where
  box : TB wr wo.heap.size 27 v1 v2 v3 v4
  res : BB wr (wo.heap.size + 1) 40 [0, 0, 0, 0, 0, 0]
  le : BB wr Bl 40 a
  apart : wo.heap.size + 1 < Bl
  below : Below wo.heap.size wo wr
section
variable {wo wr wr' : World} {v1 v2 v3 v4 : Value} {a : List Int} {Bl : Nat}
theorem Rmp.keep (h : Rmp wo v1 v2 v3 v4 a Bl wr) (hb : Below wr.heap.size wr wr') : Rmp wo v1 v2 v3 v4 a Bl wr' :=
  ⟨h.box.keep hb, h.res.keep hb h.res.lt, h.le.keep hb h.le.lt, h.apart, h.below.trans (hb.mono h.below.size)⟩
theorem Rmp.set6 {a0 a1 a2 a3 a4 a5 : Int} (h : Rmp wo v1 v2 v3 v4 [a0, a1, a2, a3, a4, a5] Bl wr) (y0 y1 y2 y3 y4 y5 : Int) : Rmp wo v1 v2 v3 v4 [y0, y1, y2, y3, y4, y5] Bl ((((((wr.setCell ⟨Bl, 0, none⟩ (.int .i64 y0)).setCell ⟨Bl, 1, none⟩ (.int .i64 y1)).setCell ⟨Bl, 2, none⟩ (.int .i64 y2)).setCell ⟨Bl, 3, none⟩ (.int .i64 y3)).setCell ⟨Bl, 4, none⟩ (.int .i64 y4)).setCell ⟨Bl, 5, none⟩ (.int .i64 y5)) := by
  have ha := h.apart
  exact ⟨h.box.six (by omega) _ _ _ _ _ _, h.res.six_other (by omega) _ _ _ _ _ _, h.le.six y0 y1 y2 y3 y4 y5, ha, below_six h.below _ (by omega) _ _ _ _ _ _⟩
end
set_option maxHeartbeats 400000 in
theorem rem_results {w : World} {R1 : Nat} {z0 z1 z2 z3 z4 z5 : Int} (tmps : Array Value) (h2 : tmps.getD 4 undef = .pointer (some ⟨R1, 0, none⟩)) (b1 : BB w R1 40 [z0, z1, z2, z3, z4, z5]) :
    (results Tryz.f18 tmps).run Tryz.prog w = .ok (.agg #[.int .i64 z0, .int .i64 z1, .int .i64 z2, .int .i64 z3, .int .i64 z4, .int .i64 z5]) w := by
  have h2' : tmps[4]?.getD undef = .pointer (some ⟨R1, 0, none⟩) := by simpa using h2
  obtain ⟨r0, r1, r2, r3, r4, r5⟩ := cells6 b1
  simp [results, Tryz.results18, h2', go_sem, r0, r1, r2, r3, r4, r5]
set_option maxRecDepth 100000 in
set_option maxHeartbeats 8000000 in
theorem prem_any (A1 : Option Addr) (n1 c1 : Nat) (A2 : Option Addr) (n2 c2 : Nat) (A3 : Option Addr) (n3 c3 : Nat) (A4 : Option Addr) (n4 c4 : Nat) (s : Su) (A : Option Addr) (n c : Nat) (l : List (List Int)) (w : World) (h : SuAt w A1 n1 c1 A2 n2 c2 A3 n3 c3 A4 n4 c4 s) (h' : Lst bunE w A n c l) :
    Calls Tryz.prog 18 #[.agg #[.slice A1 n1 c1, .slice A2 n2 c2, .slice A3 n3 c3, .slice A4 n4 c4], .slice A n c] w (Gives (aggB (MU.remB s l)) w) := by
  have hn := h'.few
  have hc := h'.cap
  have HL := Lib.hid h'.len
  have FE := Lib.hid (fun w' (hb : Below w.heap.size w w') => pfeas_any A1 n1 c1 A2 n2 c2 A3 n3 c3 A4 n4 c4 s A n c l w' (h.keep hb) (h'.keep hb))
  have SP := Lib.hid (fun w' (hb : Below w.heap.size w w') => supply_any A1 n1 c1 s.ps w' (h.ps.keep hb))
  have H' := Lib.hid h'
  have HBL := Lib.hid h.bs.len
  clear h h'
  have T0 := Lib.hid ((TB.new w 27 (.slice A1 n1 c1) (.slice A2 n2 c2) (.slice A3 n3 c3) (.slice A4 n4 c4)).keep (below_new _ (.cells #[.int .i64 0, .int .i64 0, .int .i64 0, .int .i64 0, .int .i64 0, .int .i64 0] 40)))
  have N0 := Lib.hid (BB.new (w.alloc (.cells #[.slice A1 n1 c1, .slice A2 n2 c2, .slice A3 n3 c3, .slice A4 n4 c4] 27)) 40 0 0 0 0 0 0)
  rw [World.size_alloc] at N0
  have B0 := Lib.hid (below_two w (.cells #[.slice A1 n1 c1, .slice A2 n2 c2, .slice A3 n3 c3, .slice A4 n4 c4] 27) (.cells #[.int .i64 0, .int .i64 0, .int .i64 0, .int .i64 0, .int .i64 0, .int .i64 0] 40))
  go_enter Tryz.func18, Tryz.ntmps18
  obtain ⟨er, her⟩ : ∃ er, MU.feasE s l = er := ⟨_, rfl⟩
  have HE := Lib.hid her
  rw [her] at FE
  clear her
  go_upto_region 1 with (fail)
  generalize (w.alloc (.cells #[.slice A1 n1 c1, .slice A2 n2 c2, .slice A3 n3 c3, .slice A4 n4 c4] 27)).alloc (.cells #[.int .i64 0, .int .i64 0, .int .i64 0, .int .i64 0, .int .i64 0, .int .i64 0] 40) = W0 at *
  obtain ⟨x0, x1, x2, x3⟩ := T0.out.cells
  go_wp2_with fail
  refine (FE.out _ B0.out).mono ?_
  rintro ev w1 ⟨rfl, hb⟩
  have B1 := Lib.hid (B0.out.trans (hb.mono B0.out.size))
  have T1 := Lib.hid (T0.out.keep hb)
  have N1 := Lib.hid (N0.out.keep hb N0.out.lt)
  clear hb FE T0 N0 B0 x0 x1 x2 x3
  by_cases h1 : er = 0
  · subst h1
    obtain ⟨hs, hlen, hne, _⟩ := MU.feasE_zero HE.out
    have HS := Lib.hid hs
    have HBN := Lib.hid (MU.each_rng hne)
    rw [HL.out] at HBN
    have hfew : n ≤ 8 := by have := (MR.chk_good (MU.chkS_good hs).bs).few; rw [← hlen, HL.out] at this; exact this
    clear hs hlen hne
    obtain ⟨x0, x1, x2, x3⟩ := T1.out.cells
    obtain ⟨p0, p1, p2, p3, p4, p5, hp⟩ := six (MC.supB_length s.ps)
    rw [hp, aggB_lit] at SP
    have HP := Lib.hid hp
    clear hp
    go_wp2_with fail
    refine (SP.out _ B1.out).mono ?_
    rintro ev w2 ⟨rfl, hb⟩
    have R2 := Lib.hid (show Rmp w (.slice A1 n1 c1) (.slice A2 n2 c2) (.slice A3 n3 c3) (.slice A4 n4 c4) (MU.leftB s l 0) w2.heap.size (w2.alloc (.cells #[.int .i64 p0, .int .i64 p1, .int .i64 p2, .int .i64 p3, .int .i64 p4, .int .i64 p5] 40)) by
      rw [MU.leftB_zero, HP.out]
      have hb2 := hb.trans ((below_new w2 (.cells #[.int .i64 p0, .int .i64 p1, .int .i64 p2, .int .i64 p3, .int .i64 p4, .int .i64 p5] 40)).mono hb.size)
      have hl := N1.out.lt
      have hbs := hb.size
      exact ⟨T1.out.keep hb2, N1.out.keep hb2 N1.out.lt, BB.new _ _ _ _ _ _ _ _, by omega, B1.out.trans (hb2.mono B1.out.size)⟩)
    clear hb SP T1 N1 B1 x0 x1 x2 x3 HP
    go_wp2
    generalize w2.alloc (.cells #[.int .i64 p0, .int .i64 p1, .int .i64 p2, .int .i64 p3, .int .i64 p4, .int .i64 p5] 40) = W3 at *
    generalize w2.heap.size = Bl at *
    go_loopw [18] (fun i wr => ∃ k : Nat, k ≤ n ∧ i = .int .i64 k ∧ Hid (Rmp w (.slice A1 n1 c1) (.slice A2 n2 c2) (.slice A3 n3 c3) (.slice A4 n4 c4) (MU.leftB s l k) Bl wr)) (fun i _ => n - (intOf i).toNat)
    case atStart => exact ⟨0, Nat.zero_le _, rfl, R2⟩
    case round =>
      obtain ⟨k, hk, rfl, HF⟩ := hrel
      clear R2
      by_cases hlt : k < n
      · obtain ⟨ad, b0, b1, b2, b3, b4, b5, rfl, q1, hbk, y0, y1, y2, y3, y4, y5⟩ := bun_at (H'.out.keep HF.out.below) hlt
        obtain ⟨a0, a1, a2, a3, a4, a5, ha⟩ := six (show (MU.leftB s l k).length = 6 from rfl)
        obtain ⟨t0, t1, t2, t3, t4, t5, ht⟩ := six (show (MU.leftB s l (k + 1)).length = 6 from rfl)
        have hsub : subB [a0, a1, a2, a3, a4, a5] [b0, b1, b2, b3, b4, b5] = [t0, t1, t2, t3, t4, t5] := by rw [← ha, ← ht]; exact MU.leftB_step HS.out HBN.out (by omega) hlt q1
        have SA := Lib.hid (fun w' => sub_any a0 a1 a2 a3 a4 a5 b0 b1 b2 b3 b4 b5 w')
        rw [hsub, aggB_lit] at SA
        have HT := Lib.hid ht
        rw [ha] at HF
        have N1 := Lib.hid (BB.new wr 40 b0 b1 b2 b3 b4 b5)
        have F1 := Lib.hid (HF.out.keep (below_new wr (.cells #[.int .i64 b0, .int .i64 b1, .int .i64 b2, .int .i64 b3, .int .i64 b4, .int .i64 b5] 40)))
        clear q1 hbk ha ht hsub HF
        go_upto_region 7 with (fail)
        obtain ⟨X, hX⟩ : ∃ X, X = wr.alloc (.cells #[.int .i64 b0, .int .i64 b1, .int .i64 b2, .int .i64 b3, .int .i64 b4, .int .i64 b5] 40) := ⟨_, rfl⟩
        rw [← hX] at N1 F1 ⊢
        clear hX y0 y1 y2 y3 y4 y5
        obtain ⟨y0, y1, y2, y3, y4, y5⟩ := cells6 N1.out
        obtain ⟨c0', c1', c2', c3', c4', c5'⟩ := cells6 F1.out.le
        go_wp2_with fail
        refine (SA.out _).mono ?_
        rintro ev w6 ⟨rfl, hb⟩
        have F2 := Lib.hid (F1.out.keep hb)
        clear hb SA N1 F1 y0 y1 y2 y3 y4 y5 c0' c1' c2' c3' c4' c5'
        obtain ⟨c0', c1', c2', c3', c4', c5'⟩ := cells6 F2.out.le
        obtain ⟨g0, g1, g2, g3, g4, g5⟩ := free6 F2.out.le
        have hzz := F2.out.le.lt
        have F3 := Lib.hid (F2.out.set6 t0 t1 t2 t3 t4 t5)
        rw [← HT.out] at F3
        clear F2 HT
        go_wp2
        go_roundw
        case rel => exact ⟨k + 1, by omega, by go_num, F3⟩
        case measure => simp [intOf]; omega
      · obtain rfl : k = n := by omega
        have HEN := Lib.hid (show MU.leftB s l k = MU.remB s l by rw [← HL.out]; exact MU.leftB_end HE.out)
        rw [HEN.out] at HF
        obtain ⟨a0, a1, a2, a3, a4, a5, ha⟩ := six (show (MU.remB s l).length = 6 by rw [← HEN.out]; rfl)
        rw [ha] at HF
        have HA := Lib.hid ha
        clear ha HEN
        obtain ⟨c0', c1', c2', c3', c4', c5'⟩ := cells6 HF.out.le
        obtain ⟨r0, r1, r2, r3, r4, r5⟩ := cells6 HF.out.res
        obtain ⟨g0, g1, g2, g3, g4, g5⟩ := free6 HF.out.res
        have hzz := HF.out.res.lt
        have HRO := Lib.hid HF.out.res
        have HBl := Lib.hid HF.out.below
        clear HF
        go_wp2
        exact bodyPost_ret (rem_results _ rfl (HRO.out.six a0 a1 a2 a3 a4 a5)) rfl ⟨ret_agg (xs := [a0, a1, a2, a3, a4, a5]) HA.out.symm, below_six HBl.out _ (by omega) _ _ _ _ _ _⟩
  · have hne : (er != 0) = true := bne_iff_ne.2 h1
    have G := Lib.hid (show Ending.returned (aggB [0, 0, 0, 0, 0, 0]) = .returned (aggB (MU.remB s l)) by unfold MU.remB; rw [if_neg (by rw [HE.out]; exact h1)]; rfl)
    obtain ⟨r0, r1, r2, r3, r4, r5⟩ := cells6 N1.out
    obtain ⟨g0, g1, g2, g3, g4, g5⟩ := free6 N1.out
    have hzz := N1.out.lt
    clear SP
    go_wp2
    exact bodyPost_ret (rem_results _ rfl (N1.out.six 0 0 0 0 0 0)) rfl ⟨G.out, below_six B1.out _ (by omega) _ _ _ _ _ _⟩
end Go.Proofs.YtigfgeanofccgaaGreatDoor
