/- UPOpen, UPOpen2, UPOut, joined: no claim of its own. -/
import Derived.Test.YtigfgeanofccgaaGreatDoorJPc
import Derived.Test.YtigfgeanofccgaaGreatDoorJRk
import Derived.Test.YtigfgeanofccgaaGreatDoorJMu
import Derived.WalkMore
namespace Go.Proofs.YtigfgeanofccgaaGreatDoor
open Go.RowKit
open MU (Su Cp As)
/-- What lies while the program reckons the open units. -/
structure Opu (wo : World) (v1 v2 v3 v4 : Value) (o c : List Int) (wr : World) : Prop where
  box : TB wr wo.heap.size 27 v1 v2 v3 v4
  op : BB wr (wo.heap.size + 1) 40 o
  cl : BB wr (wo.heap.size + 1 + 1) 40 c
  below : Below wo.heap.size wo wr
section
variable {wo wr wr' : World} {v1 v2 v3 v4 : Value} {o c : List Int}
theorem Opu.keep (h : Opu wo v1 v2 v3 v4 o c wr) (hb : Below wr.heap.size wr wr') : Opu wo v1 v2 v3 v4 o c wr' :=
  ⟨h.box.keep hb, h.op.keep hb h.op.lt, h.cl.keep hb h.cl.lt, h.below.trans (hb.mono h.below.size)⟩
theorem Opu.setO (h : Opu wo v1 v2 v3 v4 o c wr) (k : Nat) (x : Int) : Opu wo v1 v2 v3 v4 (o.set k x) c (wr.setCell ⟨wo.heap.size + 1, k, none⟩ (.int .i64 x)) :=
  ⟨h.box.other _ (by omega), h.op.set k x, h.cl.other _ (by omega), h.below.setCell (p := ⟨wo.heap.size + 1, k, none⟩) (by show _ ≤ wo.heap.size + 1; omega) _⟩
theorem Opu.setC (h : Opu wo v1 v2 v3 v4 o c wr) (k : Nat) (x : Int) : Opu wo v1 v2 v3 v4 o (c.set k x) (wr.setCell ⟨wo.heap.size + 1 + 1, k, none⟩ (.int .i64 x)) :=
  ⟨h.box.other _ (by omega), h.op.other _ (by omega), h.cl.set k x, h.below.setCell (p := ⟨wo.heap.size + 1 + 1, k, none⟩) (by show _ ≤ wo.heap.size + 1 + 1; omega) _⟩
theorem opu_start (w : World) (v1 v2 v3 v4 : Value) : Opu w v1 v2 v3 v4 [0, 0, 0, 0, 0, 0] [0, 0, 0, 0, 0, 0]
    (((w.alloc (.cells #[v1, v2, v3, v4] 27)).alloc (.cells #[.int .i64 0, .int .i64 0, .int .i64 0, .int .i64 0, .int .i64 0, .int .i64 0] 40)).alloc (.cells #[.int .i64 0, .int .i64 0, .int .i64 0, .int .i64 0, .int .i64 0, .int .i64 0] 40)) := by
  have b : ∀ (X : World) (o : Obj), Below X.heap.size X (X.alloc o) := fun X o => below_new X o
  obtain ⟨O, hO⟩ : ∃ O : Obj, O = .cells #[.int .i64 0, .int .i64 0, .int .i64 0, .int .i64 0, .int .i64 0, .int .i64 0] 40 := ⟨_, rfl⟩
  have n : ∀ X : World, BB (X.alloc O) X.heap.size 40 [0, 0, 0, 0, 0, 0] := fun X => by rw [hO]; exact BB.new X _ _ _ _ _ _ _
  rw [← hO]
  have t0 := TB.new w 27 v1 v2 v3 v4
  have e0 : (w.alloc (.cells #[v1, v2, v3, v4] 27)).heap.size = w.heap.size + 1 := by simp
  have b0 := below_new w (.cells #[v1, v2, v3, v4] 27)
  generalize w.alloc (.cells #[v1, v2, v3, v4] 27) = X0 at *
  have n1 := n X0
  have n2 := n (X0.alloc O)
  simp only [World.size_alloc, e0] at n1 n2
  exact ⟨(t0.keep (b _ O)).keep (b _ O), n1.alloc O, n2, (b0.alloc b0.size O).alloc (by simp; omega) O⟩
end
theorem row_keep {w w' : World} {B : Nat} {o : Obj} (h : w.heap[B]? = some o) (hb : Below w.heap.size w w') : w'.heap[B]? = some o := (hb.block B (Array.getElem?_eq_some_iff.1 h).1).trans h
set_option maxHeartbeats 400000 in
theorem open_results2 {w : World} {R1 R2 : Nat} {z0 z1 z2 z3 z4 z5 y0 y1 y2 y3 y4 y5 : Int} (tmps : Array Value) (h2 : tmps.getD 2 undef = .pointer (some ⟨R1, 0, none⟩)) (h3 : tmps.getD 3 undef = .pointer (some ⟨R2, 0, none⟩))
    (b1 : BB w R1 40 [z0, z1, z2, z3, z4, z5]) (b2 : BB w R2 40 [y0, y1, y2, y3, y4, y5]) :
    (results Tryz.f35 tmps).run Tryz.prog w = .ok (.tuple #[.agg #[.int .i64 z0, .int .i64 z1, .int .i64 z2, .int .i64 z3, .int .i64 z4, .int .i64 z5], .agg #[.int .i64 y0, .int .i64 y1, .int .i64 y2, .int .i64 y3, .int .i64 y4, .int .i64 y5]]) w := by
  have h2' : tmps[2]?.getD undef = .pointer (some ⟨R1, 0, none⟩) := by simpa using h2
  have h3' : tmps[3]?.getD undef = .pointer (some ⟨R2, 0, none⟩) := by simpa using h3
  obtain ⟨r0, r1, r2, r3, r4, r5⟩ := cells6 b1
  obtain ⟨s0, s1, s2, s3, s4, s5⟩ := cells6 b2
  simp [results, Tryz.results35, h2', h3', go_sem, r0, r1, r2, r3, r4, r5, s0, s1, s2, s3, s4, s5]
set_option maxRecDepth 100000 in
set_option maxHeartbeats 8000000 in
theorem openUnits_any (A1 : Option Addr) (n1 c1 : Nat) (A2 : Option Addr) (n2 c2 : Nat) (A3 : Option Addr) (n3 c3 : Nat) (A4 : Option Addr) (n4 c4 : Nat) (s : Su) (w : World) (h : SuAt w A1 n1 c1 A2 n2 c2 A3 n3 c3 A4 n4 c4 s) (hs : MU.chkS s = 0) :
    Calls Tryz.prog 35 #[.agg #[.slice A1 n1 c1, .slice A2 n2 c2, .slice A3 n3 c3, .slice A4 n4 c4]] w (Gives (.tuple #[aggB (MU.openB s), aggB (MU.classB s)]) w) := by
  have hn1 := h.ps.few
  have hn4 := h.as_.few
  have hc1 := h.ps.cap
  have hc4 := h.as_.cap
  have HL1 := Lib.hid h.ps.len
  have HL4 := Lib.hid h.as_.len
  have H := Lib.hid h
  clear h
  have GS := Lib.hid (MU.chkS_good hs)
  have HE1 := Lib.hid (MU.openP_end hs)
  have HE2 := Lib.hid (MU.classP_end hs)
  have h6 : n1 ≤ 6 := by rw [← HL1.out]; exact (MC.chk_good GS.out.ps).few
  have O0 := Lib.hid (opu_start w (.slice A1 n1 c1) (.slice A2 n2 c2) (.slice A3 n3 c3) (.slice A4 n4 c4))
  rw [HL1.out] at HE1 HE2
  clear hs
  go_enter Tryz.func35, Tryz.ntmps35
  go_upto_region 1 with (fail)
  generalize ((w.alloc (.cells #[.slice A1 n1 c1, .slice A2 n2 c2, .slice A3 n3 c3, .slice A4 n4 c4] 27)).alloc (.cells #[.int .i64 0, .int .i64 0, .int .i64 0, .int .i64 0, .int .i64 0, .int .i64 0] 40)).alloc (.cells #[.int .i64 0, .int .i64 0, .int .i64 0, .int .i64 0, .int .i64 0, .int .i64 0] 40) = W0 at *
  obtain ⟨x0, x1, x2, x3⟩ := O0.out.box.cells
  go_wp2
  go_step3
  go_wp2
  go_step3
  go_wp2
  go_loopw [11] (fun i wr => ∃ k : Nat, k ≤ n1 ∧ i = .int .i64 k ∧ Hid (Opu w (.slice A1 n1 c1) (.slice A2 n2 c2) (.slice A3 n3 c3) (.slice A4 n4 c4) (MU.openP s k) (MU.classP s k) wr)) (fun i _ => n1 - (intOf i).toNat)
  case atStart => exact ⟨0, Nat.zero_le _, rfl, Lib.hid (by rw [MU.openP_zero, MU.classP_zero]; exact O0.out)⟩
  case round =>
    obtain ⟨k, hk, rfl, HO⟩ := hrel
    clear x0 x1 x2 x3 O0
    obtain ⟨x0, x1, x2, x3⟩ := HO.out.box.cells
    by_cases hlt : k < n1
    · obtain ⟨ad, p, rfl, q1, hbk, y0, y1, y2, y3, y4⟩ := (H.out.ps.keep HO.out.below).at_ hlt
      have HSU := Lib.hid (MC.supB_at (l := s.ps) (k := k) (by omega) q1)
      have O1 := Lib.hid (HO.out.keep (below_new wr (.cells #[.string (str p.name), .int .i64 p.supply, .int .i64 p.reserve, .int .i64 p.points, .int .i64 p.group] 60)))
      have K1 := Lib.hid (heap_new wr (.cells #[.string (str p.name), .int .i64 p.supply, .int .i64 p.reserve, .int .i64 p.points, .int .i64 p.group] 60))
      have hsup := ((MC.chk_good GS.out.ps).each k p q1).2.1
      clear q1 hbk HO
      obtain ⟨pn, ps, pr, pp, pg⟩ := p
      simp only at *
      generalize str pn = sn at *
      have hk6 : k < 6 := by omega
      have hk6' : (k : Int) < 6 := by omega
      go_upto_region 4 with (fail)
      obtain ⟨X, hX⟩ : ∃ X, X = wr.alloc (.cells #[.string sn, .int .i64 ps, .int .i64 pr, .int .i64 pp, .int .i64 pg] 60) := ⟨_, rfl⟩
      rw [← hX] at O1 K1 ⊢
      generalize hbp : wr.heap.size = bp at *
      clear hX hbp x0 x1 x2 x3 y0 y1 y2 y3 y4
      obtain ⟨x0, x1, x2, x3⟩ := O1.out.box.cells
      go_wp2
      go_loopw [19] (fun i wr' => ∃ j : Nat, j ≤ n4 ∧ i = .int .i64 j ∧ Hid (∀ (i : Nat) (a : As), i < j → s.as_[i]? = some a → a.product ≠ (k : Int)) ∧ Hid (wr'.heap[bp]? = some (.cells #[.string sn, .int .i64 ps, .int .i64 pr, .int .i64 pp, .int .i64 pg] 60 (0, 0))) ∧
        Hid (Opu w (.slice (some ad) n1 c1) (.slice A2 n2 c2) (.slice A3 n3 c3) (.slice A4 n4 c4) (MU.openP s k) (MU.classP s k) wr')) (fun i _ => n4 - (intOf i).toNat)
      case atStart => exact ⟨0, Nat.zero_le _, rfl, Lib.hid (fun i _ hi => absurd hi (Nat.not_lt_zero _)), K1, O1⟩
      case round =>
        obtain ⟨j, hj, rfl, HF, HK, HO⟩ := hrel
        clear x0 x1 x2 x3 O1 K1
        obtain ⟨x0, x1, x2, x3⟩ := HO.out.box.cells
        by_cases hjt : j < n4
        · obtain ⟨ad4, a, rfl, q1, hfi, hbk, y0, y1, y2⟩ := asd_at (H.out.as_.keep HO.out.below) hjt
          have O2 := Lib.hid (HO.out.keep (below_new wr (.cells #[.int .i64 a.product, .int .i64 a.cls, .int .i64 a.units] 68)))
          have K2 := Lib.hid (row_keep HK.out (below_new wr (.cells #[.int .i64 a.product, .int .i64 a.cls, .int .i64 a.units] 68)))
          have K3 := Lib.hid (heap_new wr (.cells #[.int .i64 a.product, .int .i64 a.cls, .int .i64 a.units] 68))
          have Q1 := Lib.hid q1
          have hlq := Lib.hid (Array.getElem?_eq_some_iff.1 HK.out).1
          have hl2 := Lib.hid HO.out.cl.lt
          have hgood := (GS.out.asides j a q1).2.2
          clear hfi hbk q1 HO HK
          by_cases hm : a.product = (k : Int)
          · have FO := Lib.hid (MU.found_open GS.out Q1.out hm)
            have hu : -100 ≤ a.units ∧ a.units ≤ 100 := by
              have h4 : MC.of (·.supply) s.ps a.product.toNat ≤ 4 := MU.sup_le (MC.chk_good GS.out.ps) (by rw [hm, HL1.out]; omega)
              omega
            obtain ⟨ap, ac, au⟩ := a
            simp only at *
            subst hm
            have HW := sub_wrap (x := ps) (u := au) (by omega) hu
            have EO := Lib.hid (show MU.openV s k s.as_.length = ps - au by unfold MU.openV; rw [FO.out, HSU.out])
            have EC := Lib.hid (show MU.classV s k s.as_.length = ac by unfold MU.classV; rw [FO.out])
            go_upto_region 7 with (fail)
            obtain ⟨Y, hY⟩ : ∃ Y, Y = wr.alloc (.cells #[.int .i64 (k : Int), .int .i64 ac, .int .i64 au] 68) := ⟨_, rfl⟩
            rw [← hY] at O2 K2 K3 ⊢
            clear hY x0 x1 x2 x3 y0 y1 y2
            have y0 : Y.cell? ⟨wr.heap.size, 0, none⟩ = some (.int .i64 (k : Int)) := by rw [cell_of_row _ _ _ _ _ _ K3.out]; rfl
            have y1 : Y.cell? ⟨wr.heap.size, 1, none⟩ = some (.int .i64 ac) := by rw [cell_of_row _ _ _ _ _ _ K3.out]; rfl
            have y2 : Y.cell? ⟨wr.heap.size, 2, none⟩ = some (.int .i64 au) := by rw [cell_of_row _ _ _ _ _ _ K3.out]; rfl
            have z1 : Y.cell? ⟨bp, 1, none⟩ = some (.int .i64 ps) := by rw [cell_of_row _ _ _ _ _ _ K2.out]; rfl
            have g1 := O2.out.op.cell hk6
            have g2 := O2.out.op.free k
            have g3 := O2.out.cl.cell hk6
            have g4 := O2.out.cl.free k
            have hz := O2.out.op.lt
            have hz2 := O2.out.cl.lt
            have O2b := O2.out.setO k (ps - au)
            have g5 := O2b.cl.cell hk6
            have g6 := O2b.cl.free k
            have y3 : (Y.setCell ⟨w.heap.size + 1, k, none⟩ (.int .i64 (ps - au))).cell? ⟨wr.heap.size, 1, none⟩ = some (.int .i64 ac) := by
              rw [cell_of_row _ _ _ _ _ _ (show (Y.setCell ⟨w.heap.size + 1, k, none⟩ (.int .i64 (ps - au))).heap[wr.heap.size]? = some (.cells #[.int .i64 (k : Int), .int .i64 ac, .int .i64 au] 68 (0, 0)) by
                rw [heap_setCell_other _ _ _ _ (by have := hl2.out; show wr.heap.size ≠ w.heap.size + 1; omega)]; exact K3.out)]
              rfl
            clear O2b
            have O3 := Lib.hid ((O2.out.setO k (ps - au)).setC k ac)
            rw [MU.openP_step hk6 EO.out, MU.classP_step hk6 EC.out] at O3
            clear HF O2 K2 K3 EO EC FO HW
            go_wp2
            go_region
            go_wp2
            go_roundw
            case rel => exact ⟨k + 1, by omega, by go_num, Lib.hid (by first | exact O3.out.keep (below_drawn _) | exact O3.out)⟩
            case measure => simp [intOf]; omega
          · have HF2 : Hid (∀ (i : Nat) (a : As), i < j + 1 → s.as_[i]? = some a → a.product ≠ (k : Int)) := Lib.hid (by
              intro i b hi hb
              by_cases hij : i = j
              · subst hij
                rw [Q1.out] at hb
                injection hb with hb
                subst hb
                exact hm
              · exact HF.out i b (by omega) hb)
            obtain ⟨ap, ac, au⟩ := a
            simp only at *
            have hmb : (ap == (k : Int)) = false := beq_eq_false_iff_ne.2 hm
            go_upto_region 7 with (fail)
            obtain ⟨Y, hY⟩ : ∃ Y, Y = wr.alloc (.cells #[.int .i64 ap, .int .i64 ac, .int .i64 au] 68) := ⟨_, rfl⟩
            rw [← hY] at O2 K2 K3 ⊢
            clear hY x0 x1 x2 x3 y0 y1 y2 hm HF
            have y0 : Y.cell? ⟨wr.heap.size, 0, none⟩ = some (.int .i64 ap) := by rw [cell_of_row _ _ _ _ _ _ K3.out]; rfl
            go_wp2
            go_roundw
            case rel => exact ⟨j + 1, by omega, by go_num, HF2, K2, O2⟩
            case measure => simp [intOf]; omega
        · obtain rfl : j = n4 := by omega
          have FO := Lib.hid (MU.missed_open (s := s) (k := k) (fun i a ha => HF.out i a (by rw [← HL4.out]; exact (List.getElem?_eq_some_iff.1 ha).1) ha))
          have EO := Lib.hid (show MU.openV s k s.as_.length = ps by unfold MU.openV; rw [FO.out, HSU.out])
          have EC := Lib.hid (MU.classP_skip (s := s) (k := k) hk6 (show MU.classV s k s.as_.length = 0 by unfold MU.classV; rw [FO.out]))
          have z1 : wr.cell? ⟨bp, 1, none⟩ = some (.int .i64 ps) := by rw [cell_of_row _ _ _ _ _ _ HK.out]; rfl
          have g1 := HO.out.op.cell hk6
          have g2 := HO.out.op.free k
          have hz := HO.out.op.lt
          have O3 := Lib.hid (HO.out.setO k ps)
          rw [MU.openP_step hk6 EO.out, EC.out] at O3
          clear HF HK HO FO EO EC
          go_wp2
          go_roundw
          case rel => exact ⟨k + 1, by omega, by go_num, O3⟩
          case measure => simp [intOf]; omega
    · obtain rfl : k = n1 := by omega
      rw [HE1.out, HE2.out] at HO
      obtain ⟨z0, z1, z2, z3, z4, z5, hz⟩ := six HO.out.op.2
      obtain ⟨y0, y1, y2, y3, y4, y5, hy⟩ := six HO.out.cl.2
      have O3 := HO.out
      rw [hz, hy] at O3
      have HZ := Lib.hid hz
      have HY := Lib.hid hy
      obtain ⟨r0, r1, r2, r3, r4, r5⟩ := cells6 O3.op
      obtain ⟨g0, g1, g2, g3, g4, g5⟩ := free6 O3.op
      obtain ⟨s0, s1, s2, s3, s4, s5⟩ := cells6 O3.cl
      obtain ⟨t0, t1, t2, t3, t4, t5⟩ := free6 O3.cl
      have l1 := O3.op.lt
      have l2 := O3.cl.lt
      have HBl := Lib.hid O3.below
      have HRO := Lib.hid O3.op
      have HRC := Lib.hid O3.cl
      clear hz hy O3 HO HE1 HE2
      go_wp2
      go_region
      go_wp2
      exact bodyPost_ret (open_results2 _ rfl rfl ((HRO.out.six z0 z1 z2 z3 z4 z5).six_other (by omega) y0 y1 y2 y3 y4 y5).drew ((HRC.out.six_other (by omega) z0 z1 z2 z3 z4 z5).six y0 y1 y2 y3 y4 y5).drew) rfl
        ⟨ret_two (xs := [z0, z1, z2, z3, z4, z5]) (ys := [y0, y1, y2, y3, y4, y5]) HZ.out.symm HY.out.symm, (below_six (below_six HBl.out _ (by omega) _ _ _ _ _ _) _ (by omega) _ _ _ _ _ _).drew⟩
end Go.Proofs.YtigfgeanofccgaaGreatDoor
namespace Go.Proofs.YtigfgeanofccgaaGreatDoor
open Go.RowKit
open MU (Su Cp As)
set_option maxHeartbeats 400000 in
theorem open_results3 {w : World} {R1 R2 : Nat} {z0 z1 z2 z3 z4 z5 y0 y1 y2 y3 y4 y5 : Int} (tmps : Array Value) (h2 : tmps.getD 2 undef = .pointer (some ⟨R1, 0, none⟩)) (h3 : tmps.getD 3 undef = .pointer (some ⟨R2, 0, none⟩))
    (b1 : BB w R1 40 [z0, z1, z2, z3, z4, z5]) (b2 : BB w R2 40 [y0, y1, y2, y3, y4, y5]) :
    (results Tryz.f15 tmps).run Tryz.prog w = .ok (.tuple #[.agg #[.int .i64 z0, .int .i64 z1, .int .i64 z2, .int .i64 z3, .int .i64 z4, .int .i64 z5], .agg #[.int .i64 y0, .int .i64 y1, .int .i64 y2, .int .i64 y3, .int .i64 y4, .int .i64 y5]]) w := by
  have h2' : tmps[2]?.getD undef = .pointer (some ⟨R1, 0, none⟩) := by simpa using h2
  have h3' : tmps[3]?.getD undef = .pointer (some ⟨R2, 0, none⟩) := by simpa using h3
  obtain ⟨r0, r1, r2, r3, r4, r5⟩ := cells6 b1
  obtain ⟨s0, s1, s2, s3, s4, s5⟩ := cells6 b2
  simp [results, Tryz.results15, h2', h3', go_sem, r0, r1, r2, r3, r4, r5, s0, s1, s2, s3, s4, s5]
set_option maxRecDepth 100000 in
set_option maxHeartbeats 4000000 in
theorem popen_any (A1 : Option Addr) (n1 c1 : Nat) (A2 : Option Addr) (n2 c2 : Nat) (A3 : Option Addr) (n3 c3 : Nat) (A4 : Option Addr) (n4 c4 : Nat) (s : Su) (w : World) (h : SuAt w A1 n1 c1 A2 n2 c2 A3 n3 c3 A4 n4 c4 s) :
    Calls Tryz.prog 15 #[.agg #[.slice A1 n1 c1, .slice A2 n2 c2, .slice A3 n3 c3, .slice A4 n4 c4]] w (Gives (.tuple #[aggB (MU.openB s), aggB (MU.classB s)]) w) := by
  have CK := Lib.hid (fun w' (hb : Below w.heap.size w w') => pcheck_any A1 n1 c1 A2 n2 c2 A3 n3 c3 A4 n4 c4 s w' (h.keep hb))
  have OU := Lib.hid (fun w' (hb : Below w.heap.size w w') hs => openUnits_any A1 n1 c1 A2 n2 c2 A3 n3 c3 A4 n4 c4 s w' (h.keep hb) hs)
  have O0 := Lib.hid (opu_start w (.slice A1 n1 c1) (.slice A2 n2 c2) (.slice A3 n3 c3) (.slice A4 n4 c4))
  clear h
  obtain ⟨o0, o1, o2, o3, o4, o5, ho⟩ := six (MU.openB_len s)
  obtain ⟨k0, k1, k2, k3, k4, k5, hk⟩ := six (MU.classB_len s)
  have HO := Lib.hid ho
  have HK := Lib.hid hk
  rw [ho, hk] at OU ⊢
  rw [aggB_lit, aggB_lit] at OU ⊢
  clear ho hk
  obtain ⟨er, her⟩ : ∃ er, MU.chkS s = er := ⟨_, rfl⟩
  have HE := Lib.hid her
  rw [her] at CK OU
  clear her
  go_enter Tryz.func15, Tryz.ntmps15
  go_upto_region 1 with (fail)
  generalize ((w.alloc (.cells #[.slice A1 n1 c1, .slice A2 n2 c2, .slice A3 n3 c3, .slice A4 n4 c4] 27)).alloc (.cells #[.int .i64 0, .int .i64 0, .int .i64 0, .int .i64 0, .int .i64 0, .int .i64 0] 40)).alloc (.cells #[.int .i64 0, .int .i64 0, .int .i64 0, .int .i64 0, .int .i64 0, .int .i64 0] 40) = W0 at *
  obtain ⟨x0, x1, x2, x3⟩ := O0.out.box.cells
  go_wp2_with fail
  refine (CK.out _ O0.out.below).mono ?_
  rintro ev w1 ⟨rfl, hb⟩
  have O1 := Lib.hid (O0.out.keep hb)
  clear hb CK O0 x0 x1 x2 x3
  by_cases h1 : er = 0
  · subst h1
    obtain ⟨x0, x1, x2, x3⟩ := O1.out.box.cells
    go_wp2_with fail
    refine (OU.out _ O1.out.below (by first | rfl | trivial)).mono ?_
    rintro ev w2 ⟨rfl, hb⟩
    have O2 := O1.out.keep hb
    obtain ⟨r0, r1, r2, r3, r4, r5⟩ := cells6 O2.op
    obtain ⟨g0, g1, g2, g3, g4, g5⟩ := free6 O2.op
    obtain ⟨s0, s1, s2, s3, s4, s5⟩ := cells6 O2.cl
    obtain ⟨t0, t1, t2, t3, t4, t5⟩ := free6 O2.cl
    have l1 := O2.op.lt
    have l2 := O2.cl.lt
    have HBl := Lib.hid O2.below
    have HRO := Lib.hid O2.op
    have HRC := Lib.hid O2.cl
    clear hb OU O1 O2 x0 x1 x2 x3
    go_wp2
    exact bodyPost_ret (open_results3 _ rfl rfl ((HRO.out.six o0 o1 o2 o3 o4 o5).six_other (by omega) k0 k1 k2 k3 k4 k5) ((HRC.out.six_other (by omega) o0 o1 o2 o3 o4 o5).six k0 k1 k2 k3 k4 k5)) rfl
      ⟨rfl, (below_six (below_six HBl.out _ (by omega) _ _ _ _ _ _) _ (by omega) _ _ _ _ _ _)⟩
  · have hne : (er != 0) = true := bne_iff_ne.2 h1
    have EO : Hid ([o0, o1, o2, o3, o4, o5] = [0, 0, 0, 0, 0, 0]) := Lib.hid (by rw [← HO.out]; unfold MU.openB; rw [if_neg (by rw [HE.out]; exact h1)]; rfl)
    have EC : Hid ([k0, k1, k2, k3, k4, k5] = [0, 0, 0, 0, 0, 0]) := Lib.hid (by rw [← HK.out]; unfold MU.classB; rw [if_neg (by rw [HE.out]; exact h1)]; rfl)
    have O2 := O1.out
    obtain ⟨r0, r1, r2, r3, r4, r5⟩ := cells6 O2.op
    obtain ⟨g0, g1, g2, g3, g4, g5⟩ := free6 O2.op
    obtain ⟨s0, s1, s2, s3, s4, s5⟩ := cells6 O2.cl
    obtain ⟨t0, t1, t2, t3, t4, t5⟩ := free6 O2.cl
    have l1 := O2.op.lt
    have l2 := O2.cl.lt
    have HBl := Lib.hid O2.below
    have HRO := Lib.hid O2.op
    have HRC := Lib.hid O2.cl
    clear OU O1 O2
    go_wp2
    exact bodyPost_ret (open_results3 _ rfl rfl ((HRO.out.six 0 0 0 0 0 0).six_other (by omega) 0 0 0 0 0 0) ((HRC.out.six_other (by omega) 0 0 0 0 0 0).six 0 0 0 0 0 0)) rfl
      ⟨ret_two (xs := [0, 0, 0, 0, 0, 0]) (ys := [0, 0, 0, 0, 0, 0]) EO.out.symm EC.out.symm, (below_six (below_six HBl.out _ (by omega) _ _ _ _ _ _) _ (by omega) _ _ _ _ _ _)⟩
end Go.Proofs.YtigfgeanofccgaaGreatDoor
namespace Go.Proofs.YtigfgeanofccgaaGreatDoor
open Go.RowKit
open MU (Su Cp As)
/-- What lies when k products are done. -/
structure Dno (F : Nat → Int) (wo : World) (c b : List Int) (wr : World) (k : Nat) (zs : List Int) : Prop where
  cl : BB wr wo.heap.size 40 c
  here : BB wr (wo.heap.size + 1) 40 zs
  res : BB wr (wo.heap.size + 1 + 1) 40 [0, 0, 0, 0, 0, 0]
  done : ∀ j, j < k → MB.at_ zs j = F j
  rest : ∀ j, k ≤ j → MB.at_ zs j = MB.at_ b j
  below : Below wo.heap.size wo wr
theorem Dno.put {F : Nat → Int} {wo wr : World} {c b zs : List Int} {k : Nat} (h : Dno F wo c b wr k zs) (hk : k < 6) (v : Int) (hv : F k = v) : Dno F wo c b (wr.setCell ⟨wo.heap.size + 1, k, none⟩ (.int .i64 v)) (k + 1) (zs.set k v) := by
  refine ⟨h.cl.other _ (by omega), h.here.set k v, h.res.other _ (by omega), fun j hj => ?_, fun j hj => ?_, h.below.setCell (p := ⟨wo.heap.size + 1, k, none⟩) (by show _ ≤ wo.heap.size + 1; omega) _⟩
  · rw [MC.at_set (by rw [h.here.2]; exact hk)]
    by_cases g : j = k
    · rw [if_pos g, g, hv]
    · rw [if_neg g, h.done j (by omega)]
  · rw [MC.at_set (by rw [h.here.2]; exact hk), if_neg (by omega), h.rest j (by omega)]
theorem Dno.skip {F : Nat → Int} {wo wr : World} {c b zs : List Int} {k : Nat} (h : Dno F wo c b wr k zs) (hv : F k = MB.at_ b k) : Dno F wo c b wr (k + 1) zs := by
  refine ⟨h.cl, h.here, h.res, fun j hj => ?_, fun j hj => h.rest j (by omega), h.below⟩
  by_cases g : j = k
  · rw [g, h.rest k (Nat.le_refl _), hv]
  · exact h.done j (by omega)
theorem dno_start (F : Nat → Int) (w : World) (a b c d e f a' b' c' d' e' f' : Int) :
    Dno F w [a, b, c, d, e, f] [a', b', c', d', e', f'] (((w.alloc (.cells #[.int .i64 a, .int .i64 b, .int .i64 c, .int .i64 d, .int .i64 e, .int .i64 f] 40)).alloc (.cells #[.int .i64 a', .int .i64 b', .int .i64 c', .int .i64 d', .int .i64 e', .int .i64 f'] 40)).alloc (.cells #[.int .i64 0, .int .i64 0, .int .i64 0, .int .i64 0, .int .i64 0, .int .i64 0] 40)) 0 [a', b', c', d', e', f'] :=
  ⟨(two_boxes w _ _ a b c d e f a' b' c' d' e' f').1.alloc _, (two_boxes w _ _ a b c d e f a' b' c' d' e' f').2.alloc _,
   by have := BB.new ((w.alloc (.cells #[.int .i64 a, .int .i64 b, .int .i64 c, .int .i64 d, .int .i64 e, .int .i64 f] 40)).alloc (.cells #[.int .i64 a', .int .i64 b', .int .i64 c', .int .i64 d', .int .i64 e', .int .i64 f'] 40)) 40 0 0 0 0 0 0; simpa using this,
   fun j hj => absurd hj (Nat.not_lt_zero _), fun _ _ => rfl, below_three _ _ _ _⟩
set_option maxRecDepth 100000 in
set_option maxHeartbeats 2000000 in
theorem outside_any (a b c d e f own a' b' c' d' e' f' : Int) (w : World) : Calls Tryz.prog 39 #[.agg #[.int .i64 a, .int .i64 b, .int .i64 c, .int .i64 d, .int .i64 e, .int .i64 f], .int .i64 own, .agg #[.int .i64 a', .int .i64 b', .int .i64 c', .int .i64 d', .int .i64 e', .int .i64 f']] w
    (Gives (aggB (MU.outB [a, b, c, d, e, f] own [a', b', c', d', e', f'])) w) := by
  obtain ⟨F, hF⟩ : ∃ F : Nat → Int, F = fun k => if MB.at_ [a, b, c, d, e, f] k = 0 ∨ MB.at_ [a, b, c, d, e, f] k = own then 0 else MB.at_ [a', b', c', d', e', f'] k := ⟨_, rfl⟩
  have HS := Lib.hid (dno_start F w a b c d e f a' b' c' d' e' f')
  have HR := Lib.hid (show MU.outB [a, b, c, d, e, f] own [a', b', c', d', e', f'] = mapB F by rw [hF]; rfl)
  obtain ⟨xs, hxs⟩ : ∃ xs, [a, b, c, d, e, f] = xs := ⟨_, rfl⟩
  obtain ⟨ys, hys⟩ : ∃ ys, [a', b', c', d', e', f'] = ys := ⟨_, rfl⟩
  rw [hxs, hys] at HS
  rw [hxs, hys] at hF
  rw [HR.out]
  clear HR hxs hys
  have HF := Lib.hid hF
  clear hF
  go_enter Tryz.func39, Tryz.ntmps39
  go_wp2
  obtain ⟨W, hW⟩ : ∃ W, W = ((w.alloc (.cells #[.int .i64 a, .int .i64 b, .int .i64 c, .int .i64 d, .int .i64 e, .int .i64 f] 40)).alloc (.cells #[.int .i64 a', .int .i64 b', .int .i64 c', .int .i64 d', .int .i64 e', .int .i64 f'] 40)).alloc (.cells #[.int .i64 0, .int .i64 0, .int .i64 0, .int .i64 0, .int .i64 0, .int .i64 0] 40) := ⟨_, rfl⟩
  rw [← hW] at HS ⊢
  clear hW
  go_loopw [8] (fun i wr => ∃ (k : Nat) (zs : List Int), k ≤ 6 ∧ i = .int .i64 k ∧ Hid (Dno F w xs ys wr k zs)) (fun i _ => 6 - (intOf i).toNat)
  case atStart => exact ⟨0, _, Nat.zero_le _, rfl, HS⟩
  case round =>
    obtain ⟨k, zs, hk, rfl, HD⟩ := hrel
    clear HS
    by_cases hlt : k < 6
    · have c1 := HD.out.cl.cell hlt
      have g1 := HD.out.here.free k
      have g2 := HD.out.here.cell hlt
      have hsz := HD.out.here.lt
      have hk' : (k : Int) < 6 := by omega
      have P1 := Lib.hid (fun (h : MB.at_ xs k = 0 ∨ MB.at_ xs k = own) => HD.out.put hlt 0 (by rw [HF.out]; exact if_pos h))
      have P2 := Lib.hid (fun (h : ¬ (MB.at_ xs k = 0 ∨ MB.at_ xs k = own)) => HD.out.skip (by rw [HF.out]; exact if_neg h))
      clear HD
      generalize MB.at_ xs k = ck at *
      by_cases h0 : ck = 0
      · have e0 : (ck == 0) = true := beq_iff_eq.2 h0
        have G := Lib.hid (P1.out (.inl h0))
        clear P1 P2 h0
        go_wp2
        go_roundw
        case rel => exact ⟨k + 1, _, by omega, by go_num, G⟩
        case measure => simp [intOf]; omega
      · have e0 : (ck == 0) = false := beq_eq_false_iff_ne.2 h0
        by_cases h1 : ck = own
        · have e1 : (ck == own) = true := beq_iff_eq.2 h1
          have G := Lib.hid (P1.out (.inr h1))
          clear P1 P2 h0 h1
          go_wp2
          go_roundw
          case rel => exact ⟨k + 1, _, by omega, by go_num, G⟩
          case measure => simp [intOf]; omega
        · have e1 : (ck == own) = false := beq_eq_false_iff_ne.2 h1
          have G := Lib.hid (P2.out (by rintro (g | g); exact h0 g; exact h1 g))
          clear P1 P2 h0 h1
          go_wp2
          go_roundw
          case rel => exact ⟨k + 1, _, by omega, by go_num, G⟩
          case measure => simp [intOf]; omega
    · obtain rfl : k = 6 := by omega
      have HE := Lib.hid (mapB_ext _ HD.out.here.2 HD.out.done)
      obtain ⟨z0, z1, z2, z3, z4, z5, hz⟩ := six HD.out.here.2
      have hh := HD.out.here
      rw [hz] at hh
      rw [hz] at HE
      obtain ⟨c0, c1, c2, c3, c4, c5⟩ := cells6 hh
      obtain ⟨r0, r1, r2, r3, r4, r5⟩ := cells6 HD.out.res
      obtain ⟨g0, g1, g2, g3, g4, g5⟩ := free6 HD.out.res
      have hsz := HD.out.res.lt
      have HBl := Lib.hid HD.out.below
      clear hz hh HD
      go_wp2
      refine bodyPost_ret (v := .agg #[.int .i64 z0, .int .i64 z1, .int .i64 z2, .int .i64 z3, .int .i64 z4, .int .i64 z5]) (by simp [results, Tryz.results39, go_sem, r0, r1, r2, r3, r4, r5]) rfl ⟨ret_agg (xs := [z0, z1, z2, z3, z4, z5]) HE.out, ?_⟩
      exact below_six HBl.out _ (by omega) _ _ _ _ _ _
end Go.Proofs.YtigfgeanofccgaaGreatDoor
