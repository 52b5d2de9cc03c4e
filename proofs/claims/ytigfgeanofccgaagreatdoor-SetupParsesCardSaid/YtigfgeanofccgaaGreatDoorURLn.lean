/- The reference's line: no claim of its own. -/
import Derived.Test.YtigfgeanofccgaaGreatDoorURLn0
namespace Go.Proofs.YtigfgeanofccgaaGreatDoor
open Go.RowKit
open MU (Su Cp As)

theorem LnS.words0 {w0 w w1 : World} {B : Nat} {s : Su} {v1 v2 v3 v4 vw : Value} {ws : List (List UInt8)} (h : LnS w0 w B s v1 v2 v3 v4 vw ws) (hg : w.grownBy w1 v1.ownBlock) : OwnL strE 9 w1 0 vw ws := h.wd.turn hg (h.wd.apart h.os.p.low0 (by decide))
theorem LnS.nums0 {w0 w w1 : World} {B : Nat} {s : Su} {v1 v2 v3 v4 vw vn : Value} {ws : List (List UInt8)} {ds : List Int} (h : LnS w0 w B s v1 v2 v3 v4 vw ws) (hn : OwnL intE 2 w 0 vn ds) (hg : w.grownBy w1 v1.ownBlock) : OwnL intE 2 w1 0 vn ds := hn.turn hg (hn.apart h.os.p.low0 (by decide))
theorem LnS.words1 {w0 w w1 : World} {B : Nat} {s : Su} {v1 v2 v3 v4 vw : Value} {ws : List (List UInt8)} (h : LnS w0 w B s v1 v2 v3 v4 vw ws) (hg : w.grownBy w1 v2.ownBlock) : OwnL strE 9 w1 0 vw ws := h.wd.turn hg (h.wd.apart h.os.b.low0 (by decide))
theorem LnS.nums1 {w0 w w1 : World} {B : Nat} {s : Su} {v1 v2 v3 v4 vw vn : Value} {ws : List (List UInt8)} {ds : List Int} (h : LnS w0 w B s v1 v2 v3 v4 vw ws) (hn : OwnL intE 2 w 0 vn ds) (hg : w.grownBy w1 v2.ownBlock) : OwnL intE 2 w1 0 vn ds := hn.turn hg (hn.apart h.os.b.low0 (by decide))
theorem LnS.words2 {w0 w w1 : World} {B : Nat} {s : Su} {v1 v2 v3 v4 vw : Value} {ws : List (List UInt8)} (h : LnS w0 w B s v1 v2 v3 v4 vw ws) (hg : w.grownBy w1 v3.ownBlock) : OwnL strE 9 w1 0 vw ws := h.wd.turn hg (h.wd.apart h.os.c.low0 (by decide))
theorem LnS.nums2 {w0 w w1 : World} {B : Nat} {s : Su} {v1 v2 v3 v4 vw vn : Value} {ws : List (List UInt8)} {ds : List Int} (h : LnS w0 w B s v1 v2 v3 v4 vw ws) (hn : OwnL intE 2 w 0 vn ds) (hg : w.grownBy w1 v3.ownBlock) : OwnL intE 2 w1 0 vn ds := hn.turn hg (hn.apart h.os.c.low0 (by decide))
theorem LnS.words3 {w0 w w1 : World} {B : Nat} {s : Su} {v1 v2 v3 v4 vw : Value} {ws : List (List UInt8)} (h : LnS w0 w B s v1 v2 v3 v4 vw ws) (hg : w.grownBy w1 v4.ownBlock) : OwnL strE 9 w1 0 vw ws := h.wd.turn hg (h.wd.apart h.os.a.low0 (by decide))
theorem LnS.nums3 {w0 w w1 : World} {B : Nat} {s : Su} {v1 v2 v3 v4 vw vn : Value} {ws : List (List UInt8)} {ds : List Int} (h : LnS w0 w B s v1 v2 v3 v4 vw ws) (hn : OwnL intE 2 w 0 vn ds) (hg : w.grownBy w1 v4.ownBlock) : OwnL intE 2 w1 0 vn ds := hn.turn hg (hn.apart h.os.a.low0 (by decide))
theorem LnS.new {w : World} {B : Nat} {s : Su} {v1 v2 v3 v4 vw : Value} {ws : List (List UInt8)} (h : OS w B s v1 v2 v3 v4) (hw : OwnL strE 9 w 0 vw ws) (hB : B ≤ w.heap.size) :
    LnS w ((w.alloc (.cells #[v1, v2, v3, v4] 27)).alloc (.cells #[.slice none 0 0, .slice none 0 0, .slice none 0 0, .slice none 0 0] 27)) B s v1 v2 v3 v4 vw ws := by
  have b1 := below_new w (.cells #[v1, v2, v3, v4] 27)
  have b2 := below_new (w.alloc (.cells #[v1, v2, v3, v4] 27)) (.cells #[.slice none 0 0, .slice none 0 0, .slice none 0 0, .slice none 0 0] 27)
  have hz : (w.alloc (.cells #[v1, v2, v3, v4] 27)).heap.size = w.heap.size + 1 := by simp
  have r2 := TB.new (w.alloc (.cells #[v1, v2, v3, v4] 27)) 27 (.slice none 0 0) (.slice none 0 0) (.slice none 0 0) (.slice none 0 0)
  rw [hz] at r2
  have b12 := b1.trans (b2.mono (by omega))
  exact ⟨(h.keep b1).keep b2, (TB.new w _ v1 v2 v3 v4).keep b2, r2, (hw.keep b1).keep b2, FarS.below b12, b12.mono hB⟩

set_option maxRecDepth 100000 in
set_option maxHeartbeats 4000000 in
theorem rline_no (B : Nat) (s : Su) (A1 A2 A3 A4 : Option Addr) (c1 c2 c3 c4 : Nat) (vw : Value) (x : List UInt8) (r : List (List UInt8)) (w : World) (h : OS w B s (.slice A1 s.ps.length c1) (.slice A2 s.bs.length c2) (.slice A3 s.cs.length c3) (.slice A4 s.as_.length c4)) (hB : B ≤ w.heap.size) (hw : OwnL strE 9 w 0 vw (x :: r)) (_hn5 : r.length ≤ 5000) (h1 : x ≠ MU.wProduct) (h2 : x ≠ MU.wBidder) (h3 : x ≠ MU.wCap) (h4 : x ≠ MU.wAside) : Calls Tryz.prog 32 #[.agg #[.slice A1 s.ps.length c1, .slice A2 s.bs.length c2, .slice A3 s.cs.length c3, .slice A4 s.as_.length c4], vw] w (GivesLn (MU.lineE s (x :: r)) B w) := by
  obtain ⟨gw, cw, rfl, hcw, hgw, hxl⟩ := hw.str_open
  have L0 := Lib.hid (LnS.new h hw hB)
  obtain ⟨q1, q2, q3, q4⟩ := kw_no h1 h2 h3 h4
  have E : Hid (MU.lineE s (x :: r) = (s, 22)) := Lib.hid (by
    unfold MU.lineE
    rw [if_neg (show ¬ MU.at0 (x :: r) 0 = _ from h1), if_neg (show ¬ MU.at0 (x :: r) 0 = _ from h2), if_neg (show ¬ MU.at0 (x :: r) 0 = _ from h3), if_neg (show ¬ MU.at0 (x :: r) 0 = _ from h4)])
  clear h1 h2 h3 h4
  go_enter Tryz.func32, Tryz.ntmps32
  go_upto_region 2 with (fail)
  obtain ⟨W, hW⟩ : ∃ W, W = ((w.alloc (.cells #[.slice A1 s.ps.length c1, .slice A2 s.bs.length c2, .slice A3 s.cs.length c3, .slice A4 s.as_.length c4] 27)).alloc (.cells #[.slice none 0 0, .slice none 0 0, .slice none 0 0, .slice none 0 0] 27)) := ⟨_, rfl⟩
  rw [← hW] at L0 ⊢
  clear hW h hw
  obtain ⟨t0, t1, t2, t3⟩ := L0.out.bx.cells
  obtain ⟨b0, b1, b2, b3⟩ := L0.out.rs.cells
  obtain ⟨f0, f1, f2, f3⟩ := L0.out.rs.free
  have hzb := L0.out.bx.lt
  have hzr := L0.out.rs.lt
  have y0 := L0.out.wd.str_cell 0 x rfl
  generalize str x = q at *
  have R := Lib.hid (L0.out.fin hB E.out)
  have R5 := Lib.hid (L0.out.rs.put4 (.slice A1 s.ps.length c1) (.slice A2 s.bs.length c2) (.slice A3 s.cs.length c3) (.slice A4 s.as_.length c4))
  clear L0
  go_wp2
  obtain ⟨W5, hW5⟩ : ∃ W5, W5 = ((((W.setCell ⟨w.heap.size + 1, 0, none⟩ (.slice A1 s.ps.length c1)).setCell ⟨w.heap.size + 1, 1, none⟩ (.slice A2 s.bs.length c2)).setCell ⟨w.heap.size + 1, 2, none⟩ (.slice A3 s.cs.length c3)).setCell ⟨w.heap.size + 1, 3, none⟩ (.slice A4 s.as_.length c4)) := ⟨_, rfl⟩
  rw [← hW5] at R R5 ⊢
  clear t0 t1 t2 t3 b0 b1 b2 b3 f0 f1 f2 f3 hW5
  obtain ⟨b0, b1, b2, b3⟩ := R5.out.cells
  refine bodyPost_ret (v := .tuple #[.agg #[.slice A1 s.ps.length c1, .slice A2 s.bs.length c2, .slice A3 s.cs.length c3, .slice A4 s.as_.length c4], .int .i64 22]) (by simp [results, Tryz.results32, go_sem, b0, b1, b2, b3]) rfl ?_
  exact R.out

set_option maxRecDepth 100000 in
set_option maxHeartbeats 4000000 in
theorem rline_long_p (B : Nat) (s : Su) (A1 A2 A3 A4 : Option Addr) (c1 c2 c3 c4 : Nat) (vw : Value) (x : List UInt8) (r : List (List UInt8)) (w : World) (h : OS w B s (.slice A1 s.ps.length c1) (.slice A2 s.bs.length c2) (.slice A3 s.cs.length c3) (.slice A4 s.as_.length c4)) (hB : B ≤ w.heap.size) (hw : OwnL strE 9 w 0 vw (x :: r)) (_hn5 : r.length ≤ 5000) (h1 : x = MU.wProduct) (h2 : r.length ≠ 5) : Calls Tryz.prog 32 #[.agg #[.slice A1 s.ps.length c1, .slice A2 s.bs.length c2, .slice A3 s.cs.length c3, .slice A4 s.as_.length c4], vw] w (GivesLn (MU.lineE s (x :: r)) B w) := by
  obtain ⟨gw, cw, rfl, hcw, hgw, hxl⟩ := hw.str_open
  have L0 := Lib.hid (LnS.new h hw hB)
  obtain ⟨q1, q2, q3, q4⟩ := kw_p h1
  have E : Hid (MU.lineE s (x :: r) = (s, 2)) := Lib.hid (by
    unfold MU.lineE
    rw [show MU.at0 (x :: r) 0 = MU.wProduct from h1, if_pos rfl, if_pos (by rw [List.length_cons]; omega)])
  have e2 : (((r.length : Int) + 1) != 6) = true := bne_iff_ne.2 (by omega)
  have e3 : (((r.length + 1 : Nat) : Int) != 6) = true := bne_iff_ne.2 (by omega)
  clear h1 h2
  go_enter Tryz.func32, Tryz.ntmps32
  go_upto_region 2 with (fail)
  obtain ⟨W, hW⟩ : ∃ W, W = ((w.alloc (.cells #[.slice A1 s.ps.length c1, .slice A2 s.bs.length c2, .slice A3 s.cs.length c3, .slice A4 s.as_.length c4] 27)).alloc (.cells #[.slice none 0 0, .slice none 0 0, .slice none 0 0, .slice none 0 0] 27)) := ⟨_, rfl⟩
  rw [← hW] at L0 ⊢
  clear hW h hw
  obtain ⟨t0, t1, t2, t3⟩ := L0.out.bx.cells
  obtain ⟨b0, b1, b2, b3⟩ := L0.out.rs.cells
  obtain ⟨f0, f1, f2, f3⟩ := L0.out.rs.free
  have hzb := L0.out.bx.lt
  have hzr := L0.out.rs.lt
  have y0 := L0.out.wd.str_cell 0 x rfl
  generalize str x = q at *
  have R := Lib.hid (L0.out.fin hB E.out)
  have R5 := Lib.hid (L0.out.rs.put4 (.slice A1 s.ps.length c1) (.slice A2 s.bs.length c2) (.slice A3 s.cs.length c3) (.slice A4 s.as_.length c4))
  clear L0
  go_wp2
  obtain ⟨W5, hW5⟩ : ∃ W5, W5 = ((((W.setCell ⟨w.heap.size + 1, 0, none⟩ (.slice A1 s.ps.length c1)).setCell ⟨w.heap.size + 1, 1, none⟩ (.slice A2 s.bs.length c2)).setCell ⟨w.heap.size + 1, 2, none⟩ (.slice A3 s.cs.length c3)).setCell ⟨w.heap.size + 1, 3, none⟩ (.slice A4 s.as_.length c4)) := ⟨_, rfl⟩
  rw [← hW5] at R R5 ⊢
  clear t0 t1 t2 t3 b0 b1 b2 b3 f0 f1 f2 f3 hW5
  obtain ⟨b0, b1, b2, b3⟩ := R5.out.cells
  refine bodyPost_ret (v := .tuple #[.agg #[.slice A1 s.ps.length c1, .slice A2 s.bs.length c2, .slice A3 s.cs.length c3, .slice A4 s.as_.length c4], .int .i64 2]) (by simp [results, Tryz.results32, go_sem, b0, b1, b2, b3]) rfl ?_
  exact R.out

set_option maxRecDepth 100000 in
set_option maxHeartbeats 4000000 in
theorem rline_long_b (B : Nat) (s : Su) (A1 A2 A3 A4 : Option Addr) (c1 c2 c3 c4 : Nat) (vw : Value) (x : List UInt8) (r : List (List UInt8)) (w : World) (h : OS w B s (.slice A1 s.ps.length c1) (.slice A2 s.bs.length c2) (.slice A3 s.cs.length c3) (.slice A4 s.as_.length c4)) (hB : B ≤ w.heap.size) (hw : OwnL strE 9 w 0 vw (x :: r)) (_hn5 : r.length ≤ 5000) (h1 : x = MU.wBidder) (h2 : r.length ≠ 4) : Calls Tryz.prog 32 #[.agg #[.slice A1 s.ps.length c1, .slice A2 s.bs.length c2, .slice A3 s.cs.length c3, .slice A4 s.as_.length c4], vw] w (GivesLn (MU.lineE s (x :: r)) B w) := by
  obtain ⟨gw, cw, rfl, hcw, hgw, hxl⟩ := hw.str_open
  have L0 := Lib.hid (LnS.new h hw hB)
  obtain ⟨q1, q2, q3, q4⟩ := kw_b h1
  have E : Hid (MU.lineE s (x :: r) = (s, 2)) := Lib.hid (by
    unfold MU.lineE
    rw [show MU.at0 (x :: r) 0 = MU.wBidder from h1, if_neg (show ¬ MU.wBidder = MU.wProduct by decide), if_pos rfl, if_pos (by rw [List.length_cons]; omega)])
  have e2 : (((r.length : Int) + 1) != 5) = true := bne_iff_ne.2 (by omega)
  have e3 : (((r.length + 1 : Nat) : Int) != 5) = true := bne_iff_ne.2 (by omega)
  clear h1 h2
  go_enter Tryz.func32, Tryz.ntmps32
  go_upto_region 2 with (fail)
  obtain ⟨W, hW⟩ : ∃ W, W = ((w.alloc (.cells #[.slice A1 s.ps.length c1, .slice A2 s.bs.length c2, .slice A3 s.cs.length c3, .slice A4 s.as_.length c4] 27)).alloc (.cells #[.slice none 0 0, .slice none 0 0, .slice none 0 0, .slice none 0 0] 27)) := ⟨_, rfl⟩
  rw [← hW] at L0 ⊢
  clear hW h hw
  obtain ⟨t0, t1, t2, t3⟩ := L0.out.bx.cells
  obtain ⟨b0, b1, b2, b3⟩ := L0.out.rs.cells
  obtain ⟨f0, f1, f2, f3⟩ := L0.out.rs.free
  have hzb := L0.out.bx.lt
  have hzr := L0.out.rs.lt
  have y0 := L0.out.wd.str_cell 0 x rfl
  generalize str x = q at *
  have R := Lib.hid (L0.out.fin hB E.out)
  have R5 := Lib.hid (L0.out.rs.put4 (.slice A1 s.ps.length c1) (.slice A2 s.bs.length c2) (.slice A3 s.cs.length c3) (.slice A4 s.as_.length c4))
  clear L0
  go_wp2
  obtain ⟨W5, hW5⟩ : ∃ W5, W5 = ((((W.setCell ⟨w.heap.size + 1, 0, none⟩ (.slice A1 s.ps.length c1)).setCell ⟨w.heap.size + 1, 1, none⟩ (.slice A2 s.bs.length c2)).setCell ⟨w.heap.size + 1, 2, none⟩ (.slice A3 s.cs.length c3)).setCell ⟨w.heap.size + 1, 3, none⟩ (.slice A4 s.as_.length c4)) := ⟨_, rfl⟩
  rw [← hW5] at R R5 ⊢
  clear t0 t1 t2 t3 b0 b1 b2 b3 f0 f1 f2 f3 hW5
  obtain ⟨b0, b1, b2, b3⟩ := R5.out.cells
  refine bodyPost_ret (v := .tuple #[.agg #[.slice A1 s.ps.length c1, .slice A2 s.bs.length c2, .slice A3 s.cs.length c3, .slice A4 s.as_.length c4], .int .i64 2]) (by simp [results, Tryz.results32, go_sem, b0, b1, b2, b3]) rfl ?_
  exact R.out

set_option maxRecDepth 100000 in
set_option maxHeartbeats 4000000 in
theorem rline_long_c (B : Nat) (s : Su) (A1 A2 A3 A4 : Option Addr) (c1 c2 c3 c4 : Nat) (vw : Value) (x : List UInt8) (r : List (List UInt8)) (w : World) (h : OS w B s (.slice A1 s.ps.length c1) (.slice A2 s.bs.length c2) (.slice A3 s.cs.length c3) (.slice A4 s.as_.length c4)) (hB : B ≤ w.heap.size) (hw : OwnL strE 9 w 0 vw (x :: r)) (_hn5 : r.length ≤ 5000) (h1 : x = MU.wCap) (h2 : r.length ≠ 3) : Calls Tryz.prog 32 #[.agg #[.slice A1 s.ps.length c1, .slice A2 s.bs.length c2, .slice A3 s.cs.length c3, .slice A4 s.as_.length c4], vw] w (GivesLn (MU.lineE s (x :: r)) B w) := by
  obtain ⟨gw, cw, rfl, hcw, hgw, hxl⟩ := hw.str_open
  have L0 := Lib.hid (LnS.new h hw hB)
  obtain ⟨q1, q2, q3, q4⟩ := kw_c h1
  have E : Hid (MU.lineE s (x :: r) = (s, 2)) := Lib.hid (by
    unfold MU.lineE
    rw [show MU.at0 (x :: r) 0 = MU.wCap from h1, if_neg (show ¬ MU.wCap = MU.wProduct by decide), if_neg (show ¬ MU.wCap = MU.wBidder by decide), if_pos rfl, if_pos (by rw [List.length_cons]; omega)])
  have e2 : (((r.length : Int) + 1) != 4) = true := bne_iff_ne.2 (by omega)
  have e3 : (((r.length + 1 : Nat) : Int) != 4) = true := bne_iff_ne.2 (by omega)
  clear h1 h2
  go_enter Tryz.func32, Tryz.ntmps32
  go_upto_region 2 with (fail)
  obtain ⟨W, hW⟩ : ∃ W, W = ((w.alloc (.cells #[.slice A1 s.ps.length c1, .slice A2 s.bs.length c2, .slice A3 s.cs.length c3, .slice A4 s.as_.length c4] 27)).alloc (.cells #[.slice none 0 0, .slice none 0 0, .slice none 0 0, .slice none 0 0] 27)) := ⟨_, rfl⟩
  rw [← hW] at L0 ⊢
  clear hW h hw
  obtain ⟨t0, t1, t2, t3⟩ := L0.out.bx.cells
  obtain ⟨b0, b1, b2, b3⟩ := L0.out.rs.cells
  obtain ⟨f0, f1, f2, f3⟩ := L0.out.rs.free
  have hzb := L0.out.bx.lt
  have hzr := L0.out.rs.lt
  have y0 := L0.out.wd.str_cell 0 x rfl
  generalize str x = q at *
  have R := Lib.hid (L0.out.fin hB E.out)
  have R5 := Lib.hid (L0.out.rs.put4 (.slice A1 s.ps.length c1) (.slice A2 s.bs.length c2) (.slice A3 s.cs.length c3) (.slice A4 s.as_.length c4))
  clear L0
  go_wp2
  obtain ⟨W5, hW5⟩ : ∃ W5, W5 = ((((W.setCell ⟨w.heap.size + 1, 0, none⟩ (.slice A1 s.ps.length c1)).setCell ⟨w.heap.size + 1, 1, none⟩ (.slice A2 s.bs.length c2)).setCell ⟨w.heap.size + 1, 2, none⟩ (.slice A3 s.cs.length c3)).setCell ⟨w.heap.size + 1, 3, none⟩ (.slice A4 s.as_.length c4)) := ⟨_, rfl⟩
  rw [← hW5] at R R5 ⊢
  clear t0 t1 t2 t3 b0 b1 b2 b3 f0 f1 f2 f3 hW5
  obtain ⟨b0, b1, b2, b3⟩ := R5.out.cells
  refine bodyPost_ret (v := .tuple #[.agg #[.slice A1 s.ps.length c1, .slice A2 s.bs.length c2, .slice A3 s.cs.length c3, .slice A4 s.as_.length c4], .int .i64 2]) (by simp [results, Tryz.results32, go_sem, b0, b1, b2, b3]) rfl ?_
  exact R.out

set_option maxRecDepth 100000 in
set_option maxHeartbeats 4000000 in
theorem rline_long_a (B : Nat) (s : Su) (A1 A2 A3 A4 : Option Addr) (c1 c2 c3 c4 : Nat) (vw : Value) (x : List UInt8) (r : List (List UInt8)) (w : World) (h : OS w B s (.slice A1 s.ps.length c1) (.slice A2 s.bs.length c2) (.slice A3 s.cs.length c3) (.slice A4 s.as_.length c4)) (hB : B ≤ w.heap.size) (hw : OwnL strE 9 w 0 vw (x :: r)) (_hn5 : r.length ≤ 5000) (h1 : x = MU.wAside) (h2 : r.length ≠ 3) : Calls Tryz.prog 32 #[.agg #[.slice A1 s.ps.length c1, .slice A2 s.bs.length c2, .slice A3 s.cs.length c3, .slice A4 s.as_.length c4], vw] w (GivesLn (MU.lineE s (x :: r)) B w) := by
  obtain ⟨gw, cw, rfl, hcw, hgw, hxl⟩ := hw.str_open
  have L0 := Lib.hid (LnS.new h hw hB)
  obtain ⟨q1, q2, q3, q4⟩ := kw_a h1
  have E : Hid (MU.lineE s (x :: r) = (s, 2)) := Lib.hid (by
    unfold MU.lineE
    rw [show MU.at0 (x :: r) 0 = MU.wAside from h1, if_neg (show ¬ MU.wAside = MU.wProduct by decide), if_neg (show ¬ MU.wAside = MU.wBidder by decide), if_neg (show ¬ MU.wAside = MU.wCap by decide), if_pos rfl, if_pos (by rw [List.length_cons]; omega)])
  have e2 : (((r.length : Int) + 1) != 4) = true := bne_iff_ne.2 (by omega)
  have e3 : (((r.length + 1 : Nat) : Int) != 4) = true := bne_iff_ne.2 (by omega)
  clear h1 h2
  go_enter Tryz.func32, Tryz.ntmps32
  go_upto_region 2 with (fail)
  obtain ⟨W, hW⟩ : ∃ W, W = ((w.alloc (.cells #[.slice A1 s.ps.length c1, .slice A2 s.bs.length c2, .slice A3 s.cs.length c3, .slice A4 s.as_.length c4] 27)).alloc (.cells #[.slice none 0 0, .slice none 0 0, .slice none 0 0, .slice none 0 0] 27)) := ⟨_, rfl⟩
  rw [← hW] at L0 ⊢
  clear hW h hw
  obtain ⟨t0, t1, t2, t3⟩ := L0.out.bx.cells
  obtain ⟨b0, b1, b2, b3⟩ := L0.out.rs.cells
  obtain ⟨f0, f1, f2, f3⟩ := L0.out.rs.free
  have hzb := L0.out.bx.lt
  have hzr := L0.out.rs.lt
  have y0 := L0.out.wd.str_cell 0 x rfl
  generalize str x = q at *
  have R := Lib.hid (L0.out.fin hB E.out)
  have R5 := Lib.hid (L0.out.rs.put4 (.slice A1 s.ps.length c1) (.slice A2 s.bs.length c2) (.slice A3 s.cs.length c3) (.slice A4 s.as_.length c4))
  clear L0
  go_wp2
  obtain ⟨W5, hW5⟩ : ∃ W5, W5 = ((((W.setCell ⟨w.heap.size + 1, 0, none⟩ (.slice A1 s.ps.length c1)).setCell ⟨w.heap.size + 1, 1, none⟩ (.slice A2 s.bs.length c2)).setCell ⟨w.heap.size + 1, 2, none⟩ (.slice A3 s.cs.length c3)).setCell ⟨w.heap.size + 1, 3, none⟩ (.slice A4 s.as_.length c4)) := ⟨_, rfl⟩
  rw [← hW5] at R R5 ⊢
  clear t0 t1 t2 t3 b0 b1 b2 b3 f0 f1 f2 f3 hW5
  obtain ⟨b0, b1, b2, b3⟩ := R5.out.cells
  refine bodyPost_ret (v := .tuple #[.agg #[.slice A1 s.ps.length c1, .slice A2 s.bs.length c2, .slice A3 s.cs.length c3, .slice A4 s.as_.length c4], .int .i64 2]) (by simp [results, Tryz.results32, go_sem, b0, b1, b2, b3]) rfl ?_
  exact R.out

set_option maxRecDepth 100000 in
set_option maxHeartbeats 16000000 in
theorem rline_p (B : Nat) (s : Su) (A1 A2 A3 A4 : Option Addr) (c1 c2 c3 c4 : Nat) (vw : Value) (x : List UInt8) (r : List (List UInt8)) (w : World) (h : OS w B s (.slice A1 s.ps.length c1) (.slice A2 s.bs.length c2) (.slice A3 s.cs.length c3) (.slice A4 s.as_.length c4)) (hB : B ≤ w.heap.size) (hw : OwnL strE 9 w 0 vw (x :: r)) (hn5 : r.length ≤ 5000) (h1 : x = MU.wProduct) (h2 : r.length = 5) (hrow : s.ps.length ≤ 5000) : Calls Tryz.prog 32 #[.agg #[.slice A1 s.ps.length c1, .slice A2 s.bs.length c2, .slice A3 s.cs.length c3, .slice A4 s.as_.length c4], vw] w (GivesLn (MU.lineE s (x :: r)) B w) := by
  obtain ⟨gw, cw, rfl, hcw, hgw, hxl⟩ := hw.str_open
  have L0 := Lib.hid (LnS.new h hw hB)
  obtain ⟨x0, x1, x2, x3, x4, rfl⟩ : ∃ x0 x1 x2 x3 x4, r = [x0, x1, x2, x3, x4] := by
    match r, h2 with
    | [x0, x1, x2, x3, x4], _ => exact ⟨x0, x1, x2, x3, x4, rfl⟩
  have h0 : x0.length ≤ 9223372036854775807 := hw.2 x0 (by simp)
  have hd1 := digE_rng x1
  have hd2 := digE_rng x2
  have hd3 := digE_rng x3
  have hd4 := digE_rng x4
  subst h1
  obtain ⟨q1, q2, q3, q4⟩ := kw_p (x := MU.wProduct) rfl
  have E := Lib.hid (show MU.lineE s [MU.wProduct, x0, x1, x2, x3, x4] = if nameB x0 = false then (s, 5) else if (MU.numsE [x1, x2, x3, x4]).2 ≠ 0 then (s, (MU.numsE [x1, x2, x3, x4]).2) else ({ s with ps := s.ps ++ [⟨x0, MU.atI (MU.numsE [x1, x2, x3, x4]).1 0, MU.atI (MU.numsE [x1, x2, x3, x4]).1 1, MU.atI (MU.numsE [x1, x2, x3, x4]).1 2, MU.atI (MU.numsE [x1, x2, x3, x4]).1 3⟩] }, 0) from ((if_pos rfl)).trans ((if_neg (by simp)).trans rfl))
  obtain ⟨i0, hi, hz0, hz1, hz2⟩ := info_parts infoPr
  clear h2
  go_enter Tryz.func32, Tryz.ntmps32
  go_upto_region 2 with (fail)
  obtain ⟨W, hW⟩ : ∃ W, W = ((w.alloc (.cells #[.slice A1 s.ps.length c1, .slice A2 s.bs.length c2, .slice A3 s.cs.length c3, .slice A4 s.as_.length c4] 27)).alloc (.cells #[.slice none 0 0, .slice none 0 0, .slice none 0 0, .slice none 0 0] 27)) := ⟨_, rfl⟩
  rw [← hW] at L0 ⊢
  clear hW h hw
  obtain ⟨t0, t1, t2, t3⟩ := L0.out.bx.cells
  obtain ⟨b0, b1, b2, b3⟩ := L0.out.rs.cells
  obtain ⟨f0, f1, f2, f3⟩ := L0.out.rs.free
  have hzb := L0.out.bx.lt
  have hzr := L0.out.rs.lt
  have y0 := L0.out.wd.str_cell 0 MU.wProduct rfl
  have y1 := L0.out.wd.str_cell 1 x0 rfl
  go_wp2_with fail
  refine (rname8_any (str x0) (by rw [str_size]; exact h0) W).mono ?_
  rintro ev w1 ⟨rfl, hb1⟩
  rw [str_data]
  have L1 := Lib.hid (L0.out.keep hB hb1)
  clear L0 hb1 t0 t1 t2 t3 b0 b1 b2 b3 f0 f1 f2 f3 y0 y1
  obtain ⟨t0, t1, t2, t3⟩ := L1.out.bx.cells
  obtain ⟨b0, b1, b2, b3⟩ := L1.out.rs.cells
  obtain ⟨f0, f1, f2, f3⟩ := L1.out.rs.free
  have hzb := L1.out.bx.lt
  have hzr := L1.out.rs.lt
  have y0 := L1.out.wd.str_cell 0 MU.wProduct rfl
  have y1 := L1.out.wd.str_cell 1 x0 rfl
  by_cases ht : nameB x0 = false
  · rw [ht]
    rw [if_pos ht] at E
    clear ht
    have R := Lib.hid (L1.out.fin hB E.out)
    have R5 := Lib.hid (L1.out.rs.put4 (.slice A1 s.ps.length c1) (.slice A2 s.bs.length c2) (.slice A3 s.cs.length c3) (.slice A4 s.as_.length c4))
    clear L1
    go_wp2
    obtain ⟨W5, hW5⟩ : ∃ W5, W5 = ((((w1.setCell ⟨w.heap.size + 1, 0, none⟩ (.slice A1 s.ps.length c1)).setCell ⟨w.heap.size + 1, 1, none⟩ (.slice A2 s.bs.length c2)).setCell ⟨w.heap.size + 1, 2, none⟩ (.slice A3 s.cs.length c3)).setCell ⟨w.heap.size + 1, 3, none⟩ (.slice A4 s.as_.length c4)) := ⟨_, rfl⟩
    rw [← hW5] at R R5 ⊢
    clear t0 t1 t2 t3 b0 b1 b2 b3 f0 f1 f2 f3 hW5
    obtain ⟨b0, b1, b2, b3⟩ := R5.out.cells
    refine bodyPost_ret (v := .tuple #[.agg #[.slice A1 s.ps.length c1, .slice A2 s.bs.length c2, .slice A3 s.cs.length c3, .slice A4 s.as_.length c4], .int .i64 5]) (by simp [results, Tryz.results32, go_sem, b0, b1, b2, b3]) rfl ?_
    exact R.out
  · have ht' : nameB x0 = true := by simpa using ht
    rw [ht']
    rw [if_neg ht] at E
    clear ht ht'
    go_wp2_with fail
    obtain ⟨AL, cL, hvL, hlL⟩ := L1.out.wd.form (by show 6 ≤ _; decide)
    cases hvL
    refine (rnums_own (some ⟨gw, 0, none⟩) 6 cw 2 [MU.wProduct, x0, x1, x2, x3, x4] w1 hlL (by decide) (by decide)).mono ?_
    rintro ev w2 ⟨vn, rfl, hO, hb2⟩
    have L2 := Lib.hid (L1.out.keep hB hb2)
    have HO := Lib.hid hO
    clear L1 hlL hO hb2 t0 t1 t2 t3 b0 b1 b2 b3 f0 f1 f2 f3 y0 y1
    simp only [List.drop_succ_cons, List.drop_zero] at HO ⊢
    have NU := Lib.hid (nums_up [x1, x2, x3, x4]).2
    obtain ⟨t0, t1, t2, t3⟩ := L2.out.bx.cells
    obtain ⟨b0, b1, b2, b3⟩ := L2.out.rs.cells
    obtain ⟨f0, f1, f2, f3⟩ := L2.out.rs.free
    have hzb := L2.out.bx.lt
    have hzr := L2.out.rs.lt
    have y0 := L2.out.wd.str_cell 0 MU.wProduct rfl
    by_cases hN : (MU.numsE [x1, x2, x3, x4]).2 = 0
    · have HD := NU.out hN
      rw [if_neg (show ¬ (MU.numsE [x1, x2, x3, x4]).2 ≠ 0 by rw [hN]; simp)] at E
      rw [hN]
      rw [HD] at HO E
      simp only [List.map_cons, List.map_nil] at HO E
      clear NU hN HD
      generalize (MU.digE x1).1 = d1 at *
      generalize (MU.digE x2).1 = d2 at *
      generalize (MU.digE x3).1 = d3 at *
      generalize (MU.digE x4).1 = d4 at *
      obtain ⟨gn, cn, rfl, hcn, hgn⟩ := HO.out.int_open
      have HX := Lib.hid (show prE.fine ⟨x0, d1, d2, d3, d4⟩ from h0)
      have ER := Lib.hid (show MU.lineE s [MU.wProduct, x0, x1, x2, x3, x4] = ({ s with ps := s.ps ++ [⟨x0, d1, d2, d3, d4⟩] }, 0) from E.out)
      clear E
      go_wp2
      clear t0 t1 t2 t3 b0 b1 b2 b3 f0 f1 f2 f3 y0 q1 q2 q3 q4
      obtain ⟨w5, hw5⟩ : ∃ w5, w5 = w2.drew := ⟨_, rfl⟩
      have hb5 := below_drawn w2
      rw [← hw5] at hb5
      have HL := Lib.hid (L2.out.keep hB hb5)
      have HWd := Lib.hid HL.out.wd
      have HN := Lib.hid ((HO.out.low0).keep hb5)
      have hszw : w.heap.size < w5.heap.size := HL.out.bx.lt
      clear L2 HO hb5
      have HF5 : w5.cell? ⟨gw, 1, none⟩ = some (.string (str x0)) ∧ w5.cell? ⟨gn, 0, none⟩ = some (.int .i64 d1) ∧ w5.cell? ⟨gn, 1, none⟩ = some (.int .i64 d2) ∧ w5.cell? ⟨gn, 2, none⟩ = some (.int .i64 d3) ∧ w5.cell? ⟨gn, 3, none⟩ = some (.int .i64 d4) := ⟨HWd.out.str_cell 1 x0 rfl, HN.out.int_cell 0 d1 rfl, HN.out.int_cell 1 d2 rfl, HN.out.int_cell 2 d3 rfl, HN.out.int_cell 3 d4 rfl⟩
      rw [hw5] at HF5
      refine wp_region_held_drew (S := fun w' => w'.cell? ⟨gw, 1, none⟩ = some (.string (str x0)) ∧ w'.cell? ⟨gn, 0, none⟩ = some (.int .i64 d1) ∧ w'.cell? ⟨gn, 1, none⟩ = some (.int .i64 d2) ∧ w'.cell? ⟨gn, 2, none⟩ = some (.int .i64 d3) ∧ w'.cell? ⟨gn, 3, none⟩ = some (.int .i64 d4)) (by kernel_rfl) HF5 (fun hHeld => ?_)
      rw [← hw5] at hHeld ⊢
      clear hw5 HF5
      refine wpAnyH_take (i := 0) (oi := { dst := some 116, op := Op.fieldAddr 27 (Operand.tmp 2) 0, type := 0, pos := "ref.go:284", after := #[], guard := none }) (v := ?_) rfl (by kernel_rfl) (by kernel_rfl) (by kernel_rfl) (fun _ _ _ h => h) (Or.inl ⟨by rfl, ?_⟩) (by assumption) ?_
      rotate_left
      · intro w hSw; (try dsimp only at hSw); obtain ⟨s0, s1, s2, s3, s4⟩ := hSw; go_simp; try with_reducible rfl
      (try simp only [Act.put, List.setIfInBounds_toArray, List.set_cons_zero, List.set_cons_succ])
      refine wpAnyH_take (i := 2) (oi := { dst := some 118, op := Op.move (Operand.tmp 1), type := 51, pos := "ref.go:284", after := #[], guard := none }) (v := ?_) rfl (by kernel_rfl) (by kernel_rfl) (by kernel_rfl) (fun _ _ _ h => h) (Or.inl ⟨by rfl, ?_⟩) (by assumption) ?_
      rotate_left
      · intro w hSw; (try dsimp only at hSw); obtain ⟨s0, s1, s2, s3, s4⟩ := hSw; go_simp; try with_reducible rfl
      (try simp only [Act.put, List.setIfInBounds_toArray, List.set_cons_zero, List.set_cons_succ])
      refine wpAnyH_take (i := 3) (oi := { dst := some 119, op := Op.indexAddr 51 (Operand.tmp 118) (Operand.const (Value.int IntKind.i64 1)), type := 0, pos := "ref.go:284", after := #[{ on := 2, ground := Ground.data }], guard := none }) (v := ?_) rfl (by kernel_rfl) (by kernel_rfl) (by kernel_rfl) (fun _ _ _ h => h) (Or.inl ⟨by rfl, ?_⟩) (by assumption) ?_
      rotate_left
      · intro w hSw; (try dsimp only at hSw); obtain ⟨s0, s1, s2, s3, s4⟩ := hSw; go_simp; try with_reducible rfl
      (try simp only [Act.put, List.setIfInBounds_toArray, List.set_cons_zero, List.set_cons_succ])
      refine wpAnyH_take (i := 4) (oi := { dst := some 120, op := Op.load 9 (Operand.tmp 119), type := 9, pos := "ref.go:284", after := #[{ on := 3, ground := Ground.data }], guard := none }) (v := ?_) rfl (by kernel_rfl) (by kernel_rfl) (by kernel_rfl) (fun _ _ _ h => h) (Or.inl ⟨by rfl, ?_⟩) (by assumption) ?_
      rotate_left
      · intro w hSw; (try dsimp only at hSw); obtain ⟨s0, s1, s2, s3, s4⟩ := hSw; go_simp; try with_reducible rfl
      (try simp only [Act.put, List.setIfInBounds_toArray, List.set_cons_zero, List.set_cons_succ])
      refine wpAnyH_take (i := 5) (oi := { dst := some 121, op := Op.move (Operand.tmp 11), type := 100, pos := "ref.go:284", after := #[], guard := none }) (v := ?_) rfl (by kernel_rfl) (by kernel_rfl) (by kernel_rfl) (fun _ _ _ h => h) (Or.inl ⟨by rfl, ?_⟩) (by assumption) ?_
      rotate_left
      · intro w hSw; (try dsimp only at hSw); obtain ⟨s0, s1, s2, s3, s4⟩ := hSw; go_simp; try with_reducible rfl
      (try simp only [Act.put, List.setIfInBounds_toArray, List.set_cons_zero, List.set_cons_succ])
      refine wpAnyH_take (i := 6) (oi := { dst := some 122, op := Op.indexAddr 100 (Operand.tmp 121) (Operand.const (Value.int IntKind.i64 0)), type := 0, pos := "ref.go:284", after := #[{ on := 5, ground := Ground.data }], guard := none }) (v := ?_) rfl (by kernel_rfl) (by kernel_rfl) (by kernel_rfl) (fun _ _ _ h => h) (Or.inl ⟨by rfl, ?_⟩) (by assumption) ?_
      rotate_left
      · intro w hSw; (try dsimp only at hSw); obtain ⟨s0, s1, s2, s3, s4⟩ := hSw; go_simp; try with_reducible rfl
      (try simp only [Act.put, List.setIfInBounds_toArray, List.set_cons_zero, List.set_cons_succ])
      refine wpAnyH_take (i := 7) (oi := { dst := some 123, op := Op.load 2 (Operand.tmp 122), type := 2, pos := "ref.go:284", after := #[{ on := 6, ground := Ground.data }], guard := none }) (v := ?_) rfl (by kernel_rfl) (by kernel_rfl) (by kernel_rfl) (fun _ _ _ h => h) (Or.inl ⟨by rfl, ?_⟩) (by assumption) ?_
      rotate_left
      · intro w hSw; (try dsimp only at hSw); obtain ⟨s0, s1, s2, s3, s4⟩ := hSw; go_simp; try with_reducible rfl
      (try simp only [Act.put, List.setIfInBounds_toArray, List.set_cons_zero, List.set_cons_succ])
      refine wpAnyH_take (i := 8) (oi := { dst := some 124, op := Op.move (Operand.tmp 11), type := 100, pos := "ref.go:284", after := #[], guard := none }) (v := ?_) rfl (by kernel_rfl) (by kernel_rfl) (by kernel_rfl) (fun _ _ _ h => h) (Or.inl ⟨by rfl, ?_⟩) (by assumption) ?_
      rotate_left
      · intro w hSw; (try dsimp only at hSw); obtain ⟨s0, s1, s2, s3, s4⟩ := hSw; go_simp; try with_reducible rfl
      (try simp only [Act.put, List.setIfInBounds_toArray, List.set_cons_zero, List.set_cons_succ])
      refine wpAnyH_take (i := 9) (oi := { dst := some 125, op := Op.indexAddr 100 (Operand.tmp 124) (Operand.const (Value.int IntKind.i64 1)), type := 0, pos := "ref.go:284", after := #[{ on := 8, ground := Ground.data }], guard := none }) (v := ?_) rfl (by kernel_rfl) (by kernel_rfl) (by kernel_rfl) (fun _ _ _ h => h) (Or.inl ⟨by rfl, ?_⟩) (by assumption) ?_
      rotate_left
      · intro w hSw; (try dsimp only at hSw); obtain ⟨s0, s1, s2, s3, s4⟩ := hSw; go_simp; try with_reducible rfl
      (try simp only [Act.put, List.setIfInBounds_toArray, List.set_cons_zero, List.set_cons_succ])
      refine wpAnyH_take (i := 10) (oi := { dst := some 126, op := Op.load 2 (Operand.tmp 125), type := 2, pos := "ref.go:284", after := #[{ on := 9, ground := Ground.data }], guard := none }) (v := ?_) rfl (by kernel_rfl) (by kernel_rfl) (by kernel_rfl) (fun _ _ _ h => h) (Or.inl ⟨by rfl, ?_⟩) (by assumption) ?_
      rotate_left
      · intro w hSw; (try dsimp only at hSw); obtain ⟨s0, s1, s2, s3, s4⟩ := hSw; go_simp; try with_reducible rfl
      (try simp only [Act.put, List.setIfInBounds_toArray, List.set_cons_zero, List.set_cons_succ])
      refine wpAnyH_take (i := 11) (oi := { dst := some 127, op := Op.move (Operand.tmp 11), type := 100, pos := "ref.go:284", after := #[], guard := none }) (v := ?_) rfl (by kernel_rfl) (by kernel_rfl) (by kernel_rfl) (fun _ _ _ h => h) (Or.inl ⟨by rfl, ?_⟩) (by assumption) ?_
      rotate_left
      · intro w hSw; (try dsimp only at hSw); obtain ⟨s0, s1, s2, s3, s4⟩ := hSw; go_simp; try with_reducible rfl
      (try simp only [Act.put, List.setIfInBounds_toArray, List.set_cons_zero, List.set_cons_succ])
      refine wpAnyH_take (i := 12) (oi := { dst := some 128, op := Op.indexAddr 100 (Operand.tmp 127) (Operand.const (Value.int IntKind.i64 2)), type := 0, pos := "ref.go:284", after := #[{ on := 11, ground := Ground.data }], guard := none }) (v := ?_) rfl (by kernel_rfl) (by kernel_rfl) (by kernel_rfl) (fun _ _ _ h => h) (Or.inl ⟨by rfl, ?_⟩) (by assumption) ?_
      rotate_left
      · intro w hSw; (try dsimp only at hSw); obtain ⟨s0, s1, s2, s3, s4⟩ := hSw; go_simp; try with_reducible rfl
      (try simp only [Act.put, List.setIfInBounds_toArray, List.set_cons_zero, List.set_cons_succ])
      refine wpAnyH_take (i := 13) (oi := { dst := some 129, op := Op.load 2 (Operand.tmp 128), type := 2, pos := "ref.go:284", after := #[{ on := 12, ground := Ground.data }], guard := none }) (v := ?_) rfl (by kernel_rfl) (by kernel_rfl) (by kernel_rfl) (fun _ _ _ h => h) (Or.inl ⟨by rfl, ?_⟩) (by assumption) ?_
      rotate_left
      · intro w hSw; (try dsimp only at hSw); obtain ⟨s0, s1, s2, s3, s4⟩ := hSw; go_simp; try with_reducible rfl
      (try simp only [Act.put, List.setIfInBounds_toArray, List.set_cons_zero, List.set_cons_succ])
      refine wpAnyH_take (i := 14) (oi := { dst := some 130, op := Op.move (Operand.tmp 11), type := 100, pos := "ref.go:284", after := #[], guard := none }) (v := ?_) rfl (by kernel_rfl) (by kernel_rfl) (by kernel_rfl) (fun _ _ _ h => h) (Or.inl ⟨by rfl, ?_⟩) (by assumption) ?_
      rotate_left
      · intro w hSw; (try dsimp only at hSw); obtain ⟨s0, s1, s2, s3, s4⟩ := hSw; go_simp; try with_reducible rfl
      (try simp only [Act.put, List.setIfInBounds_toArray, List.set_cons_zero, List.set_cons_succ])
      refine wpAnyH_take (i := 15) (oi := { dst := some 131, op := Op.indexAddr 100 (Operand.tmp 130) (Operand.const (Value.int IntKind.i64 3)), type := 0, pos := "ref.go:284", after := #[{ on := 14, ground := Ground.data }], guard := none }) (v := ?_) rfl (by kernel_rfl) (by kernel_rfl) (by kernel_rfl) (fun _ _ _ h => h) (Or.inl ⟨by rfl, ?_⟩) (by assumption) ?_
      rotate_left
      · intro w hSw; (try dsimp only at hSw); obtain ⟨s0, s1, s2, s3, s4⟩ := hSw; go_simp; try with_reducible rfl
      (try simp only [Act.put, List.setIfInBounds_toArray, List.set_cons_zero, List.set_cons_succ])
      refine wpAnyH_take (i := 16) (oi := { dst := some 132, op := Op.load 2 (Operand.tmp 131), type := 2, pos := "ref.go:284", after := #[{ on := 15, ground := Ground.data }], guard := none }) (v := ?_) rfl (by kernel_rfl) (by kernel_rfl) (by kernel_rfl) (fun _ _ _ h => h) (Or.inl ⟨by rfl, ?_⟩) (by assumption) ?_
      rotate_left
      · intro w hSw; (try dsimp only at hSw); obtain ⟨s0, s1, s2, s3, s4⟩ := hSw; go_simp; try with_reducible rfl
      (try simp only [Act.put, List.setIfInBounds_toArray, List.set_cons_zero, List.set_cons_succ])
      refine wpAnyH_take (i := 17) (oi := { dst := some 133, op := Op.build 60 #[(0, Operand.tmp 120), (1, Operand.tmp 123), (2, Operand.tmp 126), (3, Operand.tmp 129), (4, Operand.tmp 132)], type := 60, pos := "ref.go:284", after := #[{ on := 4, ground := Ground.data }, { on := 7, ground := Ground.data }, { on := 10, ground := Ground.data }, { on := 13, ground := Ground.data }, { on := 16, ground := Ground.data }], guard := none }) (v := ?_) rfl (by kernel_rfl) (by kernel_rfl) (by kernel_rfl) (fun _ _ _ h => h) (Or.inl ⟨by rfl, ?_⟩) (by assumption) ?_
      rotate_left
      · intro w hSw; (try dsimp only at hSw); obtain ⟨s0, s1, s2, s3, s4⟩ := hSw; go_simp; try with_reducible rfl
      (try simp only [Act.put, List.setIfInBounds_toArray, List.set_cons_zero, List.set_cons_succ])
      refine wpAnyH_ready (rs := [1, 18]) (by kernel_rfl) (by simp) ?_
      refine AllReadyH.cons (o := { dst := some 117, op := Op.load 22 (Operand.tmp 116), type := 22, pos := "ref.go:284", after := #[{ on := 0, ground := Ground.data }], guard := none }) rfl (fun K hK => ?_) (AllReadyH.cons (o := { dst := some 134, op := Op.buildSlice 22 1 #[(0, Operand.tmp 133)], type := 22, pos := "ref.go:284", after := #[{ on := 17, ground := Ground.data }], guard := none }) rfl (fun K hK => ?_) AllReadyH.nil)
      · obtain ⟨t0, t1, t2, t3⟩ := HL.out.bx.cells
        go_simp
        refine hK.out _ _ ?_ (fun hHeld => ?_)
        · exact ⟨HWd.out.str_cell 1 x0 rfl, HN.out.int_cell 0 d1 rfl, HN.out.int_cell 1 d2 rfl, HN.out.int_cell 2 d3 rfl, HN.out.int_cell 3 d4 rfl⟩
        clear t0 t1 t2 t3
        clear hK K
        (try simp only [Act.put, List.setIfInBounds_toArray, List.set_cons_zero, List.set_cons_succ])
        refine wpAnyH_ready (rs := [18]) (by kernel_rfl) (by simp) ?_
        refine AllReadyH.cons (o := { dst := some 134, op := Op.buildSlice 22 1 #[(0, Operand.tmp 133)], type := 22, pos := "ref.go:284", after := #[{ on := 17, ground := Ground.data }], guard := none }) rfl (fun K hK => ?_) AllReadyH.nil
        go_simp
        obtain ⟨W6, hW6⟩ : ∃ W6, W6 = w5.alloc (.cells #[.string (str x0), .int .i64 d1, .int .i64 d2, .int .i64 d3, .int .i64 d4] 60) := ⟨_, rfl⟩
        have NB := Lib.hid (heap_new w5 (.cells #[.string (str x0), .int .i64 d1, .int .i64 d2, .int .i64 d3, .int .i64 d4] 60))
        have hb6 := below_new w5 (.cells #[.string (str x0), .int .i64 d1, .int .i64 d2, .int .i64 d3, .int .i64 d4] 60)
        rw [← hW6] at NB hb6 ⊢
        clear hW6
        replace HL := Lib.hid (HL.out.keep hB hb6)
        replace HWd := Lib.hid (HWd.out.keep hb6)
        replace HN := Lib.hid (HN.out.keep hb6)
        have hsz6 := hb6.size
        clear hb6
        refine hK.out _ _ ?_ (fun hHeld => ?_)
        · exact ⟨HWd.out.str_cell 1 x0 rfl, HN.out.int_cell 0 d1 rfl, HN.out.int_cell 1 d2 rfl, HN.out.int_cell 2 d3 rfl, HN.out.int_cell 3 d4 rfl⟩
        clear hK K
        (try simp only [Act.put, List.setIfInBounds_toArray, List.set_cons_zero, List.set_cons_succ])
        refine wpAnyH_ready (rs := [19]) (by kernel_rfl) (by simp) ?_
        refine AllReadyH.cons (o := { dst := some 135, op := Op.call { callee := Callee.builtin Builtin.append, args := #[Operand.tmp 117, Operand.tmp 134], argTypes := #[22, 22] }, type := 22, pos := "ref.go:284", after := #[{ on := 1, ground := Ground.data }, { on := 18, ground := Ground.data }], guard := none }) rfl (fun K hK => ?_) AllReadyH.nil
        refine step_append_lies _ (by rfl) _ _ _ (by rfl) B 60 i0 (.agg #[.string ⟨#[]⟩, .int .i64 0, .int .i64 0, .int .i64 0, .int .i64 0]) 5 48 Tryz.underlying22 hi hz0 hz1 hz2 rfl (by decide) _ _ _ (by rfl) HL.out.os.p.1 ⟨w5.heap.size, 0, none⟩ 1 1 (prE.cells ⟨x0, d1, d2, d3, d4⟩) (by rfl) rfl ?c1 ?c2 (by decide) ?c4 ?c5 ?c6 _ rfl ?_
        case c1 => exact World.news_of_block NB.out
        case c2 => exact prE.one ⟨x0, d1, d2, d3, d4⟩
        case c4 => unfold maxLen; omega
        case c5 => omega
        case c6 => omega
        intro gg cp w7 hown hgrow hat hlt7
        have T7 := Lib.hid (HL.out.stay0 hgrow)
        have L8 := Lib.hid (HL.out.app0 (x := ⟨x0, d1, d2, d3, d4⟩) hB HX.out hown hgrow)
        replace HWd := Lib.hid (HL.out.words0 hgrow)
        replace HN := Lib.hid (HL.out.nums0 HN.out hgrow)
        clear hown hgrow hat hlt7
        refine hK.out _ _ ?_ (fun hHeld => ?_)
        · exact ⟨HWd.out.str_cell 1 x0 rfl, HN.out.int_cell 0 d1 rfl, HN.out.int_cell 1 d2 rfl, HN.out.int_cell 2 d3 rfl, HN.out.int_cell 3 d4 rfl⟩
        clear hK K
        (try simp only [Act.put, List.setIfInBounds_toArray, List.set_cons_zero, List.set_cons_succ])
        refine wpAnyH_take (i := 20) (oi := { dst := some 136, op := Op.fieldAddr 27 (Operand.tmp 2) 0, type := 0, pos := "ref.go:284", after := #[{ on := 0, ground := Ground.phase }, { on := 1, ground := Ground.phase }, { on := 2, ground := Ground.phase }, { on := 3, ground := Ground.phase }, { on := 4, ground := Ground.phase }, { on := 5, ground := Ground.phase }, { on := 6, ground := Ground.phase }, { on := 7, ground := Ground.phase }, { on := 8, ground := Ground.phase }, { on := 9, ground := Ground.phase }, { on := 10, ground := Ground.phase }, { on := 11, ground := Ground.phase }, { on := 12, ground := Ground.phase }, { on := 13, ground := Ground.phase }, { on := 14, ground := Ground.phase }, { on := 15, ground := Ground.phase }, { on := 16, ground := Ground.phase }, { on := 17, ground := Ground.phase }, { on := 18, ground := Ground.phase }, { on := 19, ground := Ground.phase }], guard := none }) (v := ?_) rfl (by kernel_rfl) (by kernel_rfl) (by kernel_rfl) (fun _ _ _ h => h) (Or.inl ⟨by rfl, ?_⟩) (by assumption) ?_
        rotate_left
        · intro w hSw; (try dsimp only at hSw); obtain ⟨s0, s1, s2, s3, s4⟩ := hSw; go_simp; try with_reducible rfl
        (try simp only [Act.put, List.setIfInBounds_toArray, List.set_cons_zero, List.set_cons_succ])
        refine wpAnyH_ready (rs := [21]) (by kernel_rfl) (by simp) ?_
        refine AllReadyH.cons (o := { dst := none, op := Op.store 22 (Operand.tmp 136) (Operand.tmp 135), type := 0, pos := "ref.go:284", after := #[{ on := 20, ground := Ground.data }, { on := 19, ground := Ground.data }, { on := 19, ground := Ground.chain }, { on := 0, ground := Ground.phase }, { on := 1, ground := Ground.phase }, { on := 2, ground := Ground.phase }, { on := 3, ground := Ground.phase }, { on := 4, ground := Ground.phase }, { on := 5, ground := Ground.phase }, { on := 6, ground := Ground.phase }, { on := 7, ground := Ground.phase }, { on := 8, ground := Ground.phase }, { on := 9, ground := Ground.phase }, { on := 10, ground := Ground.phase }, { on := 11, ground := Ground.phase }, { on := 12, ground := Ground.phase }, { on := 13, ground := Ground.phase }, { on := 14, ground := Ground.phase }, { on := 15, ground := Ground.phase }, { on := 16, ground := Ground.phase }, { on := 17, ground := Ground.phase }, { on := 18, ground := Ground.phase }, { on := 19, ground := Ground.phase }], guard := none }) rfl (fun K hK => ?_) AllReadyH.nil
        obtain ⟨t0, t1, t2, t3⟩ := T7.out.cells
        obtain ⟨f0, f1, f2, f3⟩ := T7.out.free
        have hzz := T7.out.lt
        go_simp
        replace HN := Lib.hid (HN.out.turn (g_set w7 w.heap.size 0 (.slice (some ⟨gg, 0, none⟩) (s.ps.length + 1) cp)) (HN.out.ne T7.out (by decide)))
        replace HWd := Lib.hid L8.out.wd
        refine hK.out _ _ ?_ (fun hHeld => ?_)
        · exact ⟨HWd.out.str_cell 1 x0 rfl, HN.out.int_cell 0 d1 rfl, HN.out.int_cell 1 d2 rfl, HN.out.int_cell 2 d3 rfl, HN.out.int_cell 3 d4 rfl⟩
        clear t0 t1 t2 t3 f0 f1 f2 f3
        clear hK K
        (try simp only [Act.put, List.setIfInBounds_toArray, List.set_cons_zero, List.set_cons_succ])
        refine wpAnyH_done (by kernel_rfl) ?_ _
        obtain ⟨W8, hW8⟩ : ∃ W8, W8 = w7.setCell ⟨w.heap.size, 0, none⟩ (.slice (some ⟨gg, 0, none⟩) (s.ps.length + 1) cp) := ⟨_, rfl⟩
        rw [← hW8] at L8 ⊢
        clear hW8 HWd HN T7 HL NB
        obtain ⟨t0, t1, t2, t3⟩ := L8.out.bx.cells
        obtain ⟨b0, b1, b2, b3⟩ := L8.out.rs.cells
        obtain ⟨f0, f1, f2, f3⟩ := L8.out.rs.free
        have hzb := L8.out.bx.lt
        have hzr := L8.out.rs.lt
        have R := Lib.hid (L8.out.fin hB ER.out)
        have R5 := Lib.hid (L8.out.rs.put4 (.slice (some ⟨gg, 0, none⟩) (s.ps.length + 1) cp) (.slice A2 s.bs.length c2) (.slice A3 s.cs.length c3) (.slice A4 s.as_.length c4))
        clear L8
        go_wp2
        obtain ⟨W5, hW5⟩ : ∃ W5, W5 = ((((W8.setCell ⟨w.heap.size + 1, 0, none⟩ (.slice (some ⟨gg, 0, none⟩) (s.ps.length + 1) cp)).setCell ⟨w.heap.size + 1, 1, none⟩ (.slice A2 s.bs.length c2)).setCell ⟨w.heap.size + 1, 2, none⟩ (.slice A3 s.cs.length c3)).setCell ⟨w.heap.size + 1, 3, none⟩ (.slice A4 s.as_.length c4)) := ⟨_, rfl⟩
        rw [← hW5] at R R5 ⊢
        clear t0 t1 t2 t3 b0 b1 b2 b3 f0 f1 f2 f3 hW5
        obtain ⟨b0, b1, b2, b3⟩ := R5.out.cells
        refine bodyPost_ret (v := .tuple #[.agg #[.slice (some ⟨gg, 0, none⟩) (s.ps.length + 1) cp, .slice A2 s.bs.length c2, .slice A3 s.cs.length c3, .slice A4 s.as_.length c4], .int .i64 0]) (by simp [results, Tryz.results32, go_sem, b0, b1, b2, b3]) rfl ?_
        exact R.out
      · go_simp
        obtain ⟨W6, hW6⟩ : ∃ W6, W6 = w5.alloc (.cells #[.string (str x0), .int .i64 d1, .int .i64 d2, .int .i64 d3, .int .i64 d4] 60) := ⟨_, rfl⟩
        have NB := Lib.hid (heap_new w5 (.cells #[.string (str x0), .int .i64 d1, .int .i64 d2, .int .i64 d3, .int .i64 d4] 60))
        have hb6 := below_new w5 (.cells #[.string (str x0), .int .i64 d1, .int .i64 d2, .int .i64 d3, .int .i64 d4] 60)
        rw [← hW6] at NB hb6 ⊢
        clear hW6
        replace HL := Lib.hid (HL.out.keep hB hb6)
        replace HWd := Lib.hid (HWd.out.keep hb6)
        replace HN := Lib.hid (HN.out.keep hb6)
        have hsz6 := hb6.size
        clear hb6
        refine hK.out _ _ ?_ (fun hHeld => ?_)
        · exact ⟨HWd.out.str_cell 1 x0 rfl, HN.out.int_cell 0 d1 rfl, HN.out.int_cell 1 d2 rfl, HN.out.int_cell 2 d3 rfl, HN.out.int_cell 3 d4 rfl⟩
        clear hK K
        (try simp only [Act.put, List.setIfInBounds_toArray, List.set_cons_zero, List.set_cons_succ])
        refine wpAnyH_ready (rs := [1]) (by kernel_rfl) (by simp) ?_
        refine AllReadyH.cons (o := { dst := some 117, op := Op.load 22 (Operand.tmp 116), type := 22, pos := "ref.go:284", after := #[{ on := 0, ground := Ground.data }], guard := none }) rfl (fun K hK => ?_) AllReadyH.nil
        obtain ⟨t0, t1, t2, t3⟩ := HL.out.bx.cells
        go_simp
        refine hK.out _ _ ?_ (fun hHeld => ?_)
        · exact ⟨HWd.out.str_cell 1 x0 rfl, HN.out.int_cell 0 d1 rfl, HN.out.int_cell 1 d2 rfl, HN.out.int_cell 2 d3 rfl, HN.out.int_cell 3 d4 rfl⟩
        clear t0 t1 t2 t3
        clear hK K
        (try simp only [Act.put, List.setIfInBounds_toArray, List.set_cons_zero, List.set_cons_succ])
        refine wpAnyH_ready (rs := [19]) (by kernel_rfl) (by simp) ?_
        refine AllReadyH.cons (o := { dst := some 135, op := Op.call { callee := Callee.builtin Builtin.append, args := #[Operand.tmp 117, Operand.tmp 134], argTypes := #[22, 22] }, type := 22, pos := "ref.go:284", after := #[{ on := 1, ground := Ground.data }, { on := 18, ground := Ground.data }], guard := none }) rfl (fun K hK => ?_) AllReadyH.nil
        refine step_append_lies _ (by rfl) _ _ _ (by rfl) B 60 i0 (.agg #[.string ⟨#[]⟩, .int .i64 0, .int .i64 0, .int .i64 0, .int .i64 0]) 5 48 Tryz.underlying22 hi hz0 hz1 hz2 rfl (by decide) _ _ _ (by rfl) HL.out.os.p.1 ⟨w5.heap.size, 0, none⟩ 1 1 (prE.cells ⟨x0, d1, d2, d3, d4⟩) (by rfl) rfl ?c1 ?c2 (by decide) ?c4 ?c5 ?c6 _ rfl ?_
        case c1 => exact World.news_of_block NB.out
        case c2 => exact prE.one ⟨x0, d1, d2, d3, d4⟩
        case c4 => unfold maxLen; omega
        case c5 => omega
        case c6 => omega
        intro gg cp w7 hown hgrow hat hlt7
        have T7 := Lib.hid (HL.out.stay0 hgrow)
        have L8 := Lib.hid (HL.out.app0 (x := ⟨x0, d1, d2, d3, d4⟩) hB HX.out hown hgrow)
        replace HWd := Lib.hid (HL.out.words0 hgrow)
        replace HN := Lib.hid (HL.out.nums0 HN.out hgrow)
        clear hown hgrow hat hlt7
        refine hK.out _ _ ?_ (fun hHeld => ?_)
        · exact ⟨HWd.out.str_cell 1 x0 rfl, HN.out.int_cell 0 d1 rfl, HN.out.int_cell 1 d2 rfl, HN.out.int_cell 2 d3 rfl, HN.out.int_cell 3 d4 rfl⟩
        clear hK K
        (try simp only [Act.put, List.setIfInBounds_toArray, List.set_cons_zero, List.set_cons_succ])
        refine wpAnyH_take (i := 20) (oi := { dst := some 136, op := Op.fieldAddr 27 (Operand.tmp 2) 0, type := 0, pos := "ref.go:284", after := #[{ on := 0, ground := Ground.phase }, { on := 1, ground := Ground.phase }, { on := 2, ground := Ground.phase }, { on := 3, ground := Ground.phase }, { on := 4, ground := Ground.phase }, { on := 5, ground := Ground.phase }, { on := 6, ground := Ground.phase }, { on := 7, ground := Ground.phase }, { on := 8, ground := Ground.phase }, { on := 9, ground := Ground.phase }, { on := 10, ground := Ground.phase }, { on := 11, ground := Ground.phase }, { on := 12, ground := Ground.phase }, { on := 13, ground := Ground.phase }, { on := 14, ground := Ground.phase }, { on := 15, ground := Ground.phase }, { on := 16, ground := Ground.phase }, { on := 17, ground := Ground.phase }, { on := 18, ground := Ground.phase }, { on := 19, ground := Ground.phase }], guard := none }) (v := ?_) rfl (by kernel_rfl) (by kernel_rfl) (by kernel_rfl) (fun _ _ _ h => h) (Or.inl ⟨by rfl, ?_⟩) (by assumption) ?_
        rotate_left
        · intro w hSw; (try dsimp only at hSw); obtain ⟨s0, s1, s2, s3, s4⟩ := hSw; go_simp; try with_reducible rfl
        (try simp only [Act.put, List.setIfInBounds_toArray, List.set_cons_zero, List.set_cons_succ])
        refine wpAnyH_ready (rs := [21]) (by kernel_rfl) (by simp) ?_
        refine AllReadyH.cons (o := { dst := none, op := Op.store 22 (Operand.tmp 136) (Operand.tmp 135), type := 0, pos := "ref.go:284", after := #[{ on := 20, ground := Ground.data }, { on := 19, ground := Ground.data }, { on := 19, ground := Ground.chain }, { on := 0, ground := Ground.phase }, { on := 1, ground := Ground.phase }, { on := 2, ground := Ground.phase }, { on := 3, ground := Ground.phase }, { on := 4, ground := Ground.phase }, { on := 5, ground := Ground.phase }, { on := 6, ground := Ground.phase }, { on := 7, ground := Ground.phase }, { on := 8, ground := Ground.phase }, { on := 9, ground := Ground.phase }, { on := 10, ground := Ground.phase }, { on := 11, ground := Ground.phase }, { on := 12, ground := Ground.phase }, { on := 13, ground := Ground.phase }, { on := 14, ground := Ground.phase }, { on := 15, ground := Ground.phase }, { on := 16, ground := Ground.phase }, { on := 17, ground := Ground.phase }, { on := 18, ground := Ground.phase }, { on := 19, ground := Ground.phase }], guard := none }) rfl (fun K hK => ?_) AllReadyH.nil
        obtain ⟨t0, t1, t2, t3⟩ := T7.out.cells
        obtain ⟨f0, f1, f2, f3⟩ := T7.out.free
        have hzz := T7.out.lt
        go_simp
        replace HN := Lib.hid (HN.out.turn (g_set w7 w.heap.size 0 (.slice (some ⟨gg, 0, none⟩) (s.ps.length + 1) cp)) (HN.out.ne T7.out (by decide)))
        replace HWd := Lib.hid L8.out.wd
        refine hK.out _ _ ?_ (fun hHeld => ?_)
        · exact ⟨HWd.out.str_cell 1 x0 rfl, HN.out.int_cell 0 d1 rfl, HN.out.int_cell 1 d2 rfl, HN.out.int_cell 2 d3 rfl, HN.out.int_cell 3 d4 rfl⟩
        clear t0 t1 t2 t3 f0 f1 f2 f3
        clear hK K
        (try simp only [Act.put, List.setIfInBounds_toArray, List.set_cons_zero, List.set_cons_succ])
        refine wpAnyH_done (by kernel_rfl) ?_ _
        obtain ⟨W8, hW8⟩ : ∃ W8, W8 = w7.setCell ⟨w.heap.size, 0, none⟩ (.slice (some ⟨gg, 0, none⟩) (s.ps.length + 1) cp) := ⟨_, rfl⟩
        rw [← hW8] at L8 ⊢
        clear hW8 HWd HN T7 HL NB
        obtain ⟨t0, t1, t2, t3⟩ := L8.out.bx.cells
        obtain ⟨b0, b1, b2, b3⟩ := L8.out.rs.cells
        obtain ⟨f0, f1, f2, f3⟩ := L8.out.rs.free
        have hzb := L8.out.bx.lt
        have hzr := L8.out.rs.lt
        have R := Lib.hid (L8.out.fin hB ER.out)
        have R5 := Lib.hid (L8.out.rs.put4 (.slice (some ⟨gg, 0, none⟩) (s.ps.length + 1) cp) (.slice A2 s.bs.length c2) (.slice A3 s.cs.length c3) (.slice A4 s.as_.length c4))
        clear L8
        go_wp2
        obtain ⟨W5, hW5⟩ : ∃ W5, W5 = ((((W8.setCell ⟨w.heap.size + 1, 0, none⟩ (.slice (some ⟨gg, 0, none⟩) (s.ps.length + 1) cp)).setCell ⟨w.heap.size + 1, 1, none⟩ (.slice A2 s.bs.length c2)).setCell ⟨w.heap.size + 1, 2, none⟩ (.slice A3 s.cs.length c3)).setCell ⟨w.heap.size + 1, 3, none⟩ (.slice A4 s.as_.length c4)) := ⟨_, rfl⟩
        rw [← hW5] at R R5 ⊢
        clear t0 t1 t2 t3 b0 b1 b2 b3 f0 f1 f2 f3 hW5
        obtain ⟨b0, b1, b2, b3⟩ := R5.out.cells
        refine bodyPost_ret (v := .tuple #[.agg #[.slice (some ⟨gg, 0, none⟩) (s.ps.length + 1) cp, .slice A2 s.bs.length c2, .slice A3 s.cs.length c3, .slice A4 s.as_.length c4], .int .i64 0]) (by simp [results, Tryz.results32, go_sem, b0, b1, b2, b3]) rfl ?_
        exact R.out
    · have hk' : ((MU.numsE [x1, x2, x3, x4]).2 != 0) = true := bne_iff_ne.2 hN
      rw [if_pos hN] at E
      clear NU HO
      generalize (MU.numsE [x1, x2, x3, x4]).2 = kk at *
      have R := Lib.hid (L2.out.fin hB E.out)
      have R5 := Lib.hid (L2.out.rs.put4 (.slice A1 s.ps.length c1) (.slice A2 s.bs.length c2) (.slice A3 s.cs.length c3) (.slice A4 s.as_.length c4))
      clear L2
      go_wp2
      obtain ⟨W5, hW5⟩ : ∃ W5, W5 = ((((w2.setCell ⟨w.heap.size + 1, 0, none⟩ (.slice A1 s.ps.length c1)).setCell ⟨w.heap.size + 1, 1, none⟩ (.slice A2 s.bs.length c2)).setCell ⟨w.heap.size + 1, 2, none⟩ (.slice A3 s.cs.length c3)).setCell ⟨w.heap.size + 1, 3, none⟩ (.slice A4 s.as_.length c4)) := ⟨_, rfl⟩
      rw [← hW5] at R R5 ⊢
      clear t0 t1 t2 t3 b0 b1 b2 b3 f0 f1 f2 f3 hW5
      obtain ⟨b0, b1, b2, b3⟩ := R5.out.cells
      refine bodyPost_ret (v := .tuple #[.agg #[.slice A1 s.ps.length c1, .slice A2 s.bs.length c2, .slice A3 s.cs.length c3, .slice A4 s.as_.length c4], .int .i64 kk]) (by simp [results, Tryz.results32, go_sem, b0, b1, b2, b3]) rfl ?_
      exact R.out

set_option maxRecDepth 100000 in
set_option maxHeartbeats 16000000 in
theorem rline_b (B : Nat) (s : Su) (A1 A2 A3 A4 : Option Addr) (c1 c2 c3 c4 : Nat) (vw : Value) (x : List UInt8) (r : List (List UInt8)) (w : World) (h : OS w B s (.slice A1 s.ps.length c1) (.slice A2 s.bs.length c2) (.slice A3 s.cs.length c3) (.slice A4 s.as_.length c4)) (hB : B ≤ w.heap.size) (hw : OwnL strE 9 w 0 vw (x :: r)) (hn5 : r.length ≤ 5000) (h1 : x = MU.wBidder) (h2 : r.length = 4) (hrow : s.bs.length ≤ 5000) : Calls Tryz.prog 32 #[.agg #[.slice A1 s.ps.length c1, .slice A2 s.bs.length c2, .slice A3 s.cs.length c3, .slice A4 s.as_.length c4], vw] w (GivesLn (MU.lineE s (x :: r)) B w) := by
  obtain ⟨gw, cw, rfl, hcw, hgw, hxl⟩ := hw.str_open
  have L0 := Lib.hid (LnS.new h hw hB)
  obtain ⟨x0, x1, x2, x3, rfl⟩ : ∃ x0 x1 x2 x3, r = [x0, x1, x2, x3] := by
    match r, h2 with
    | [x0, x1, x2, x3], _ => exact ⟨x0, x1, x2, x3, rfl⟩
  have h0 : x0.length ≤ 9223372036854775807 := hw.2 x0 (by simp)
  have hd1 := digE_rng x1
  have hd2 := digE_rng x2
  have hd3 := digE_rng x3
  subst h1
  obtain ⟨q1, q2, q3, q4⟩ := kw_b (x := MU.wBidder) rfl
  have E := Lib.hid (show MU.lineE s [MU.wBidder, x0, x1, x2, x3] = if nameB x0 = false then (s, 5) else if (MU.numsE [x1, x2, x3]).2 ≠ 0 then (s, (MU.numsE [x1, x2, x3]).2) else ({ s with bs := s.bs ++ [⟨x0, MU.atI (MU.numsE [x1, x2, x3]).1 0, MU.atI (MU.numsE [x1, x2, x3]).1 1, MU.atI (MU.numsE [x1, x2, x3]).1 2⟩] }, 0) from ((if_neg (show ¬ MU.wBidder = MU.wProduct by decide)).trans ((if_pos rfl))).trans ((if_neg (by simp)).trans rfl))
  obtain ⟨i0, hi, hz0, hz1, hz2⟩ := info_parts infoBd
  clear h2
  go_enter Tryz.func32, Tryz.ntmps32
  go_upto_region 2 with (fail)
  obtain ⟨W, hW⟩ : ∃ W, W = ((w.alloc (.cells #[.slice A1 s.ps.length c1, .slice A2 s.bs.length c2, .slice A3 s.cs.length c3, .slice A4 s.as_.length c4] 27)).alloc (.cells #[.slice none 0 0, .slice none 0 0, .slice none 0 0, .slice none 0 0] 27)) := ⟨_, rfl⟩
  rw [← hW] at L0 ⊢
  clear hW h hw
  obtain ⟨t0, t1, t2, t3⟩ := L0.out.bx.cells
  obtain ⟨b0, b1, b2, b3⟩ := L0.out.rs.cells
  obtain ⟨f0, f1, f2, f3⟩ := L0.out.rs.free
  have hzb := L0.out.bx.lt
  have hzr := L0.out.rs.lt
  have y0 := L0.out.wd.str_cell 0 MU.wBidder rfl
  have y1 := L0.out.wd.str_cell 1 x0 rfl
  go_wp2_with fail
  refine (rname8_any (str x0) (by rw [str_size]; exact h0) W).mono ?_
  rintro ev w1 ⟨rfl, hb1⟩
  rw [str_data]
  have L1 := Lib.hid (L0.out.keep hB hb1)
  clear L0 hb1 t0 t1 t2 t3 b0 b1 b2 b3 f0 f1 f2 f3 y0 y1
  obtain ⟨t0, t1, t2, t3⟩ := L1.out.bx.cells
  obtain ⟨b0, b1, b2, b3⟩ := L1.out.rs.cells
  obtain ⟨f0, f1, f2, f3⟩ := L1.out.rs.free
  have hzb := L1.out.bx.lt
  have hzr := L1.out.rs.lt
  have y0 := L1.out.wd.str_cell 0 MU.wBidder rfl
  have y1 := L1.out.wd.str_cell 1 x0 rfl
  by_cases ht : nameB x0 = false
  · rw [ht]
    rw [if_pos ht] at E
    clear ht
    have R := Lib.hid (L1.out.fin hB E.out)
    have R5 := Lib.hid (L1.out.rs.put4 (.slice A1 s.ps.length c1) (.slice A2 s.bs.length c2) (.slice A3 s.cs.length c3) (.slice A4 s.as_.length c4))
    clear L1
    go_wp2
    obtain ⟨W5, hW5⟩ : ∃ W5, W5 = ((((w1.setCell ⟨w.heap.size + 1, 0, none⟩ (.slice A1 s.ps.length c1)).setCell ⟨w.heap.size + 1, 1, none⟩ (.slice A2 s.bs.length c2)).setCell ⟨w.heap.size + 1, 2, none⟩ (.slice A3 s.cs.length c3)).setCell ⟨w.heap.size + 1, 3, none⟩ (.slice A4 s.as_.length c4)) := ⟨_, rfl⟩
    rw [← hW5] at R R5 ⊢
    clear t0 t1 t2 t3 b0 b1 b2 b3 f0 f1 f2 f3 hW5
    obtain ⟨b0, b1, b2, b3⟩ := R5.out.cells
    refine bodyPost_ret (v := .tuple #[.agg #[.slice A1 s.ps.length c1, .slice A2 s.bs.length c2, .slice A3 s.cs.length c3, .slice A4 s.as_.length c4], .int .i64 5]) (by simp [results, Tryz.results32, go_sem, b0, b1, b2, b3]) rfl ?_
    exact R.out
  · have ht' : nameB x0 = true := by simpa using ht
    rw [ht']
    rw [if_neg ht] at E
    clear ht ht'
    go_wp2_with fail
    obtain ⟨AL, cL, hvL, hlL⟩ := L1.out.wd.form (by show 5 ≤ _; decide)
    cases hvL
    refine (rnums_own (some ⟨gw, 0, none⟩) 5 cw 2 [MU.wBidder, x0, x1, x2, x3] w1 hlL (by decide) (by decide)).mono ?_
    rintro ev w2 ⟨vn, rfl, hO, hb2⟩
    have L2 := Lib.hid (L1.out.keep hB hb2)
    have HO := Lib.hid hO
    clear L1 hlL hO hb2 t0 t1 t2 t3 b0 b1 b2 b3 f0 f1 f2 f3 y0 y1
    simp only [List.drop_succ_cons, List.drop_zero] at HO ⊢
    have NU := Lib.hid (nums_up [x1, x2, x3]).2
    obtain ⟨t0, t1, t2, t3⟩ := L2.out.bx.cells
    obtain ⟨b0, b1, b2, b3⟩ := L2.out.rs.cells
    obtain ⟨f0, f1, f2, f3⟩ := L2.out.rs.free
    have hzb := L2.out.bx.lt
    have hzr := L2.out.rs.lt
    have y0 := L2.out.wd.str_cell 0 MU.wBidder rfl
    by_cases hN : (MU.numsE [x1, x2, x3]).2 = 0
    · have HD := NU.out hN
      rw [if_neg (show ¬ (MU.numsE [x1, x2, x3]).2 ≠ 0 by rw [hN]; simp)] at E
      rw [hN]
      rw [HD] at HO E
      simp only [List.map_cons, List.map_nil] at HO E
      clear NU hN HD
      generalize (MU.digE x1).1 = d1 at *
      generalize (MU.digE x2).1 = d2 at *
      generalize (MU.digE x3).1 = d3 at *
      obtain ⟨gn, cn, rfl, hcn, hgn⟩ := HO.out.int_open
      have HX := Lib.hid (show bdE.fine ⟨x0, d1, d2, d3⟩ from ⟨h0, (by dsimp only; omega), (by dsimp only; omega), (by dsimp only; omega)⟩)
      have ER := Lib.hid (show MU.lineE s [MU.wBidder, x0, x1, x2, x3] = ({ s with bs := s.bs ++ [⟨x0, d1, d2, d3⟩] }, 0) from E.out)
      clear E
      go_wp2
      clear t0 t1 t2 t3 b0 b1 b2 b3 f0 f1 f2 f3 y0 q1 q2 q3 q4
      obtain ⟨w5, hw5⟩ : ∃ w5, w5 = w2.drew := ⟨_, rfl⟩
      have hb5 := below_drawn w2
      rw [← hw5] at hb5
      have HL := Lib.hid (L2.out.keep hB hb5)
      have HWd := Lib.hid HL.out.wd
      have HN := Lib.hid ((HO.out.low0).keep hb5)
      have hszw : w.heap.size < w5.heap.size := HL.out.bx.lt
      clear L2 HO hb5
      have HF5 : w5.cell? ⟨gw, 1, none⟩ = some (.string (str x0)) ∧ w5.cell? ⟨gn, 0, none⟩ = some (.int .i64 d1) ∧ w5.cell? ⟨gn, 1, none⟩ = some (.int .i64 d2) ∧ w5.cell? ⟨gn, 2, none⟩ = some (.int .i64 d3) := ⟨HWd.out.str_cell 1 x0 rfl, HN.out.int_cell 0 d1 rfl, HN.out.int_cell 1 d2 rfl, HN.out.int_cell 2 d3 rfl⟩
      rw [hw5] at HF5
      refine wp_region_held_drew (S := fun w' => w'.cell? ⟨gw, 1, none⟩ = some (.string (str x0)) ∧ w'.cell? ⟨gn, 0, none⟩ = some (.int .i64 d1) ∧ w'.cell? ⟨gn, 1, none⟩ = some (.int .i64 d2) ∧ w'.cell? ⟨gn, 2, none⟩ = some (.int .i64 d3)) (by kernel_rfl) HF5 (fun hHeld => ?_)
      rw [← hw5] at hHeld ⊢
      clear hw5 HF5
      refine wpAnyH_take (i := 0) (oi := { dst := some 139, op := Op.fieldAddr 27 (Operand.tmp 2) 1, type := 0, pos := "ref.go:286", after := #[], guard := none }) (v := ?_) rfl (by kernel_rfl) (by kernel_rfl) (by kernel_rfl) (fun _ _ _ h => h) (Or.inl ⟨by rfl, ?_⟩) (by assumption) ?_
      rotate_left
      · intro w hSw; (try dsimp only at hSw); obtain ⟨s0, s1, s2, s3⟩ := hSw; go_simp; try with_reducible rfl
      (try simp only [Act.put, List.setIfInBounds_toArray, List.set_cons_zero, List.set_cons_succ])
      refine wpAnyH_take (i := 2) (oi := { dst := some 141, op := Op.move (Operand.tmp 1), type := 51, pos := "ref.go:286", after := #[], guard := none }) (v := ?_) rfl (by kernel_rfl) (by kernel_rfl) (by kernel_rfl) (fun _ _ _ h => h) (Or.inl ⟨by rfl, ?_⟩) (by assumption) ?_
      rotate_left
      · intro w hSw; (try dsimp only at hSw); obtain ⟨s0, s1, s2, s3⟩ := hSw; go_simp; try with_reducible rfl
      (try simp only [Act.put, List.setIfInBounds_toArray, List.set_cons_zero, List.set_cons_succ])
      refine wpAnyH_take (i := 3) (oi := { dst := some 142, op := Op.indexAddr 51 (Operand.tmp 141) (Operand.const (Value.int IntKind.i64 1)), type := 0, pos := "ref.go:286", after := #[{ on := 2, ground := Ground.data }], guard := none }) (v := ?_) rfl (by kernel_rfl) (by kernel_rfl) (by kernel_rfl) (fun _ _ _ h => h) (Or.inl ⟨by rfl, ?_⟩) (by assumption) ?_
      rotate_left
      · intro w hSw; (try dsimp only at hSw); obtain ⟨s0, s1, s2, s3⟩ := hSw; go_simp; try with_reducible rfl
      (try simp only [Act.put, List.setIfInBounds_toArray, List.set_cons_zero, List.set_cons_succ])
      refine wpAnyH_take (i := 4) (oi := { dst := some 143, op := Op.load 9 (Operand.tmp 142), type := 9, pos := "ref.go:286", after := #[{ on := 3, ground := Ground.data }], guard := none }) (v := ?_) rfl (by kernel_rfl) (by kernel_rfl) (by kernel_rfl) (fun _ _ _ h => h) (Or.inl ⟨by rfl, ?_⟩) (by assumption) ?_
      rotate_left
      · intro w hSw; (try dsimp only at hSw); obtain ⟨s0, s1, s2, s3⟩ := hSw; go_simp; try with_reducible rfl
      (try simp only [Act.put, List.setIfInBounds_toArray, List.set_cons_zero, List.set_cons_succ])
      refine wpAnyH_take (i := 5) (oi := { dst := some 144, op := Op.move (Operand.tmp 11), type := 100, pos := "ref.go:286", after := #[], guard := none }) (v := ?_) rfl (by kernel_rfl) (by kernel_rfl) (by kernel_rfl) (fun _ _ _ h => h) (Or.inl ⟨by rfl, ?_⟩) (by assumption) ?_
      rotate_left
      · intro w hSw; (try dsimp only at hSw); obtain ⟨s0, s1, s2, s3⟩ := hSw; go_simp; try with_reducible rfl
      (try simp only [Act.put, List.setIfInBounds_toArray, List.set_cons_zero, List.set_cons_succ])
      refine wpAnyH_take (i := 6) (oi := { dst := some 145, op := Op.indexAddr 100 (Operand.tmp 144) (Operand.const (Value.int IntKind.i64 0)), type := 0, pos := "ref.go:286", after := #[{ on := 5, ground := Ground.data }], guard := none }) (v := ?_) rfl (by kernel_rfl) (by kernel_rfl) (by kernel_rfl) (fun _ _ _ h => h) (Or.inl ⟨by rfl, ?_⟩) (by assumption) ?_
      rotate_left
      · intro w hSw; (try dsimp only at hSw); obtain ⟨s0, s1, s2, s3⟩ := hSw; go_simp; try with_reducible rfl
      (try simp only [Act.put, List.setIfInBounds_toArray, List.set_cons_zero, List.set_cons_succ])
      refine wpAnyH_take (i := 7) (oi := { dst := some 146, op := Op.load 2 (Operand.tmp 145), type := 2, pos := "ref.go:286", after := #[{ on := 6, ground := Ground.data }], guard := none }) (v := ?_) rfl (by kernel_rfl) (by kernel_rfl) (by kernel_rfl) (fun _ _ _ h => h) (Or.inl ⟨by rfl, ?_⟩) (by assumption) ?_
      rotate_left
      · intro w hSw; (try dsimp only at hSw); obtain ⟨s0, s1, s2, s3⟩ := hSw; go_simp; try with_reducible rfl
      (try simp only [Act.put, List.setIfInBounds_toArray, List.set_cons_zero, List.set_cons_succ])
      refine wpAnyH_take (i := 8) (oi := { dst := some 147, op := Op.move (Operand.tmp 11), type := 100, pos := "ref.go:286", after := #[], guard := none }) (v := ?_) rfl (by kernel_rfl) (by kernel_rfl) (by kernel_rfl) (fun _ _ _ h => h) (Or.inl ⟨by rfl, ?_⟩) (by assumption) ?_
      rotate_left
      · intro w hSw; (try dsimp only at hSw); obtain ⟨s0, s1, s2, s3⟩ := hSw; go_simp; try with_reducible rfl
      (try simp only [Act.put, List.setIfInBounds_toArray, List.set_cons_zero, List.set_cons_succ])
      refine wpAnyH_take (i := 9) (oi := { dst := some 148, op := Op.indexAddr 100 (Operand.tmp 147) (Operand.const (Value.int IntKind.i64 1)), type := 0, pos := "ref.go:286", after := #[{ on := 8, ground := Ground.data }], guard := none }) (v := ?_) rfl (by kernel_rfl) (by kernel_rfl) (by kernel_rfl) (fun _ _ _ h => h) (Or.inl ⟨by rfl, ?_⟩) (by assumption) ?_
      rotate_left
      · intro w hSw; (try dsimp only at hSw); obtain ⟨s0, s1, s2, s3⟩ := hSw; go_simp; try with_reducible rfl
      (try simp only [Act.put, List.setIfInBounds_toArray, List.set_cons_zero, List.set_cons_succ])
      refine wpAnyH_take (i := 10) (oi := { dst := some 149, op := Op.load 2 (Operand.tmp 148), type := 2, pos := "ref.go:286", after := #[{ on := 9, ground := Ground.data }], guard := none }) (v := ?_) rfl (by kernel_rfl) (by kernel_rfl) (by kernel_rfl) (fun _ _ _ h => h) (Or.inl ⟨by rfl, ?_⟩) (by assumption) ?_
      rotate_left
      · intro w hSw; (try dsimp only at hSw); obtain ⟨s0, s1, s2, s3⟩ := hSw; go_simp; try with_reducible rfl
      (try simp only [Act.put, List.setIfInBounds_toArray, List.set_cons_zero, List.set_cons_succ])
      refine wpAnyH_take (i := 11) (oi := { dst := some 150, op := Op.move (Operand.tmp 11), type := 100, pos := "ref.go:286", after := #[], guard := none }) (v := ?_) rfl (by kernel_rfl) (by kernel_rfl) (by kernel_rfl) (fun _ _ _ h => h) (Or.inl ⟨by rfl, ?_⟩) (by assumption) ?_
      rotate_left
      · intro w hSw; (try dsimp only at hSw); obtain ⟨s0, s1, s2, s3⟩ := hSw; go_simp; try with_reducible rfl
      (try simp only [Act.put, List.setIfInBounds_toArray, List.set_cons_zero, List.set_cons_succ])
      refine wpAnyH_take (i := 12) (oi := { dst := some 151, op := Op.indexAddr 100 (Operand.tmp 150) (Operand.const (Value.int IntKind.i64 2)), type := 0, pos := "ref.go:286", after := #[{ on := 11, ground := Ground.data }], guard := none }) (v := ?_) rfl (by kernel_rfl) (by kernel_rfl) (by kernel_rfl) (fun _ _ _ h => h) (Or.inl ⟨by rfl, ?_⟩) (by assumption) ?_
      rotate_left
      · intro w hSw; (try dsimp only at hSw); obtain ⟨s0, s1, s2, s3⟩ := hSw; go_simp; try with_reducible rfl
      (try simp only [Act.put, List.setIfInBounds_toArray, List.set_cons_zero, List.set_cons_succ])
      refine wpAnyH_take (i := 13) (oi := { dst := some 152, op := Op.load 2 (Operand.tmp 151), type := 2, pos := "ref.go:286", after := #[{ on := 12, ground := Ground.data }], guard := none }) (v := ?_) rfl (by kernel_rfl) (by kernel_rfl) (by kernel_rfl) (fun _ _ _ h => h) (Or.inl ⟨by rfl, ?_⟩) (by assumption) ?_
      rotate_left
      · intro w hSw; (try dsimp only at hSw); obtain ⟨s0, s1, s2, s3⟩ := hSw; go_simp; try with_reducible rfl
      (try simp only [Act.put, List.setIfInBounds_toArray, List.set_cons_zero, List.set_cons_succ])
      refine wpAnyH_take (i := 14) (oi := { dst := some 153, op := Op.build 64 #[(0, Operand.tmp 143), (1, Operand.tmp 146), (2, Operand.tmp 149), (3, Operand.tmp 152)], type := 64, pos := "ref.go:286", after := #[{ on := 4, ground := Ground.data }, { on := 7, ground := Ground.data }, { on := 10, ground := Ground.data }, { on := 13, ground := Ground.data }], guard := none }) (v := ?_) rfl (by kernel_rfl) (by kernel_rfl) (by kernel_rfl) (fun _ _ _ h => h) (Or.inl ⟨by rfl, ?_⟩) (by assumption) ?_
      rotate_left
      · intro w hSw; (try dsimp only at hSw); obtain ⟨s0, s1, s2, s3⟩ := hSw; go_simp; try with_reducible rfl
      (try simp only [Act.put, List.setIfInBounds_toArray, List.set_cons_zero, List.set_cons_succ])
      refine wpAnyH_ready (rs := [1, 15]) (by kernel_rfl) (by simp) ?_
      refine AllReadyH.cons (o := { dst := some 140, op := Op.load 23 (Operand.tmp 139), type := 23, pos := "ref.go:286", after := #[{ on := 0, ground := Ground.data }], guard := none }) rfl (fun K hK => ?_) (AllReadyH.cons (o := { dst := some 154, op := Op.buildSlice 23 1 #[(0, Operand.tmp 153)], type := 23, pos := "ref.go:286", after := #[{ on := 14, ground := Ground.data }], guard := none }) rfl (fun K hK => ?_) AllReadyH.nil)
      · obtain ⟨t0, t1, t2, t3⟩ := HL.out.bx.cells
        go_simp
        refine hK.out _ _ ?_ (fun hHeld => ?_)
        · exact ⟨HWd.out.str_cell 1 x0 rfl, HN.out.int_cell 0 d1 rfl, HN.out.int_cell 1 d2 rfl, HN.out.int_cell 2 d3 rfl⟩
        clear t0 t1 t2 t3
        clear hK K
        (try simp only [Act.put, List.setIfInBounds_toArray, List.set_cons_zero, List.set_cons_succ])
        refine wpAnyH_ready (rs := [15]) (by kernel_rfl) (by simp) ?_
        refine AllReadyH.cons (o := { dst := some 154, op := Op.buildSlice 23 1 #[(0, Operand.tmp 153)], type := 23, pos := "ref.go:286", after := #[{ on := 14, ground := Ground.data }], guard := none }) rfl (fun K hK => ?_) AllReadyH.nil
        go_simp
        obtain ⟨W6, hW6⟩ : ∃ W6, W6 = w5.alloc (.cells #[.string (str x0), .int .i64 d1, .int .i64 d2, .int .i64 d3] 64) := ⟨_, rfl⟩
        have NB := Lib.hid (heap_new w5 (.cells #[.string (str x0), .int .i64 d1, .int .i64 d2, .int .i64 d3] 64))
        have hb6 := below_new w5 (.cells #[.string (str x0), .int .i64 d1, .int .i64 d2, .int .i64 d3] 64)
        rw [← hW6] at NB hb6 ⊢
        clear hW6
        replace HL := Lib.hid (HL.out.keep hB hb6)
        replace HWd := Lib.hid (HWd.out.keep hb6)
        replace HN := Lib.hid (HN.out.keep hb6)
        have hsz6 := hb6.size
        clear hb6
        refine hK.out _ _ ?_ (fun hHeld => ?_)
        · exact ⟨HWd.out.str_cell 1 x0 rfl, HN.out.int_cell 0 d1 rfl, HN.out.int_cell 1 d2 rfl, HN.out.int_cell 2 d3 rfl⟩
        clear hK K
        (try simp only [Act.put, List.setIfInBounds_toArray, List.set_cons_zero, List.set_cons_succ])
        refine wpAnyH_ready (rs := [16]) (by kernel_rfl) (by simp) ?_
        refine AllReadyH.cons (o := { dst := some 155, op := Op.call { callee := Callee.builtin Builtin.append, args := #[Operand.tmp 140, Operand.tmp 154], argTypes := #[23, 23] }, type := 23, pos := "ref.go:286", after := #[{ on := 1, ground := Ground.data }, { on := 15, ground := Ground.data }], guard := none }) rfl (fun K hK => ?_) AllReadyH.nil
        refine step_append_lies _ (by rfl) _ _ _ (by rfl) B 64 i0 (.agg #[.string ⟨#[]⟩, .int .i64 0, .int .i64 0, .int .i64 0]) 4 40 Tryz.underlying23 hi hz0 hz1 hz2 rfl (by decide) _ _ _ (by rfl) HL.out.os.b.1 ⟨w5.heap.size, 0, none⟩ 1 1 (bdE.cells ⟨x0, d1, d2, d3⟩) (by rfl) rfl ?c1 ?c2 (by decide) ?c4 ?c5 ?c6 _ rfl ?_
        case c1 => exact World.news_of_block NB.out
        case c2 => exact bdE.one ⟨x0, d1, d2, d3⟩
        case c4 => unfold maxLen; omega
        case c5 => omega
        case c6 => omega
        intro gg cp w7 hown hgrow hat hlt7
        have T7 := Lib.hid (HL.out.stay1 hgrow)
        have L8 := Lib.hid (HL.out.app1 (x := ⟨x0, d1, d2, d3⟩) hB HX.out hown hgrow)
        replace HWd := Lib.hid (HL.out.words1 hgrow)
        replace HN := Lib.hid (HL.out.nums1 HN.out hgrow)
        clear hown hgrow hat hlt7
        refine hK.out _ _ ?_ (fun hHeld => ?_)
        · exact ⟨HWd.out.str_cell 1 x0 rfl, HN.out.int_cell 0 d1 rfl, HN.out.int_cell 1 d2 rfl, HN.out.int_cell 2 d3 rfl⟩
        clear hK K
        (try simp only [Act.put, List.setIfInBounds_toArray, List.set_cons_zero, List.set_cons_succ])
        refine wpAnyH_take (i := 17) (oi := { dst := some 156, op := Op.fieldAddr 27 (Operand.tmp 2) 1, type := 0, pos := "ref.go:286", after := #[{ on := 0, ground := Ground.phase }, { on := 1, ground := Ground.phase }, { on := 2, ground := Ground.phase }, { on := 3, ground := Ground.phase }, { on := 4, ground := Ground.phase }, { on := 5, ground := Ground.phase }, { on := 6, ground := Ground.phase }, { on := 7, ground := Ground.phase }, { on := 8, ground := Ground.phase }, { on := 9, ground := Ground.phase }, { on := 10, ground := Ground.phase }, { on := 11, ground := Ground.phase }, { on := 12, ground := Ground.phase }, { on := 13, ground := Ground.phase }, { on := 14, ground := Ground.phase }, { on := 15, ground := Ground.phase }, { on := 16, ground := Ground.phase }], guard := none }) (v := ?_) rfl (by kernel_rfl) (by kernel_rfl) (by kernel_rfl) (fun _ _ _ h => h) (Or.inl ⟨by rfl, ?_⟩) (by assumption) ?_
        rotate_left
        · intro w hSw; (try dsimp only at hSw); obtain ⟨s0, s1, s2, s3⟩ := hSw; go_simp; try with_reducible rfl
        (try simp only [Act.put, List.setIfInBounds_toArray, List.set_cons_zero, List.set_cons_succ])
        refine wpAnyH_ready (rs := [18]) (by kernel_rfl) (by simp) ?_
        refine AllReadyH.cons (o := { dst := none, op := Op.store 23 (Operand.tmp 156) (Operand.tmp 155), type := 0, pos := "ref.go:286", after := #[{ on := 17, ground := Ground.data }, { on := 16, ground := Ground.data }, { on := 16, ground := Ground.chain }, { on := 0, ground := Ground.phase }, { on := 1, ground := Ground.phase }, { on := 2, ground := Ground.phase }, { on := 3, ground := Ground.phase }, { on := 4, ground := Ground.phase }, { on := 5, ground := Ground.phase }, { on := 6, ground := Ground.phase }, { on := 7, ground := Ground.phase }, { on := 8, ground := Ground.phase }, { on := 9, ground := Ground.phase }, { on := 10, ground := Ground.phase }, { on := 11, ground := Ground.phase }, { on := 12, ground := Ground.phase }, { on := 13, ground := Ground.phase }, { on := 14, ground := Ground.phase }, { on := 15, ground := Ground.phase }, { on := 16, ground := Ground.phase }], guard := none }) rfl (fun K hK => ?_) AllReadyH.nil
        obtain ⟨t0, t1, t2, t3⟩ := T7.out.cells
        obtain ⟨f0, f1, f2, f3⟩ := T7.out.free
        have hzz := T7.out.lt
        go_simp
        replace HN := Lib.hid (HN.out.turn (g_set w7 w.heap.size 1 (.slice (some ⟨gg, 0, none⟩) (s.bs.length + 1) cp)) (HN.out.ne T7.out (by decide)))
        replace HWd := Lib.hid L8.out.wd
        refine hK.out _ _ ?_ (fun hHeld => ?_)
        · exact ⟨HWd.out.str_cell 1 x0 rfl, HN.out.int_cell 0 d1 rfl, HN.out.int_cell 1 d2 rfl, HN.out.int_cell 2 d3 rfl⟩
        clear t0 t1 t2 t3 f0 f1 f2 f3
        clear hK K
        (try simp only [Act.put, List.setIfInBounds_toArray, List.set_cons_zero, List.set_cons_succ])
        refine wpAnyH_done (by kernel_rfl) ?_ _
        obtain ⟨W8, hW8⟩ : ∃ W8, W8 = w7.setCell ⟨w.heap.size, 1, none⟩ (.slice (some ⟨gg, 0, none⟩) (s.bs.length + 1) cp) := ⟨_, rfl⟩
        rw [← hW8] at L8 ⊢
        clear hW8 HWd HN T7 HL NB
        obtain ⟨t0, t1, t2, t3⟩ := L8.out.bx.cells
        obtain ⟨b0, b1, b2, b3⟩ := L8.out.rs.cells
        obtain ⟨f0, f1, f2, f3⟩ := L8.out.rs.free
        have hzb := L8.out.bx.lt
        have hzr := L8.out.rs.lt
        have R := Lib.hid (L8.out.fin hB ER.out)
        have R5 := Lib.hid (L8.out.rs.put4 (.slice A1 s.ps.length c1) (.slice (some ⟨gg, 0, none⟩) (s.bs.length + 1) cp) (.slice A3 s.cs.length c3) (.slice A4 s.as_.length c4))
        clear L8
        go_wp2
        obtain ⟨W5, hW5⟩ : ∃ W5, W5 = ((((W8.setCell ⟨w.heap.size + 1, 0, none⟩ (.slice A1 s.ps.length c1)).setCell ⟨w.heap.size + 1, 1, none⟩ (.slice (some ⟨gg, 0, none⟩) (s.bs.length + 1) cp)).setCell ⟨w.heap.size + 1, 2, none⟩ (.slice A3 s.cs.length c3)).setCell ⟨w.heap.size + 1, 3, none⟩ (.slice A4 s.as_.length c4)) := ⟨_, rfl⟩
        rw [← hW5] at R R5 ⊢
        clear t0 t1 t2 t3 b0 b1 b2 b3 f0 f1 f2 f3 hW5
        obtain ⟨b0, b1, b2, b3⟩ := R5.out.cells
        refine bodyPost_ret (v := .tuple #[.agg #[.slice A1 s.ps.length c1, .slice (some ⟨gg, 0, none⟩) (s.bs.length + 1) cp, .slice A3 s.cs.length c3, .slice A4 s.as_.length c4], .int .i64 0]) (by simp [results, Tryz.results32, go_sem, b0, b1, b2, b3]) rfl ?_
        exact R.out
      · go_simp
        obtain ⟨W6, hW6⟩ : ∃ W6, W6 = w5.alloc (.cells #[.string (str x0), .int .i64 d1, .int .i64 d2, .int .i64 d3] 64) := ⟨_, rfl⟩
        have NB := Lib.hid (heap_new w5 (.cells #[.string (str x0), .int .i64 d1, .int .i64 d2, .int .i64 d3] 64))
        have hb6 := below_new w5 (.cells #[.string (str x0), .int .i64 d1, .int .i64 d2, .int .i64 d3] 64)
        rw [← hW6] at NB hb6 ⊢
        clear hW6
        replace HL := Lib.hid (HL.out.keep hB hb6)
        replace HWd := Lib.hid (HWd.out.keep hb6)
        replace HN := Lib.hid (HN.out.keep hb6)
        have hsz6 := hb6.size
        clear hb6
        refine hK.out _ _ ?_ (fun hHeld => ?_)
        · exact ⟨HWd.out.str_cell 1 x0 rfl, HN.out.int_cell 0 d1 rfl, HN.out.int_cell 1 d2 rfl, HN.out.int_cell 2 d3 rfl⟩
        clear hK K
        (try simp only [Act.put, List.setIfInBounds_toArray, List.set_cons_zero, List.set_cons_succ])
        refine wpAnyH_ready (rs := [1]) (by kernel_rfl) (by simp) ?_
        refine AllReadyH.cons (o := { dst := some 140, op := Op.load 23 (Operand.tmp 139), type := 23, pos := "ref.go:286", after := #[{ on := 0, ground := Ground.data }], guard := none }) rfl (fun K hK => ?_) AllReadyH.nil
        obtain ⟨t0, t1, t2, t3⟩ := HL.out.bx.cells
        go_simp
        refine hK.out _ _ ?_ (fun hHeld => ?_)
        · exact ⟨HWd.out.str_cell 1 x0 rfl, HN.out.int_cell 0 d1 rfl, HN.out.int_cell 1 d2 rfl, HN.out.int_cell 2 d3 rfl⟩
        clear t0 t1 t2 t3
        clear hK K
        (try simp only [Act.put, List.setIfInBounds_toArray, List.set_cons_zero, List.set_cons_succ])
        refine wpAnyH_ready (rs := [16]) (by kernel_rfl) (by simp) ?_
        refine AllReadyH.cons (o := { dst := some 155, op := Op.call { callee := Callee.builtin Builtin.append, args := #[Operand.tmp 140, Operand.tmp 154], argTypes := #[23, 23] }, type := 23, pos := "ref.go:286", after := #[{ on := 1, ground := Ground.data }, { on := 15, ground := Ground.data }], guard := none }) rfl (fun K hK => ?_) AllReadyH.nil
        refine step_append_lies _ (by rfl) _ _ _ (by rfl) B 64 i0 (.agg #[.string ⟨#[]⟩, .int .i64 0, .int .i64 0, .int .i64 0]) 4 40 Tryz.underlying23 hi hz0 hz1 hz2 rfl (by decide) _ _ _ (by rfl) HL.out.os.b.1 ⟨w5.heap.size, 0, none⟩ 1 1 (bdE.cells ⟨x0, d1, d2, d3⟩) (by rfl) rfl ?c1 ?c2 (by decide) ?c4 ?c5 ?c6 _ rfl ?_
        case c1 => exact World.news_of_block NB.out
        case c2 => exact bdE.one ⟨x0, d1, d2, d3⟩
        case c4 => unfold maxLen; omega
        case c5 => omega
        case c6 => omega
        intro gg cp w7 hown hgrow hat hlt7
        have T7 := Lib.hid (HL.out.stay1 hgrow)
        have L8 := Lib.hid (HL.out.app1 (x := ⟨x0, d1, d2, d3⟩) hB HX.out hown hgrow)
        replace HWd := Lib.hid (HL.out.words1 hgrow)
        replace HN := Lib.hid (HL.out.nums1 HN.out hgrow)
        clear hown hgrow hat hlt7
        refine hK.out _ _ ?_ (fun hHeld => ?_)
        · exact ⟨HWd.out.str_cell 1 x0 rfl, HN.out.int_cell 0 d1 rfl, HN.out.int_cell 1 d2 rfl, HN.out.int_cell 2 d3 rfl⟩
        clear hK K
        (try simp only [Act.put, List.setIfInBounds_toArray, List.set_cons_zero, List.set_cons_succ])
        refine wpAnyH_take (i := 17) (oi := { dst := some 156, op := Op.fieldAddr 27 (Operand.tmp 2) 1, type := 0, pos := "ref.go:286", after := #[{ on := 0, ground := Ground.phase }, { on := 1, ground := Ground.phase }, { on := 2, ground := Ground.phase }, { on := 3, ground := Ground.phase }, { on := 4, ground := Ground.phase }, { on := 5, ground := Ground.phase }, { on := 6, ground := Ground.phase }, { on := 7, ground := Ground.phase }, { on := 8, ground := Ground.phase }, { on := 9, ground := Ground.phase }, { on := 10, ground := Ground.phase }, { on := 11, ground := Ground.phase }, { on := 12, ground := Ground.phase }, { on := 13, ground := Ground.phase }, { on := 14, ground := Ground.phase }, { on := 15, ground := Ground.phase }, { on := 16, ground := Ground.phase }], guard := none }) (v := ?_) rfl (by kernel_rfl) (by kernel_rfl) (by kernel_rfl) (fun _ _ _ h => h) (Or.inl ⟨by rfl, ?_⟩) (by assumption) ?_
        rotate_left
        · intro w hSw; (try dsimp only at hSw); obtain ⟨s0, s1, s2, s3⟩ := hSw; go_simp; try with_reducible rfl
        (try simp only [Act.put, List.setIfInBounds_toArray, List.set_cons_zero, List.set_cons_succ])
        refine wpAnyH_ready (rs := [18]) (by kernel_rfl) (by simp) ?_
        refine AllReadyH.cons (o := { dst := none, op := Op.store 23 (Operand.tmp 156) (Operand.tmp 155), type := 0, pos := "ref.go:286", after := #[{ on := 17, ground := Ground.data }, { on := 16, ground := Ground.data }, { on := 16, ground := Ground.chain }, { on := 0, ground := Ground.phase }, { on := 1, ground := Ground.phase }, { on := 2, ground := Ground.phase }, { on := 3, ground := Ground.phase }, { on := 4, ground := Ground.phase }, { on := 5, ground := Ground.phase }, { on := 6, ground := Ground.phase }, { on := 7, ground := Ground.phase }, { on := 8, ground := Ground.phase }, { on := 9, ground := Ground.phase }, { on := 10, ground := Ground.phase }, { on := 11, ground := Ground.phase }, { on := 12, ground := Ground.phase }, { on := 13, ground := Ground.phase }, { on := 14, ground := Ground.phase }, { on := 15, ground := Ground.phase }, { on := 16, ground := Ground.phase }], guard := none }) rfl (fun K hK => ?_) AllReadyH.nil
        obtain ⟨t0, t1, t2, t3⟩ := T7.out.cells
        obtain ⟨f0, f1, f2, f3⟩ := T7.out.free
        have hzz := T7.out.lt
        go_simp
        replace HN := Lib.hid (HN.out.turn (g_set w7 w.heap.size 1 (.slice (some ⟨gg, 0, none⟩) (s.bs.length + 1) cp)) (HN.out.ne T7.out (by decide)))
        replace HWd := Lib.hid L8.out.wd
        refine hK.out _ _ ?_ (fun hHeld => ?_)
        · exact ⟨HWd.out.str_cell 1 x0 rfl, HN.out.int_cell 0 d1 rfl, HN.out.int_cell 1 d2 rfl, HN.out.int_cell 2 d3 rfl⟩
        clear t0 t1 t2 t3 f0 f1 f2 f3
        clear hK K
        (try simp only [Act.put, List.setIfInBounds_toArray, List.set_cons_zero, List.set_cons_succ])
        refine wpAnyH_done (by kernel_rfl) ?_ _
        obtain ⟨W8, hW8⟩ : ∃ W8, W8 = w7.setCell ⟨w.heap.size, 1, none⟩ (.slice (some ⟨gg, 0, none⟩) (s.bs.length + 1) cp) := ⟨_, rfl⟩
        rw [← hW8] at L8 ⊢
        clear hW8 HWd HN T7 HL NB
        obtain ⟨t0, t1, t2, t3⟩ := L8.out.bx.cells
        obtain ⟨b0, b1, b2, b3⟩ := L8.out.rs.cells
        obtain ⟨f0, f1, f2, f3⟩ := L8.out.rs.free
        have hzb := L8.out.bx.lt
        have hzr := L8.out.rs.lt
        have R := Lib.hid (L8.out.fin hB ER.out)
        have R5 := Lib.hid (L8.out.rs.put4 (.slice A1 s.ps.length c1) (.slice (some ⟨gg, 0, none⟩) (s.bs.length + 1) cp) (.slice A3 s.cs.length c3) (.slice A4 s.as_.length c4))
        clear L8
        go_wp2
        obtain ⟨W5, hW5⟩ : ∃ W5, W5 = ((((W8.setCell ⟨w.heap.size + 1, 0, none⟩ (.slice A1 s.ps.length c1)).setCell ⟨w.heap.size + 1, 1, none⟩ (.slice (some ⟨gg, 0, none⟩) (s.bs.length + 1) cp)).setCell ⟨w.heap.size + 1, 2, none⟩ (.slice A3 s.cs.length c3)).setCell ⟨w.heap.size + 1, 3, none⟩ (.slice A4 s.as_.length c4)) := ⟨_, rfl⟩
        rw [← hW5] at R R5 ⊢
        clear t0 t1 t2 t3 b0 b1 b2 b3 f0 f1 f2 f3 hW5
        obtain ⟨b0, b1, b2, b3⟩ := R5.out.cells
        refine bodyPost_ret (v := .tuple #[.agg #[.slice A1 s.ps.length c1, .slice (some ⟨gg, 0, none⟩) (s.bs.length + 1) cp, .slice A3 s.cs.length c3, .slice A4 s.as_.length c4], .int .i64 0]) (by simp [results, Tryz.results32, go_sem, b0, b1, b2, b3]) rfl ?_
        exact R.out
    · have hk' : ((MU.numsE [x1, x2, x3]).2 != 0) = true := bne_iff_ne.2 hN
      rw [if_pos hN] at E
      clear NU HO
      generalize (MU.numsE [x1, x2, x3]).2 = kk at *
      have R := Lib.hid (L2.out.fin hB E.out)
      have R5 := Lib.hid (L2.out.rs.put4 (.slice A1 s.ps.length c1) (.slice A2 s.bs.length c2) (.slice A3 s.cs.length c3) (.slice A4 s.as_.length c4))
      clear L2
      go_wp2
      obtain ⟨W5, hW5⟩ : ∃ W5, W5 = ((((w2.setCell ⟨w.heap.size + 1, 0, none⟩ (.slice A1 s.ps.length c1)).setCell ⟨w.heap.size + 1, 1, none⟩ (.slice A2 s.bs.length c2)).setCell ⟨w.heap.size + 1, 2, none⟩ (.slice A3 s.cs.length c3)).setCell ⟨w.heap.size + 1, 3, none⟩ (.slice A4 s.as_.length c4)) := ⟨_, rfl⟩
      rw [← hW5] at R R5 ⊢
      clear t0 t1 t2 t3 b0 b1 b2 b3 f0 f1 f2 f3 hW5
      obtain ⟨b0, b1, b2, b3⟩ := R5.out.cells
      refine bodyPost_ret (v := .tuple #[.agg #[.slice A1 s.ps.length c1, .slice A2 s.bs.length c2, .slice A3 s.cs.length c3, .slice A4 s.as_.length c4], .int .i64 kk]) (by simp [results, Tryz.results32, go_sem, b0, b1, b2, b3]) rfl ?_
      exact R.out

set_option maxRecDepth 100000 in
set_option maxHeartbeats 16000000 in
theorem rline_c (B : Nat) (s : Su) (A1 A2 A3 A4 : Option Addr) (c1 c2 c3 c4 : Nat) (vw : Value) (x : List UInt8) (r : List (List UInt8)) (w : World) (h : OS w B s (.slice A1 s.ps.length c1) (.slice A2 s.bs.length c2) (.slice A3 s.cs.length c3) (.slice A4 s.as_.length c4)) (hB : B ≤ w.heap.size) (hw : OwnL strE 9 w 0 vw (x :: r)) (hn5 : r.length ≤ 5000) (h1 : x = MU.wCap) (h2 : r.length = 3) (hrow : s.cs.length ≤ 5000) (hbl : s.bs.length ≤ 5000) : Calls Tryz.prog 32 #[.agg #[.slice A1 s.ps.length c1, .slice A2 s.bs.length c2, .slice A3 s.cs.length c3, .slice A4 s.as_.length c4], vw] w (GivesLn (MU.lineE s (x :: r)) B w) := by
  obtain ⟨gw, cw, rfl, hcw, hgw, hxl⟩ := hw.str_open
  have L0 := Lib.hid (LnS.new h hw hB)
  obtain ⟨x0, x1, x2, rfl⟩ : ∃ x0 x1 x2, r = [x0, x1, x2] := by
    match r, h2 with
    | [x0, x1, x2], _ => exact ⟨x0, x1, x2, rfl⟩
  have h0 : x0.length ≤ 9223372036854775807 := hw.2 x0 (by simp)
  have hd1 := digE_rng x1
  have hd2 := digE_rng x2
  subst h1
  obtain ⟨q1, q2, q3, q4⟩ := kw_c (x := MU.wCap) rfl
  have E := Lib.hid (show MU.lineE s [MU.wCap, x0, x1, x2] = if MR.findL s.bs x0 = none ∧ x0 ≠ [42] then (s, 6) else if (MU.numsE [x1, x2]).2 ≠ 0 then (s, (MU.numsE [x1, x2]).2) else ({ s with cs := s.cs ++ [⟨((MR.findL s.bs x0).map Int.ofNat).getD (-1), MU.atI (MU.numsE [x1, x2]).1 0, MU.atI (MU.numsE [x1, x2]).1 1⟩] }, 0) from ((if_neg (show ¬ MU.wCap = MU.wProduct by decide)).trans ((if_neg (show ¬ MU.wCap = MU.wBidder by decide)).trans ((if_pos rfl)))).trans ((if_neg (by simp)).trans rfl))
  obtain ⟨i0, hi, hz0, hz1, hz2⟩ := info_parts infoCp
  clear h2
  go_enter Tryz.func32, Tryz.ntmps32
  go_upto_region 2 with (fail)
  obtain ⟨W, hW⟩ : ∃ W, W = ((w.alloc (.cells #[.slice A1 s.ps.length c1, .slice A2 s.bs.length c2, .slice A3 s.cs.length c3, .slice A4 s.as_.length c4] 27)).alloc (.cells #[.slice none 0 0, .slice none 0 0, .slice none 0 0, .slice none 0 0] 27)) := ⟨_, rfl⟩
  rw [← hW] at L0 ⊢
  clear hW h hw
  obtain ⟨t0, t1, t2, t3⟩ := L0.out.bx.cells
  obtain ⟨b0, b1, b2, b3⟩ := L0.out.rs.cells
  obtain ⟨f0, f1, f2, f3⟩ := L0.out.rs.free
  have hzb := L0.out.bx.lt
  have hzr := L0.out.rs.lt
  have y0 := L0.out.wd.str_cell 0 MU.wCap rfl
  have y1 := L0.out.wd.str_cell 1 x0 rfl
  go_wp2
  go_loopw [7, 8] (fun kv i wr => ∃ j : Nat, j ≤ s.bs.length ∧ i = .int .i64 j ∧ Hid (LnS w wr B s (.slice A1 s.ps.length c1) (.slice A2 s.bs.length c2) (.slice A3 s.cs.length c3) (.slice A4 s.as_.length c4) (.slice (some ⟨gw, 0, none⟩) 4 cw) [MU.wCap, x0, x1, x2]) ∧ ((kv = .int .i64 (-1) ∧ Hid (∀ (t : Nat) (q : MR.Bd), t < j → s.bs[t]? = some q → q.name ≠ x0)) ∨ (∃ m : Nat, j = m + 1 ∧ kv = .int .i64 m ∧ Hid (MR.findL s.bs x0 = some m)))) (fun _ i _ => s.bs.length - (intOf i).toNat)
  case atStart => exact ⟨0, Nat.zero_le _, rfl, L0, .inl ⟨rfl, Lib.hid (fun t q ht => absurd ht (Nat.not_lt_zero _))⟩⟩
  case round =>
    obtain ⟨j, hj, rfl, L1, hcase⟩ := hrel
    clear L0 t0 t1 t2 t3 b0 b1 b2 b3 f0 f1 f2 f3 y0 y1
    obtain ⟨t0, t1, t2, t3⟩ := L1.out.bx.cells
    obtain ⟨b0, b1, b2, b3⟩ := L1.out.rs.cells
    obtain ⟨f0, f1, f2, f3⟩ := L1.out.rs.free
    have hzb := L1.out.bx.lt
    have hzr := L1.out.rs.lt
    have y0 := L1.out.wd.str_cell 0 MU.wCap rfl
    have y1 := L1.out.wd.str_cell 1 x0 rfl
    rcases hcase with ⟨rfl, HN⟩ | ⟨m, rfl, rfl, HF⟩
    · by_cases hlt : j < s.bs.length
      · obtain ⟨Ab, cb0, hvb, hlb⟩ := L1.out.os.b.form (by omega)
        cases hvb
        obtain ⟨ad, p, rfl, q5, hfi, hbk, n0, n1, n2, n3⟩ := bd_at hlb hlt
        have hcb := hlb.cap
        clear n1 n2 n3 hlb
        by_cases hq : p.name = x0
        · have ht : ((str p.name).toList == (str x0).toList) = true := test_yes (by rw [str_data, str_data, hq])
          have G := Lib.hid (find9_here q5 hq HN.out)
          clear hq q5 HN hbk hfi E
          obtain ⟨pn, ps, pr, pp⟩ := p
          simp only at *
          generalize str pn = sn at *
          go_wp2
          go_quiet (fail)
          go_wp2
          go_roundw
          case rel => exact ⟨j + 1, by omega, by go_num, Lib.hid (L1.out.keep hB (below_drewN (Below.refl _ _) _)), .inr ⟨j, rfl, rfl, G⟩⟩
          case measure => simp [intOf]; omega
        · have ht : ((str p.name).toList == (str x0).toList) = false := test_no (by rw [str_data, str_data]; exact hq)
          have G := Lib.hid (name9_step q5 hq HN.out)
          clear hq q5 HN hbk hfi E
          obtain ⟨pn, ps, pr, pp⟩ := p
          simp only at *
          generalize str pn = sn at *
          go_wp2
          go_quiet (fail)
          go_wp2
          go_roundw
          case rel => exact ⟨j + 1, by omega, by go_num, Lib.hid (L1.out.keep hB (below_drewN (Below.refl _ _) _)), .inl ⟨rfl, G⟩⟩
          case measure => simp [intOf]; omega
      · have hf : MR.findL s.bs x0 = none := find9_not (by omega) HN.out
        obtain ⟨w1, hw1⟩ : ∃ w1, w1 = wr := ⟨_, rfl⟩
        subst hw1
        by_cases hst : x0 = [42]
        · have hv0 : ((MR.findL s.bs x0).map Int.ofNat).getD (-1) = -1 := by rw [hf]; rfl
          rw [if_neg (fun h => h.2 hst), hv0] at E
          have q9 : ((str x0).toList == [42]) = true := word_yes hst
          have hd0 : -1 ≤ (-1 : Int) ∧ (-1 : Int) ≤ 5000 := by omega
          clear hf hv0 hst HN
          go_wp2_with fail
          obtain ⟨AL, cL, hvL, hlL⟩ := L1.out.wd.form (by show 4 ≤ _; decide)
          cases hvL
          refine (rnums_own (some ⟨gw, 0, none⟩) 4 cw 2 [MU.wCap, x0, x1, x2] w1 hlL (by decide) (by decide)).mono ?_
          rintro ev w2 ⟨vn, rfl, hO, hb2⟩
          have L2 := Lib.hid (L1.out.keep hB hb2)
          have HO := Lib.hid hO
          clear L1 hlL hO hb2 t0 t1 t2 t3 b0 b1 b2 b3 f0 f1 f2 f3 y0 y1
          simp only [List.drop_succ_cons, List.drop_zero] at HO ⊢
          have NU := Lib.hid (nums_up [x1, x2]).2
          obtain ⟨t0, t1, t2, t3⟩ := L2.out.bx.cells
          obtain ⟨b0, b1, b2, b3⟩ := L2.out.rs.cells
          obtain ⟨f0, f1, f2, f3⟩ := L2.out.rs.free
          have hzb := L2.out.bx.lt
          have hzr := L2.out.rs.lt
          have y0 := L2.out.wd.str_cell 0 MU.wCap rfl
          by_cases hN : (MU.numsE [x1, x2]).2 = 0
          · have HD := NU.out hN
            rw [if_neg (show ¬ (MU.numsE [x1, x2]).2 ≠ 0 by rw [hN]; simp)] at E
            rw [hN]
            rw [HD] at HO E
            simp only [List.map_cons, List.map_nil] at HO E
            clear NU hN HD
            generalize (MU.digE x1).1 = d1 at *
            generalize (MU.digE x2).1 = d2 at *
            obtain ⟨gn, cn, rfl, hcn, hgn⟩ := HO.out.int_open
            have HX := Lib.hid (show cpE.fine ⟨(-1), d1, d2⟩ from ⟨(by dsimp only; omega), (by dsimp only; omega), (by dsimp only; omega)⟩)
            have ER := Lib.hid (show MU.lineE s [MU.wCap, x0, x1, x2] = ({ s with cs := s.cs ++ [⟨(-1), d1, d2⟩] }, 0) from E.out)
            clear E
            go_wp2
            clear t0 t1 t2 t3 b0 b1 b2 b3 f0 f1 f2 f3 y0 q1 q2 q3 q4
            obtain ⟨w5, hw5⟩ : ∃ w5, w5 = w2.drew := ⟨_, rfl⟩
            have hb5 := below_drawn w2
            rw [← hw5] at hb5
            have HL := Lib.hid (L2.out.keep hB hb5)
            have HWd := Lib.hid HL.out.wd
            have HN := Lib.hid ((HO.out.low0).keep hb5)
            have hszw : w.heap.size < w5.heap.size := HL.out.bx.lt
            clear L2 HO hb5
            have HF5 : w5.cell? ⟨gn, 0, none⟩ = some (.int .i64 d1) ∧ w5.cell? ⟨gn, 1, none⟩ = some (.int .i64 d2) := ⟨HN.out.int_cell 0 d1 rfl, HN.out.int_cell 1 d2 rfl⟩
            rw [hw5] at HF5
            refine wp_region_held_drew (S := fun w' => w'.cell? ⟨gn, 0, none⟩ = some (.int .i64 d1) ∧ w'.cell? ⟨gn, 1, none⟩ = some (.int .i64 d2)) (by kernel_rfl) HF5 (fun hHeld => ?_)
            rw [← hw5] at hHeld ⊢
            clear hw5 HF5
            refine wpAnyH_take (i := 0) (oi := { dst := some 159, op := Op.fieldAddr 27 (Operand.tmp 2) 2, type := 0, pos := "ref.go:288", after := #[], guard := none }) (v := ?_) rfl (by kernel_rfl) (by kernel_rfl) (by kernel_rfl) (fun _ _ _ h => h) (Or.inl ⟨by rfl, ?_⟩) (by assumption) ?_
            rotate_left
            · intro w hSw; (try dsimp only at hSw); obtain ⟨s0, s1⟩ := hSw; go_simp; try with_reducible rfl
            (try simp only [Act.put, List.setIfInBounds_toArray, List.set_cons_zero, List.set_cons_succ])
            refine wpAnyH_take (i := 2) (oi := { dst := some 161, op := Op.move (Operand.tmp 7), type := 3, pos := "ref.go:288", after := #[], guard := none }) (v := ?_) rfl (by kernel_rfl) (by kernel_rfl) (by kernel_rfl) (fun _ _ _ h => h) (Or.inl ⟨by rfl, ?_⟩) (by assumption) ?_
            rotate_left
            · intro w hSw; (try dsimp only at hSw); obtain ⟨s0, s1⟩ := hSw; go_simp; try with_reducible rfl
            (try simp only [Act.put, List.setIfInBounds_toArray, List.set_cons_zero, List.set_cons_succ])
            refine wpAnyH_take (i := 3) (oi := { dst := some 162, op := Op.move (Operand.tmp 11), type := 100, pos := "ref.go:288", after := #[], guard := none }) (v := ?_) rfl (by kernel_rfl) (by kernel_rfl) (by kernel_rfl) (fun _ _ _ h => h) (Or.inl ⟨by rfl, ?_⟩) (by assumption) ?_
            rotate_left
            · intro w hSw; (try dsimp only at hSw); obtain ⟨s0, s1⟩ := hSw; go_simp; try with_reducible rfl
            (try simp only [Act.put, List.setIfInBounds_toArray, List.set_cons_zero, List.set_cons_succ])
            refine wpAnyH_take (i := 4) (oi := { dst := some 163, op := Op.indexAddr 100 (Operand.tmp 162) (Operand.const (Value.int IntKind.i64 0)), type := 0, pos := "ref.go:288", after := #[{ on := 3, ground := Ground.data }], guard := none }) (v := ?_) rfl (by kernel_rfl) (by kernel_rfl) (by kernel_rfl) (fun _ _ _ h => h) (Or.inl ⟨by rfl, ?_⟩) (by assumption) ?_
            rotate_left
            · intro w hSw; (try dsimp only at hSw); obtain ⟨s0, s1⟩ := hSw; go_simp; try with_reducible rfl
            (try simp only [Act.put, List.setIfInBounds_toArray, List.set_cons_zero, List.set_cons_succ])
            refine wpAnyH_take (i := 5) (oi := { dst := some 164, op := Op.load 2 (Operand.tmp 163), type := 2, pos := "ref.go:288", after := #[{ on := 4, ground := Ground.data }], guard := none }) (v := ?_) rfl (by kernel_rfl) (by kernel_rfl) (by kernel_rfl) (fun _ _ _ h => h) (Or.inl ⟨by rfl, ?_⟩) (by assumption) ?_
            rotate_left
            · intro w hSw; (try dsimp only at hSw); obtain ⟨s0, s1⟩ := hSw; go_simp; try with_reducible rfl
            (try simp only [Act.put, List.setIfInBounds_toArray, List.set_cons_zero, List.set_cons_succ])
            refine wpAnyH_take (i := 6) (oi := { dst := some 165, op := Op.move (Operand.tmp 11), type := 100, pos := "ref.go:288", after := #[], guard := none }) (v := ?_) rfl (by kernel_rfl) (by kernel_rfl) (by kernel_rfl) (fun _ _ _ h => h) (Or.inl ⟨by rfl, ?_⟩) (by assumption) ?_
            rotate_left
            · intro w hSw; (try dsimp only at hSw); obtain ⟨s0, s1⟩ := hSw; go_simp; try with_reducible rfl
            (try simp only [Act.put, List.setIfInBounds_toArray, List.set_cons_zero, List.set_cons_succ])
            refine wpAnyH_take (i := 7) (oi := { dst := some 166, op := Op.indexAddr 100 (Operand.tmp 165) (Operand.const (Value.int IntKind.i64 1)), type := 0, pos := "ref.go:288", after := #[{ on := 6, ground := Ground.data }], guard := none }) (v := ?_) rfl (by kernel_rfl) (by kernel_rfl) (by kernel_rfl) (fun _ _ _ h => h) (Or.inl ⟨by rfl, ?_⟩) (by assumption) ?_
            rotate_left
            · intro w hSw; (try dsimp only at hSw); obtain ⟨s0, s1⟩ := hSw; go_simp; try with_reducible rfl
            (try simp only [Act.put, List.setIfInBounds_toArray, List.set_cons_zero, List.set_cons_succ])
            refine wpAnyH_take (i := 8) (oi := { dst := some 167, op := Op.load 2 (Operand.tmp 166), type := 2, pos := "ref.go:288", after := #[{ on := 7, ground := Ground.data }], guard := none }) (v := ?_) rfl (by kernel_rfl) (by kernel_rfl) (by kernel_rfl) (fun _ _ _ h => h) (Or.inl ⟨by rfl, ?_⟩) (by assumption) ?_
            rotate_left
            · intro w hSw; (try dsimp only at hSw); obtain ⟨s0, s1⟩ := hSw; go_simp; try with_reducible rfl
            (try simp only [Act.put, List.setIfInBounds_toArray, List.set_cons_zero, List.set_cons_succ])
            refine wpAnyH_take (i := 9) (oi := { dst := some 168, op := Op.build 66 #[(0, Operand.tmp 161), (1, Operand.tmp 164), (2, Operand.tmp 167)], type := 66, pos := "ref.go:288", after := #[{ on := 2, ground := Ground.data }, { on := 5, ground := Ground.data }, { on := 8, ground := Ground.data }], guard := none }) (v := ?_) rfl (by kernel_rfl) (by kernel_rfl) (by kernel_rfl) (fun _ _ _ h => h) (Or.inl ⟨by rfl, ?_⟩) (by assumption) ?_
            rotate_left
            · intro w hSw; (try dsimp only at hSw); obtain ⟨s0, s1⟩ := hSw; go_simp; try with_reducible rfl
            (try simp only [Act.put, List.setIfInBounds_toArray, List.set_cons_zero, List.set_cons_succ])
            refine wpAnyH_ready (rs := [1, 10]) (by kernel_rfl) (by simp) ?_
            refine AllReadyH.cons (o := { dst := some 160, op := Op.load 24 (Operand.tmp 159), type := 24, pos := "ref.go:288", after := #[{ on := 0, ground := Ground.data }], guard := none }) rfl (fun K hK => ?_) (AllReadyH.cons (o := { dst := some 169, op := Op.buildSlice 24 1 #[(0, Operand.tmp 168)], type := 24, pos := "ref.go:288", after := #[{ on := 9, ground := Ground.data }], guard := none }) rfl (fun K hK => ?_) AllReadyH.nil)
            · obtain ⟨t0, t1, t2, t3⟩ := HL.out.bx.cells
              go_simp
              refine hK.out _ _ ?_ (fun hHeld => ?_)
              · exact ⟨HN.out.int_cell 0 d1 rfl, HN.out.int_cell 1 d2 rfl⟩
              clear t0 t1 t2 t3
              clear hK K
              (try simp only [Act.put, List.setIfInBounds_toArray, List.set_cons_zero, List.set_cons_succ])
              refine wpAnyH_ready (rs := [10]) (by kernel_rfl) (by simp) ?_
              refine AllReadyH.cons (o := { dst := some 169, op := Op.buildSlice 24 1 #[(0, Operand.tmp 168)], type := 24, pos := "ref.go:288", after := #[{ on := 9, ground := Ground.data }], guard := none }) rfl (fun K hK => ?_) AllReadyH.nil
              go_simp
              obtain ⟨W6, hW6⟩ : ∃ W6, W6 = w5.alloc (.cells #[.int .i64 (-1), .int .i64 d1, .int .i64 d2] 66) := ⟨_, rfl⟩
              have NB := Lib.hid (heap_new w5 (.cells #[.int .i64 (-1), .int .i64 d1, .int .i64 d2] 66))
              have hb6 := below_new w5 (.cells #[.int .i64 (-1), .int .i64 d1, .int .i64 d2] 66)
              rw [← hW6] at NB hb6 ⊢
              clear hW6
              replace HL := Lib.hid (HL.out.keep hB hb6)
              replace HWd := Lib.hid (HWd.out.keep hb6)
              replace HN := Lib.hid (HN.out.keep hb6)
              have hsz6 := hb6.size
              clear hb6
              refine hK.out _ _ ?_ (fun hHeld => ?_)
              · exact ⟨HN.out.int_cell 0 d1 rfl, HN.out.int_cell 1 d2 rfl⟩
              clear hK K
              (try simp only [Act.put, List.setIfInBounds_toArray, List.set_cons_zero, List.set_cons_succ])
              refine wpAnyH_ready (rs := [11]) (by kernel_rfl) (by simp) ?_
              refine AllReadyH.cons (o := { dst := some 170, op := Op.call { callee := Callee.builtin Builtin.append, args := #[Operand.tmp 160, Operand.tmp 169], argTypes := #[24, 24] }, type := 24, pos := "ref.go:288", after := #[{ on := 1, ground := Ground.data }, { on := 10, ground := Ground.data }], guard := none }) rfl (fun K hK => ?_) AllReadyH.nil
              refine step_append_lies _ (by rfl) _ _ _ (by rfl) B 66 i0 (.agg #[.int .i64 0, .int .i64 0, .int .i64 0]) 3 24 Tryz.underlying24 hi hz0 hz1 hz2 rfl (by decide) _ _ _ (by rfl) HL.out.os.c.1 ⟨w5.heap.size, 0, none⟩ 1 1 (cpE.cells ⟨(-1), d1, d2⟩) (by rfl) rfl ?c1 ?c2 (by decide) ?c4 ?c5 ?c6 _ rfl ?_
              case c1 => exact World.news_of_block NB.out
              case c2 => exact cpE.one ⟨(-1), d1, d2⟩
              case c4 => unfold maxLen; omega
              case c5 => omega
              case c6 => omega
              intro gg cp w7 hown hgrow hat hlt7
              have T7 := Lib.hid (HL.out.stay2 hgrow)
              have L8 := Lib.hid (HL.out.app2 (x := ⟨(-1), d1, d2⟩) hB HX.out hown hgrow)
              replace HWd := Lib.hid (HL.out.words2 hgrow)
              replace HN := Lib.hid (HL.out.nums2 HN.out hgrow)
              clear hown hgrow hat hlt7
              refine hK.out _ _ ?_ (fun hHeld => ?_)
              · exact ⟨HN.out.int_cell 0 d1 rfl, HN.out.int_cell 1 d2 rfl⟩
              clear hK K
              (try simp only [Act.put, List.setIfInBounds_toArray, List.set_cons_zero, List.set_cons_succ])
              refine wpAnyH_take (i := 12) (oi := { dst := some 171, op := Op.fieldAddr 27 (Operand.tmp 2) 2, type := 0, pos := "ref.go:288", after := #[{ on := 0, ground := Ground.phase }, { on := 1, ground := Ground.phase }, { on := 2, ground := Ground.phase }, { on := 3, ground := Ground.phase }, { on := 4, ground := Ground.phase }, { on := 5, ground := Ground.phase }, { on := 6, ground := Ground.phase }, { on := 7, ground := Ground.phase }, { on := 8, ground := Ground.phase }, { on := 9, ground := Ground.phase }, { on := 10, ground := Ground.phase }, { on := 11, ground := Ground.phase }], guard := none }) (v := ?_) rfl (by kernel_rfl) (by kernel_rfl) (by kernel_rfl) (fun _ _ _ h => h) (Or.inl ⟨by rfl, ?_⟩) (by assumption) ?_
              rotate_left
              · intro w hSw; (try dsimp only at hSw); obtain ⟨s0, s1⟩ := hSw; go_simp; try with_reducible rfl
              (try simp only [Act.put, List.setIfInBounds_toArray, List.set_cons_zero, List.set_cons_succ])
              refine wpAnyH_ready (rs := [13]) (by kernel_rfl) (by simp) ?_
              refine AllReadyH.cons (o := { dst := none, op := Op.store 24 (Operand.tmp 171) (Operand.tmp 170), type := 0, pos := "ref.go:288", after := #[{ on := 12, ground := Ground.data }, { on := 11, ground := Ground.data }, { on := 11, ground := Ground.chain }, { on := 0, ground := Ground.phase }, { on := 1, ground := Ground.phase }, { on := 2, ground := Ground.phase }, { on := 3, ground := Ground.phase }, { on := 4, ground := Ground.phase }, { on := 5, ground := Ground.phase }, { on := 6, ground := Ground.phase }, { on := 7, ground := Ground.phase }, { on := 8, ground := Ground.phase }, { on := 9, ground := Ground.phase }, { on := 10, ground := Ground.phase }, { on := 11, ground := Ground.phase }], guard := none }) rfl (fun K hK => ?_) AllReadyH.nil
              obtain ⟨t0, t1, t2, t3⟩ := T7.out.cells
              obtain ⟨f0, f1, f2, f3⟩ := T7.out.free
              have hzz := T7.out.lt
              go_simp
              replace HN := Lib.hid (HN.out.turn (g_set w7 w.heap.size 2 (.slice (some ⟨gg, 0, none⟩) (s.cs.length + 1) cp)) (HN.out.ne T7.out (by decide)))
              replace HWd := Lib.hid L8.out.wd
              refine hK.out _ _ ?_ (fun hHeld => ?_)
              · exact ⟨HN.out.int_cell 0 d1 rfl, HN.out.int_cell 1 d2 rfl⟩
              clear t0 t1 t2 t3 f0 f1 f2 f3
              clear hK K
              (try simp only [Act.put, List.setIfInBounds_toArray, List.set_cons_zero, List.set_cons_succ])
              refine wpAnyH_done (by kernel_rfl) ?_ _
              obtain ⟨W8, hW8⟩ : ∃ W8, W8 = w7.setCell ⟨w.heap.size, 2, none⟩ (.slice (some ⟨gg, 0, none⟩) (s.cs.length + 1) cp) := ⟨_, rfl⟩
              rw [← hW8] at L8 ⊢
              clear hW8 HWd HN T7 HL NB
              obtain ⟨t0, t1, t2, t3⟩ := L8.out.bx.cells
              obtain ⟨b0, b1, b2, b3⟩ := L8.out.rs.cells
              obtain ⟨f0, f1, f2, f3⟩ := L8.out.rs.free
              have hzb := L8.out.bx.lt
              have hzr := L8.out.rs.lt
              have R := Lib.hid (L8.out.fin hB ER.out)
              have R5 := Lib.hid (L8.out.rs.put4 (.slice A1 s.ps.length c1) (.slice A2 s.bs.length c2) (.slice (some ⟨gg, 0, none⟩) (s.cs.length + 1) cp) (.slice A4 s.as_.length c4))
              clear L8
              go_wp2
              obtain ⟨W5, hW5⟩ : ∃ W5, W5 = ((((W8.setCell ⟨w.heap.size + 1, 0, none⟩ (.slice A1 s.ps.length c1)).setCell ⟨w.heap.size + 1, 1, none⟩ (.slice A2 s.bs.length c2)).setCell ⟨w.heap.size + 1, 2, none⟩ (.slice (some ⟨gg, 0, none⟩) (s.cs.length + 1) cp)).setCell ⟨w.heap.size + 1, 3, none⟩ (.slice A4 s.as_.length c4)) := ⟨_, rfl⟩
              rw [← hW5] at R R5 ⊢
              clear t0 t1 t2 t3 b0 b1 b2 b3 f0 f1 f2 f3 hW5
              obtain ⟨b0, b1, b2, b3⟩ := R5.out.cells
              refine bodyPost_ret (v := .tuple #[.agg #[.slice A1 s.ps.length c1, .slice A2 s.bs.length c2, .slice (some ⟨gg, 0, none⟩) (s.cs.length + 1) cp, .slice A4 s.as_.length c4], .int .i64 0]) (by simp [results, Tryz.results32, go_sem, b0, b1, b2, b3]) rfl ?_
              exact R.out
            · go_simp
              obtain ⟨W6, hW6⟩ : ∃ W6, W6 = w5.alloc (.cells #[.int .i64 (-1), .int .i64 d1, .int .i64 d2] 66) := ⟨_, rfl⟩
              have NB := Lib.hid (heap_new w5 (.cells #[.int .i64 (-1), .int .i64 d1, .int .i64 d2] 66))
              have hb6 := below_new w5 (.cells #[.int .i64 (-1), .int .i64 d1, .int .i64 d2] 66)
              rw [← hW6] at NB hb6 ⊢
              clear hW6
              replace HL := Lib.hid (HL.out.keep hB hb6)
              replace HWd := Lib.hid (HWd.out.keep hb6)
              replace HN := Lib.hid (HN.out.keep hb6)
              have hsz6 := hb6.size
              clear hb6
              refine hK.out _ _ ?_ (fun hHeld => ?_)
              · exact ⟨HN.out.int_cell 0 d1 rfl, HN.out.int_cell 1 d2 rfl⟩
              clear hK K
              (try simp only [Act.put, List.setIfInBounds_toArray, List.set_cons_zero, List.set_cons_succ])
              refine wpAnyH_ready (rs := [1]) (by kernel_rfl) (by simp) ?_
              refine AllReadyH.cons (o := { dst := some 160, op := Op.load 24 (Operand.tmp 159), type := 24, pos := "ref.go:288", after := #[{ on := 0, ground := Ground.data }], guard := none }) rfl (fun K hK => ?_) AllReadyH.nil
              obtain ⟨t0, t1, t2, t3⟩ := HL.out.bx.cells
              go_simp
              refine hK.out _ _ ?_ (fun hHeld => ?_)
              · exact ⟨HN.out.int_cell 0 d1 rfl, HN.out.int_cell 1 d2 rfl⟩
              clear t0 t1 t2 t3
              clear hK K
              (try simp only [Act.put, List.setIfInBounds_toArray, List.set_cons_zero, List.set_cons_succ])
              refine wpAnyH_ready (rs := [11]) (by kernel_rfl) (by simp) ?_
              refine AllReadyH.cons (o := { dst := some 170, op := Op.call { callee := Callee.builtin Builtin.append, args := #[Operand.tmp 160, Operand.tmp 169], argTypes := #[24, 24] }, type := 24, pos := "ref.go:288", after := #[{ on := 1, ground := Ground.data }, { on := 10, ground := Ground.data }], guard := none }) rfl (fun K hK => ?_) AllReadyH.nil
              refine step_append_lies _ (by rfl) _ _ _ (by rfl) B 66 i0 (.agg #[.int .i64 0, .int .i64 0, .int .i64 0]) 3 24 Tryz.underlying24 hi hz0 hz1 hz2 rfl (by decide) _ _ _ (by rfl) HL.out.os.c.1 ⟨w5.heap.size, 0, none⟩ 1 1 (cpE.cells ⟨(-1), d1, d2⟩) (by rfl) rfl ?c1 ?c2 (by decide) ?c4 ?c5 ?c6 _ rfl ?_
              case c1 => exact World.news_of_block NB.out
              case c2 => exact cpE.one ⟨(-1), d1, d2⟩
              case c4 => unfold maxLen; omega
              case c5 => omega
              case c6 => omega
              intro gg cp w7 hown hgrow hat hlt7
              have T7 := Lib.hid (HL.out.stay2 hgrow)
              have L8 := Lib.hid (HL.out.app2 (x := ⟨(-1), d1, d2⟩) hB HX.out hown hgrow)
              replace HWd := Lib.hid (HL.out.words2 hgrow)
              replace HN := Lib.hid (HL.out.nums2 HN.out hgrow)
              clear hown hgrow hat hlt7
              refine hK.out _ _ ?_ (fun hHeld => ?_)
              · exact ⟨HN.out.int_cell 0 d1 rfl, HN.out.int_cell 1 d2 rfl⟩
              clear hK K
              (try simp only [Act.put, List.setIfInBounds_toArray, List.set_cons_zero, List.set_cons_succ])
              refine wpAnyH_take (i := 12) (oi := { dst := some 171, op := Op.fieldAddr 27 (Operand.tmp 2) 2, type := 0, pos := "ref.go:288", after := #[{ on := 0, ground := Ground.phase }, { on := 1, ground := Ground.phase }, { on := 2, ground := Ground.phase }, { on := 3, ground := Ground.phase }, { on := 4, ground := Ground.phase }, { on := 5, ground := Ground.phase }, { on := 6, ground := Ground.phase }, { on := 7, ground := Ground.phase }, { on := 8, ground := Ground.phase }, { on := 9, ground := Ground.phase }, { on := 10, ground := Ground.phase }, { on := 11, ground := Ground.phase }], guard := none }) (v := ?_) rfl (by kernel_rfl) (by kernel_rfl) (by kernel_rfl) (fun _ _ _ h => h) (Or.inl ⟨by rfl, ?_⟩) (by assumption) ?_
              rotate_left
              · intro w hSw; (try dsimp only at hSw); obtain ⟨s0, s1⟩ := hSw; go_simp; try with_reducible rfl
              (try simp only [Act.put, List.setIfInBounds_toArray, List.set_cons_zero, List.set_cons_succ])
              refine wpAnyH_ready (rs := [13]) (by kernel_rfl) (by simp) ?_
              refine AllReadyH.cons (o := { dst := none, op := Op.store 24 (Operand.tmp 171) (Operand.tmp 170), type := 0, pos := "ref.go:288", after := #[{ on := 12, ground := Ground.data }, { on := 11, ground := Ground.data }, { on := 11, ground := Ground.chain }, { on := 0, ground := Ground.phase }, { on := 1, ground := Ground.phase }, { on := 2, ground := Ground.phase }, { on := 3, ground := Ground.phase }, { on := 4, ground := Ground.phase }, { on := 5, ground := Ground.phase }, { on := 6, ground := Ground.phase }, { on := 7, ground := Ground.phase }, { on := 8, ground := Ground.phase }, { on := 9, ground := Ground.phase }, { on := 10, ground := Ground.phase }, { on := 11, ground := Ground.phase }], guard := none }) rfl (fun K hK => ?_) AllReadyH.nil
              obtain ⟨t0, t1, t2, t3⟩ := T7.out.cells
              obtain ⟨f0, f1, f2, f3⟩ := T7.out.free
              have hzz := T7.out.lt
              go_simp
              replace HN := Lib.hid (HN.out.turn (g_set w7 w.heap.size 2 (.slice (some ⟨gg, 0, none⟩) (s.cs.length + 1) cp)) (HN.out.ne T7.out (by decide)))
              replace HWd := Lib.hid L8.out.wd
              refine hK.out _ _ ?_ (fun hHeld => ?_)
              · exact ⟨HN.out.int_cell 0 d1 rfl, HN.out.int_cell 1 d2 rfl⟩
              clear t0 t1 t2 t3 f0 f1 f2 f3
              clear hK K
              (try simp only [Act.put, List.setIfInBounds_toArray, List.set_cons_zero, List.set_cons_succ])
              refine wpAnyH_done (by kernel_rfl) ?_ _
              obtain ⟨W8, hW8⟩ : ∃ W8, W8 = w7.setCell ⟨w.heap.size, 2, none⟩ (.slice (some ⟨gg, 0, none⟩) (s.cs.length + 1) cp) := ⟨_, rfl⟩
              rw [← hW8] at L8 ⊢
              clear hW8 HWd HN T7 HL NB
              obtain ⟨t0, t1, t2, t3⟩ := L8.out.bx.cells
              obtain ⟨b0, b1, b2, b3⟩ := L8.out.rs.cells
              obtain ⟨f0, f1, f2, f3⟩ := L8.out.rs.free
              have hzb := L8.out.bx.lt
              have hzr := L8.out.rs.lt
              have R := Lib.hid (L8.out.fin hB ER.out)
              have R5 := Lib.hid (L8.out.rs.put4 (.slice A1 s.ps.length c1) (.slice A2 s.bs.length c2) (.slice (some ⟨gg, 0, none⟩) (s.cs.length + 1) cp) (.slice A4 s.as_.length c4))
              clear L8
              go_wp2
              obtain ⟨W5, hW5⟩ : ∃ W5, W5 = ((((W8.setCell ⟨w.heap.size + 1, 0, none⟩ (.slice A1 s.ps.length c1)).setCell ⟨w.heap.size + 1, 1, none⟩ (.slice A2 s.bs.length c2)).setCell ⟨w.heap.size + 1, 2, none⟩ (.slice (some ⟨gg, 0, none⟩) (s.cs.length + 1) cp)).setCell ⟨w.heap.size + 1, 3, none⟩ (.slice A4 s.as_.length c4)) := ⟨_, rfl⟩
              rw [← hW5] at R R5 ⊢
              clear t0 t1 t2 t3 b0 b1 b2 b3 f0 f1 f2 f3 hW5
              obtain ⟨b0, b1, b2, b3⟩ := R5.out.cells
              refine bodyPost_ret (v := .tuple #[.agg #[.slice A1 s.ps.length c1, .slice A2 s.bs.length c2, .slice (some ⟨gg, 0, none⟩) (s.cs.length + 1) cp, .slice A4 s.as_.length c4], .int .i64 0]) (by simp [results, Tryz.results32, go_sem, b0, b1, b2, b3]) rfl ?_
              exact R.out
          · have hk' : ((MU.numsE [x1, x2]).2 != 0) = true := bne_iff_ne.2 hN
            rw [if_pos hN] at E
            clear NU HO
            generalize (MU.numsE [x1, x2]).2 = kk at *
            have R := Lib.hid (L2.out.fin hB E.out)
            have R5 := Lib.hid (L2.out.rs.put4 (.slice A1 s.ps.length c1) (.slice A2 s.bs.length c2) (.slice A3 s.cs.length c3) (.slice A4 s.as_.length c4))
            clear L2
            go_wp2
            obtain ⟨W5, hW5⟩ : ∃ W5, W5 = ((((w2.setCell ⟨w.heap.size + 1, 0, none⟩ (.slice A1 s.ps.length c1)).setCell ⟨w.heap.size + 1, 1, none⟩ (.slice A2 s.bs.length c2)).setCell ⟨w.heap.size + 1, 2, none⟩ (.slice A3 s.cs.length c3)).setCell ⟨w.heap.size + 1, 3, none⟩ (.slice A4 s.as_.length c4)) := ⟨_, rfl⟩
            rw [← hW5] at R R5 ⊢
            clear t0 t1 t2 t3 b0 b1 b2 b3 f0 f1 f2 f3 hW5
            obtain ⟨b0, b1, b2, b3⟩ := R5.out.cells
            refine bodyPost_ret (v := .tuple #[.agg #[.slice A1 s.ps.length c1, .slice A2 s.bs.length c2, .slice A3 s.cs.length c3, .slice A4 s.as_.length c4], .int .i64 kk]) (by simp [results, Tryz.results32, go_sem, b0, b1, b2, b3]) rfl ?_
            exact R.out
        · rw [if_pos ⟨hf, hst⟩] at E
          have q9 : ((str x0).toList == [42]) = false := word_no hst
          clear hf hst HN
          have R := Lib.hid (L1.out.fin hB E.out)
          have R5 := Lib.hid (L1.out.rs.put4 (.slice A1 s.ps.length c1) (.slice A2 s.bs.length c2) (.slice A3 s.cs.length c3) (.slice A4 s.as_.length c4))
          clear L1
          go_wp2
          obtain ⟨W5, hW5⟩ : ∃ W5, W5 = ((((w1.setCell ⟨w.heap.size + 1, 0, none⟩ (.slice A1 s.ps.length c1)).setCell ⟨w.heap.size + 1, 1, none⟩ (.slice A2 s.bs.length c2)).setCell ⟨w.heap.size + 1, 2, none⟩ (.slice A3 s.cs.length c3)).setCell ⟨w.heap.size + 1, 3, none⟩ (.slice A4 s.as_.length c4)) := ⟨_, rfl⟩
          rw [← hW5] at R R5 ⊢
          clear t0 t1 t2 t3 b0 b1 b2 b3 f0 f1 f2 f3 hW5
          obtain ⟨b0, b1, b2, b3⟩ := R5.out.cells
          refine bodyPost_ret (v := .tuple #[.agg #[.slice A1 s.ps.length c1, .slice A2 s.bs.length c2, .slice A3 s.cs.length c3, .slice A4 s.as_.length c4], .int .i64 6]) (by simp [results, Tryz.results32, go_sem, b0, b1, b2, b3]) rfl ?_
          exact R.out
    · have hf := HF.out
      have hv0 : ((MR.findL s.bs x0).map Int.ofNat).getD (-1) = (m : Int) := by rw [hf]; rfl
      rw [if_neg (fun h => by rw [hf] at h; cases h.1), hv0] at E
      have hm0 : ¬ ((m : Int) < 0) := by omega
      have hd0 : -1 ≤ (m : Int) ∧ (m : Int) ≤ 5000 := by omega
      clear hf hv0 HF
      obtain ⟨w1, hw1⟩ : ∃ w1, w1 = wr := ⟨_, rfl⟩
      subst hw1
      by_cases hlt : m + 1 < s.bs.length
      · clear hj
        go_wp2_with fail
        obtain ⟨AL, cL, hvL, hlL⟩ := L1.out.wd.form (by show 4 ≤ _; decide)
        cases hvL
        refine (rnums_own (some ⟨gw, 0, none⟩) 4 cw 2 [MU.wCap, x0, x1, x2] w1 hlL (by decide) (by decide)).mono ?_
        rintro ev w2 ⟨vn, rfl, hO, hb2⟩
        have L2 := Lib.hid (L1.out.keep hB hb2)
        have HO := Lib.hid hO
        clear L1 hlL hO hb2 t0 t1 t2 t3 b0 b1 b2 b3 f0 f1 f2 f3 y0 y1
        simp only [List.drop_succ_cons, List.drop_zero] at HO ⊢
        have NU := Lib.hid (nums_up [x1, x2]).2
        obtain ⟨t0, t1, t2, t3⟩ := L2.out.bx.cells
        obtain ⟨b0, b1, b2, b3⟩ := L2.out.rs.cells
        obtain ⟨f0, f1, f2, f3⟩ := L2.out.rs.free
        have hzb := L2.out.bx.lt
        have hzr := L2.out.rs.lt
        have y0 := L2.out.wd.str_cell 0 MU.wCap rfl
        by_cases hN : (MU.numsE [x1, x2]).2 = 0
        · have HD := NU.out hN
          rw [if_neg (show ¬ (MU.numsE [x1, x2]).2 ≠ 0 by rw [hN]; simp)] at E
          rw [hN]
          rw [HD] at HO E
          simp only [List.map_cons, List.map_nil] at HO E
          clear NU hN HD
          generalize (MU.digE x1).1 = d1 at *
          generalize (MU.digE x2).1 = d2 at *
          obtain ⟨gn, cn, rfl, hcn, hgn⟩ := HO.out.int_open
          have HX := Lib.hid (show cpE.fine ⟨(m : Int), d1, d2⟩ from ⟨(by dsimp only; omega), (by dsimp only; omega), (by dsimp only; omega)⟩)
          have ER := Lib.hid (show MU.lineE s [MU.wCap, x0, x1, x2] = ({ s with cs := s.cs ++ [⟨(m : Int), d1, d2⟩] }, 0) from E.out)
          clear E
          go_wp2
          clear t0 t1 t2 t3 b0 b1 b2 b3 f0 f1 f2 f3 y0 q1 q2 q3 q4
          obtain ⟨w5, hw5⟩ : ∃ w5, w5 = w2.drew := ⟨_, rfl⟩
          have hb5 := below_drawn w2
          rw [← hw5] at hb5
          have HL := Lib.hid (L2.out.keep hB hb5)
          have HWd := Lib.hid HL.out.wd
          have HN := Lib.hid ((HO.out.low0).keep hb5)
          have hszw : w.heap.size < w5.heap.size := HL.out.bx.lt
          clear L2 HO hb5
          have HF5 : w5.cell? ⟨gn, 0, none⟩ = some (.int .i64 d1) ∧ w5.cell? ⟨gn, 1, none⟩ = some (.int .i64 d2) := ⟨HN.out.int_cell 0 d1 rfl, HN.out.int_cell 1 d2 rfl⟩
          rw [hw5] at HF5
          refine wp_region_held_drew (S := fun w' => w'.cell? ⟨gn, 0, none⟩ = some (.int .i64 d1) ∧ w'.cell? ⟨gn, 1, none⟩ = some (.int .i64 d2)) (by kernel_rfl) HF5 (fun hHeld => ?_)
          rw [← hw5] at hHeld ⊢
          clear hw5 HF5
          refine wpAnyH_take (i := 0) (oi := { dst := some 159, op := Op.fieldAddr 27 (Operand.tmp 2) 2, type := 0, pos := "ref.go:288", after := #[], guard := none }) (v := ?_) rfl (by kernel_rfl) (by kernel_rfl) (by kernel_rfl) (fun _ _ _ h => h) (Or.inl ⟨by rfl, ?_⟩) (by assumption) ?_
          rotate_left
          · intro w hSw; (try dsimp only at hSw); obtain ⟨s0, s1⟩ := hSw; go_simp; try with_reducible rfl
          (try simp only [Act.put, List.setIfInBounds_toArray, List.set_cons_zero, List.set_cons_succ])
          refine wpAnyH_take (i := 2) (oi := { dst := some 161, op := Op.move (Operand.tmp 7), type := 3, pos := "ref.go:288", after := #[], guard := none }) (v := ?_) rfl (by kernel_rfl) (by kernel_rfl) (by kernel_rfl) (fun _ _ _ h => h) (Or.inl ⟨by rfl, ?_⟩) (by assumption) ?_
          rotate_left
          · intro w hSw; (try dsimp only at hSw); obtain ⟨s0, s1⟩ := hSw; go_simp; try with_reducible rfl
          (try simp only [Act.put, List.setIfInBounds_toArray, List.set_cons_zero, List.set_cons_succ])
          refine wpAnyH_take (i := 3) (oi := { dst := some 162, op := Op.move (Operand.tmp 11), type := 100, pos := "ref.go:288", after := #[], guard := none }) (v := ?_) rfl (by kernel_rfl) (by kernel_rfl) (by kernel_rfl) (fun _ _ _ h => h) (Or.inl ⟨by rfl, ?_⟩) (by assumption) ?_
          rotate_left
          · intro w hSw; (try dsimp only at hSw); obtain ⟨s0, s1⟩ := hSw; go_simp; try with_reducible rfl
          (try simp only [Act.put, List.setIfInBounds_toArray, List.set_cons_zero, List.set_cons_succ])
          refine wpAnyH_take (i := 4) (oi := { dst := some 163, op := Op.indexAddr 100 (Operand.tmp 162) (Operand.const (Value.int IntKind.i64 0)), type := 0, pos := "ref.go:288", after := #[{ on := 3, ground := Ground.data }], guard := none }) (v := ?_) rfl (by kernel_rfl) (by kernel_rfl) (by kernel_rfl) (fun _ _ _ h => h) (Or.inl ⟨by rfl, ?_⟩) (by assumption) ?_
          rotate_left
          · intro w hSw; (try dsimp only at hSw); obtain ⟨s0, s1⟩ := hSw; go_simp; try with_reducible rfl
          (try simp only [Act.put, List.setIfInBounds_toArray, List.set_cons_zero, List.set_cons_succ])
          refine wpAnyH_take (i := 5) (oi := { dst := some 164, op := Op.load 2 (Operand.tmp 163), type := 2, pos := "ref.go:288", after := #[{ on := 4, ground := Ground.data }], guard := none }) (v := ?_) rfl (by kernel_rfl) (by kernel_rfl) (by kernel_rfl) (fun _ _ _ h => h) (Or.inl ⟨by rfl, ?_⟩) (by assumption) ?_
          rotate_left
          · intro w hSw; (try dsimp only at hSw); obtain ⟨s0, s1⟩ := hSw; go_simp; try with_reducible rfl
          (try simp only [Act.put, List.setIfInBounds_toArray, List.set_cons_zero, List.set_cons_succ])
          refine wpAnyH_take (i := 6) (oi := { dst := some 165, op := Op.move (Operand.tmp 11), type := 100, pos := "ref.go:288", after := #[], guard := none }) (v := ?_) rfl (by kernel_rfl) (by kernel_rfl) (by kernel_rfl) (fun _ _ _ h => h) (Or.inl ⟨by rfl, ?_⟩) (by assumption) ?_
          rotate_left
          · intro w hSw; (try dsimp only at hSw); obtain ⟨s0, s1⟩ := hSw; go_simp; try with_reducible rfl
          (try simp only [Act.put, List.setIfInBounds_toArray, List.set_cons_zero, List.set_cons_succ])
          refine wpAnyH_take (i := 7) (oi := { dst := some 166, op := Op.indexAddr 100 (Operand.tmp 165) (Operand.const (Value.int IntKind.i64 1)), type := 0, pos := "ref.go:288", after := #[{ on := 6, ground := Ground.data }], guard := none }) (v := ?_) rfl (by kernel_rfl) (by kernel_rfl) (by kernel_rfl) (fun _ _ _ h => h) (Or.inl ⟨by rfl, ?_⟩) (by assumption) ?_
          rotate_left
          · intro w hSw; (try dsimp only at hSw); obtain ⟨s0, s1⟩ := hSw; go_simp; try with_reducible rfl
          (try simp only [Act.put, List.setIfInBounds_toArray, List.set_cons_zero, List.set_cons_succ])
          refine wpAnyH_take (i := 8) (oi := { dst := some 167, op := Op.load 2 (Operand.tmp 166), type := 2, pos := "ref.go:288", after := #[{ on := 7, ground := Ground.data }], guard := none }) (v := ?_) rfl (by kernel_rfl) (by kernel_rfl) (by kernel_rfl) (fun _ _ _ h => h) (Or.inl ⟨by rfl, ?_⟩) (by assumption) ?_
          rotate_left
          · intro w hSw; (try dsimp only at hSw); obtain ⟨s0, s1⟩ := hSw; go_simp; try with_reducible rfl
          (try simp only [Act.put, List.setIfInBounds_toArray, List.set_cons_zero, List.set_cons_succ])
          refine wpAnyH_take (i := 9) (oi := { dst := some 168, op := Op.build 66 #[(0, Operand.tmp 161), (1, Operand.tmp 164), (2, Operand.tmp 167)], type := 66, pos := "ref.go:288", after := #[{ on := 2, ground := Ground.data }, { on := 5, ground := Ground.data }, { on := 8, ground := Ground.data }], guard := none }) (v := ?_) rfl (by kernel_rfl) (by kernel_rfl) (by kernel_rfl) (fun _ _ _ h => h) (Or.inl ⟨by rfl, ?_⟩) (by assumption) ?_
          rotate_left
          · intro w hSw; (try dsimp only at hSw); obtain ⟨s0, s1⟩ := hSw; go_simp; try with_reducible rfl
          (try simp only [Act.put, List.setIfInBounds_toArray, List.set_cons_zero, List.set_cons_succ])
          refine wpAnyH_ready (rs := [1, 10]) (by kernel_rfl) (by simp) ?_
          refine AllReadyH.cons (o := { dst := some 160, op := Op.load 24 (Operand.tmp 159), type := 24, pos := "ref.go:288", after := #[{ on := 0, ground := Ground.data }], guard := none }) rfl (fun K hK => ?_) (AllReadyH.cons (o := { dst := some 169, op := Op.buildSlice 24 1 #[(0, Operand.tmp 168)], type := 24, pos := "ref.go:288", after := #[{ on := 9, ground := Ground.data }], guard := none }) rfl (fun K hK => ?_) AllReadyH.nil)
          · obtain ⟨t0, t1, t2, t3⟩ := HL.out.bx.cells
            go_simp
            refine hK.out _ _ ?_ (fun hHeld => ?_)
            · exact ⟨HN.out.int_cell 0 d1 rfl, HN.out.int_cell 1 d2 rfl⟩
            clear t0 t1 t2 t3
            clear hK K
            (try simp only [Act.put, List.setIfInBounds_toArray, List.set_cons_zero, List.set_cons_succ])
            refine wpAnyH_ready (rs := [10]) (by kernel_rfl) (by simp) ?_
            refine AllReadyH.cons (o := { dst := some 169, op := Op.buildSlice 24 1 #[(0, Operand.tmp 168)], type := 24, pos := "ref.go:288", after := #[{ on := 9, ground := Ground.data }], guard := none }) rfl (fun K hK => ?_) AllReadyH.nil
            go_simp
            obtain ⟨W6, hW6⟩ : ∃ W6, W6 = w5.alloc (.cells #[.int .i64 (m : Int), .int .i64 d1, .int .i64 d2] 66) := ⟨_, rfl⟩
            have NB := Lib.hid (heap_new w5 (.cells #[.int .i64 (m : Int), .int .i64 d1, .int .i64 d2] 66))
            have hb6 := below_new w5 (.cells #[.int .i64 (m : Int), .int .i64 d1, .int .i64 d2] 66)
            rw [← hW6] at NB hb6 ⊢
            clear hW6
            replace HL := Lib.hid (HL.out.keep hB hb6)
            replace HWd := Lib.hid (HWd.out.keep hb6)
            replace HN := Lib.hid (HN.out.keep hb6)
            have hsz6 := hb6.size
            clear hb6
            refine hK.out _ _ ?_ (fun hHeld => ?_)
            · exact ⟨HN.out.int_cell 0 d1 rfl, HN.out.int_cell 1 d2 rfl⟩
            clear hK K
            (try simp only [Act.put, List.setIfInBounds_toArray, List.set_cons_zero, List.set_cons_succ])
            refine wpAnyH_ready (rs := [11]) (by kernel_rfl) (by simp) ?_
            refine AllReadyH.cons (o := { dst := some 170, op := Op.call { callee := Callee.builtin Builtin.append, args := #[Operand.tmp 160, Operand.tmp 169], argTypes := #[24, 24] }, type := 24, pos := "ref.go:288", after := #[{ on := 1, ground := Ground.data }, { on := 10, ground := Ground.data }], guard := none }) rfl (fun K hK => ?_) AllReadyH.nil
            refine step_append_lies _ (by rfl) _ _ _ (by rfl) B 66 i0 (.agg #[.int .i64 0, .int .i64 0, .int .i64 0]) 3 24 Tryz.underlying24 hi hz0 hz1 hz2 rfl (by decide) _ _ _ (by rfl) HL.out.os.c.1 ⟨w5.heap.size, 0, none⟩ 1 1 (cpE.cells ⟨(m : Int), d1, d2⟩) (by rfl) rfl ?c1 ?c2 (by decide) ?c4 ?c5 ?c6 _ rfl ?_
            case c1 => exact World.news_of_block NB.out
            case c2 => exact cpE.one ⟨(m : Int), d1, d2⟩
            case c4 => unfold maxLen; omega
            case c5 => omega
            case c6 => omega
            intro gg cp w7 hown hgrow hat hlt7
            have T7 := Lib.hid (HL.out.stay2 hgrow)
            have L8 := Lib.hid (HL.out.app2 (x := ⟨(m : Int), d1, d2⟩) hB HX.out hown hgrow)
            replace HWd := Lib.hid (HL.out.words2 hgrow)
            replace HN := Lib.hid (HL.out.nums2 HN.out hgrow)
            clear hown hgrow hat hlt7
            refine hK.out _ _ ?_ (fun hHeld => ?_)
            · exact ⟨HN.out.int_cell 0 d1 rfl, HN.out.int_cell 1 d2 rfl⟩
            clear hK K
            (try simp only [Act.put, List.setIfInBounds_toArray, List.set_cons_zero, List.set_cons_succ])
            refine wpAnyH_take (i := 12) (oi := { dst := some 171, op := Op.fieldAddr 27 (Operand.tmp 2) 2, type := 0, pos := "ref.go:288", after := #[{ on := 0, ground := Ground.phase }, { on := 1, ground := Ground.phase }, { on := 2, ground := Ground.phase }, { on := 3, ground := Ground.phase }, { on := 4, ground := Ground.phase }, { on := 5, ground := Ground.phase }, { on := 6, ground := Ground.phase }, { on := 7, ground := Ground.phase }, { on := 8, ground := Ground.phase }, { on := 9, ground := Ground.phase }, { on := 10, ground := Ground.phase }, { on := 11, ground := Ground.phase }], guard := none }) (v := ?_) rfl (by kernel_rfl) (by kernel_rfl) (by kernel_rfl) (fun _ _ _ h => h) (Or.inl ⟨by rfl, ?_⟩) (by assumption) ?_
            rotate_left
            · intro w hSw; (try dsimp only at hSw); obtain ⟨s0, s1⟩ := hSw; go_simp; try with_reducible rfl
            (try simp only [Act.put, List.setIfInBounds_toArray, List.set_cons_zero, List.set_cons_succ])
            refine wpAnyH_ready (rs := [13]) (by kernel_rfl) (by simp) ?_
            refine AllReadyH.cons (o := { dst := none, op := Op.store 24 (Operand.tmp 171) (Operand.tmp 170), type := 0, pos := "ref.go:288", after := #[{ on := 12, ground := Ground.data }, { on := 11, ground := Ground.data }, { on := 11, ground := Ground.chain }, { on := 0, ground := Ground.phase }, { on := 1, ground := Ground.phase }, { on := 2, ground := Ground.phase }, { on := 3, ground := Ground.phase }, { on := 4, ground := Ground.phase }, { on := 5, ground := Ground.phase }, { on := 6, ground := Ground.phase }, { on := 7, ground := Ground.phase }, { on := 8, ground := Ground.phase }, { on := 9, ground := Ground.phase }, { on := 10, ground := Ground.phase }, { on := 11, ground := Ground.phase }], guard := none }) rfl (fun K hK => ?_) AllReadyH.nil
            obtain ⟨t0, t1, t2, t3⟩ := T7.out.cells
            obtain ⟨f0, f1, f2, f3⟩ := T7.out.free
            have hzz := T7.out.lt
            go_simp
            replace HN := Lib.hid (HN.out.turn (g_set w7 w.heap.size 2 (.slice (some ⟨gg, 0, none⟩) (s.cs.length + 1) cp)) (HN.out.ne T7.out (by decide)))
            replace HWd := Lib.hid L8.out.wd
            refine hK.out _ _ ?_ (fun hHeld => ?_)
            · exact ⟨HN.out.int_cell 0 d1 rfl, HN.out.int_cell 1 d2 rfl⟩
            clear t0 t1 t2 t3 f0 f1 f2 f3
            clear hK K
            (try simp only [Act.put, List.setIfInBounds_toArray, List.set_cons_zero, List.set_cons_succ])
            refine wpAnyH_done (by kernel_rfl) ?_ _
            obtain ⟨W8, hW8⟩ : ∃ W8, W8 = w7.setCell ⟨w.heap.size, 2, none⟩ (.slice (some ⟨gg, 0, none⟩) (s.cs.length + 1) cp) := ⟨_, rfl⟩
            rw [← hW8] at L8 ⊢
            clear hW8 HWd HN T7 HL NB
            obtain ⟨t0, t1, t2, t3⟩ := L8.out.bx.cells
            obtain ⟨b0, b1, b2, b3⟩ := L8.out.rs.cells
            obtain ⟨f0, f1, f2, f3⟩ := L8.out.rs.free
            have hzb := L8.out.bx.lt
            have hzr := L8.out.rs.lt
            have R := Lib.hid (L8.out.fin hB ER.out)
            have R5 := Lib.hid (L8.out.rs.put4 (.slice A1 s.ps.length c1) (.slice A2 s.bs.length c2) (.slice (some ⟨gg, 0, none⟩) (s.cs.length + 1) cp) (.slice A4 s.as_.length c4))
            clear L8
            go_wp2
            obtain ⟨W5, hW5⟩ : ∃ W5, W5 = ((((W8.setCell ⟨w.heap.size + 1, 0, none⟩ (.slice A1 s.ps.length c1)).setCell ⟨w.heap.size + 1, 1, none⟩ (.slice A2 s.bs.length c2)).setCell ⟨w.heap.size + 1, 2, none⟩ (.slice (some ⟨gg, 0, none⟩) (s.cs.length + 1) cp)).setCell ⟨w.heap.size + 1, 3, none⟩ (.slice A4 s.as_.length c4)) := ⟨_, rfl⟩
            rw [← hW5] at R R5 ⊢
            clear t0 t1 t2 t3 b0 b1 b2 b3 f0 f1 f2 f3 hW5
            obtain ⟨b0, b1, b2, b3⟩ := R5.out.cells
            refine bodyPost_ret (v := .tuple #[.agg #[.slice A1 s.ps.length c1, .slice A2 s.bs.length c2, .slice (some ⟨gg, 0, none⟩) (s.cs.length + 1) cp, .slice A4 s.as_.length c4], .int .i64 0]) (by simp [results, Tryz.results32, go_sem, b0, b1, b2, b3]) rfl ?_
            exact R.out
          · go_simp
            obtain ⟨W6, hW6⟩ : ∃ W6, W6 = w5.alloc (.cells #[.int .i64 (m : Int), .int .i64 d1, .int .i64 d2] 66) := ⟨_, rfl⟩
            have NB := Lib.hid (heap_new w5 (.cells #[.int .i64 (m : Int), .int .i64 d1, .int .i64 d2] 66))
            have hb6 := below_new w5 (.cells #[.int .i64 (m : Int), .int .i64 d1, .int .i64 d2] 66)
            rw [← hW6] at NB hb6 ⊢
            clear hW6
            replace HL := Lib.hid (HL.out.keep hB hb6)
            replace HWd := Lib.hid (HWd.out.keep hb6)
            replace HN := Lib.hid (HN.out.keep hb6)
            have hsz6 := hb6.size
            clear hb6
            refine hK.out _ _ ?_ (fun hHeld => ?_)
            · exact ⟨HN.out.int_cell 0 d1 rfl, HN.out.int_cell 1 d2 rfl⟩
            clear hK K
            (try simp only [Act.put, List.setIfInBounds_toArray, List.set_cons_zero, List.set_cons_succ])
            refine wpAnyH_ready (rs := [1]) (by kernel_rfl) (by simp) ?_
            refine AllReadyH.cons (o := { dst := some 160, op := Op.load 24 (Operand.tmp 159), type := 24, pos := "ref.go:288", after := #[{ on := 0, ground := Ground.data }], guard := none }) rfl (fun K hK => ?_) AllReadyH.nil
            obtain ⟨t0, t1, t2, t3⟩ := HL.out.bx.cells
            go_simp
            refine hK.out _ _ ?_ (fun hHeld => ?_)
            · exact ⟨HN.out.int_cell 0 d1 rfl, HN.out.int_cell 1 d2 rfl⟩
            clear t0 t1 t2 t3
            clear hK K
            (try simp only [Act.put, List.setIfInBounds_toArray, List.set_cons_zero, List.set_cons_succ])
            refine wpAnyH_ready (rs := [11]) (by kernel_rfl) (by simp) ?_
            refine AllReadyH.cons (o := { dst := some 170, op := Op.call { callee := Callee.builtin Builtin.append, args := #[Operand.tmp 160, Operand.tmp 169], argTypes := #[24, 24] }, type := 24, pos := "ref.go:288", after := #[{ on := 1, ground := Ground.data }, { on := 10, ground := Ground.data }], guard := none }) rfl (fun K hK => ?_) AllReadyH.nil
            refine step_append_lies _ (by rfl) _ _ _ (by rfl) B 66 i0 (.agg #[.int .i64 0, .int .i64 0, .int .i64 0]) 3 24 Tryz.underlying24 hi hz0 hz1 hz2 rfl (by decide) _ _ _ (by rfl) HL.out.os.c.1 ⟨w5.heap.size, 0, none⟩ 1 1 (cpE.cells ⟨(m : Int), d1, d2⟩) (by rfl) rfl ?c1 ?c2 (by decide) ?c4 ?c5 ?c6 _ rfl ?_
            case c1 => exact World.news_of_block NB.out
            case c2 => exact cpE.one ⟨(m : Int), d1, d2⟩
            case c4 => unfold maxLen; omega
            case c5 => omega
            case c6 => omega
            intro gg cp w7 hown hgrow hat hlt7
            have T7 := Lib.hid (HL.out.stay2 hgrow)
            have L8 := Lib.hid (HL.out.app2 (x := ⟨(m : Int), d1, d2⟩) hB HX.out hown hgrow)
            replace HWd := Lib.hid (HL.out.words2 hgrow)
            replace HN := Lib.hid (HL.out.nums2 HN.out hgrow)
            clear hown hgrow hat hlt7
            refine hK.out _ _ ?_ (fun hHeld => ?_)
            · exact ⟨HN.out.int_cell 0 d1 rfl, HN.out.int_cell 1 d2 rfl⟩
            clear hK K
            (try simp only [Act.put, List.setIfInBounds_toArray, List.set_cons_zero, List.set_cons_succ])
            refine wpAnyH_take (i := 12) (oi := { dst := some 171, op := Op.fieldAddr 27 (Operand.tmp 2) 2, type := 0, pos := "ref.go:288", after := #[{ on := 0, ground := Ground.phase }, { on := 1, ground := Ground.phase }, { on := 2, ground := Ground.phase }, { on := 3, ground := Ground.phase }, { on := 4, ground := Ground.phase }, { on := 5, ground := Ground.phase }, { on := 6, ground := Ground.phase }, { on := 7, ground := Ground.phase }, { on := 8, ground := Ground.phase }, { on := 9, ground := Ground.phase }, { on := 10, ground := Ground.phase }, { on := 11, ground := Ground.phase }], guard := none }) (v := ?_) rfl (by kernel_rfl) (by kernel_rfl) (by kernel_rfl) (fun _ _ _ h => h) (Or.inl ⟨by rfl, ?_⟩) (by assumption) ?_
            rotate_left
            · intro w hSw; (try dsimp only at hSw); obtain ⟨s0, s1⟩ := hSw; go_simp; try with_reducible rfl
            (try simp only [Act.put, List.setIfInBounds_toArray, List.set_cons_zero, List.set_cons_succ])
            refine wpAnyH_ready (rs := [13]) (by kernel_rfl) (by simp) ?_
            refine AllReadyH.cons (o := { dst := none, op := Op.store 24 (Operand.tmp 171) (Operand.tmp 170), type := 0, pos := "ref.go:288", after := #[{ on := 12, ground := Ground.data }, { on := 11, ground := Ground.data }, { on := 11, ground := Ground.chain }, { on := 0, ground := Ground.phase }, { on := 1, ground := Ground.phase }, { on := 2, ground := Ground.phase }, { on := 3, ground := Ground.phase }, { on := 4, ground := Ground.phase }, { on := 5, ground := Ground.phase }, { on := 6, ground := Ground.phase }, { on := 7, ground := Ground.phase }, { on := 8, ground := Ground.phase }, { on := 9, ground := Ground.phase }, { on := 10, ground := Ground.phase }, { on := 11, ground := Ground.phase }], guard := none }) rfl (fun K hK => ?_) AllReadyH.nil
            obtain ⟨t0, t1, t2, t3⟩ := T7.out.cells
            obtain ⟨f0, f1, f2, f3⟩ := T7.out.free
            have hzz := T7.out.lt
            go_simp
            replace HN := Lib.hid (HN.out.turn (g_set w7 w.heap.size 2 (.slice (some ⟨gg, 0, none⟩) (s.cs.length + 1) cp)) (HN.out.ne T7.out (by decide)))
            replace HWd := Lib.hid L8.out.wd
            refine hK.out _ _ ?_ (fun hHeld => ?_)
            · exact ⟨HN.out.int_cell 0 d1 rfl, HN.out.int_cell 1 d2 rfl⟩
            clear t0 t1 t2 t3 f0 f1 f2 f3
            clear hK K
            (try simp only [Act.put, List.setIfInBounds_toArray, List.set_cons_zero, List.set_cons_succ])
            refine wpAnyH_done (by kernel_rfl) ?_ _
            obtain ⟨W8, hW8⟩ : ∃ W8, W8 = w7.setCell ⟨w.heap.size, 2, none⟩ (.slice (some ⟨gg, 0, none⟩) (s.cs.length + 1) cp) := ⟨_, rfl⟩
            rw [← hW8] at L8 ⊢
            clear hW8 HWd HN T7 HL NB
            obtain ⟨t0, t1, t2, t3⟩ := L8.out.bx.cells
            obtain ⟨b0, b1, b2, b3⟩ := L8.out.rs.cells
            obtain ⟨f0, f1, f2, f3⟩ := L8.out.rs.free
            have hzb := L8.out.bx.lt
            have hzr := L8.out.rs.lt
            have R := Lib.hid (L8.out.fin hB ER.out)
            have R5 := Lib.hid (L8.out.rs.put4 (.slice A1 s.ps.length c1) (.slice A2 s.bs.length c2) (.slice (some ⟨gg, 0, none⟩) (s.cs.length + 1) cp) (.slice A4 s.as_.length c4))
            clear L8
            go_wp2
            obtain ⟨W5, hW5⟩ : ∃ W5, W5 = ((((W8.setCell ⟨w.heap.size + 1, 0, none⟩ (.slice A1 s.ps.length c1)).setCell ⟨w.heap.size + 1, 1, none⟩ (.slice A2 s.bs.length c2)).setCell ⟨w.heap.size + 1, 2, none⟩ (.slice (some ⟨gg, 0, none⟩) (s.cs.length + 1) cp)).setCell ⟨w.heap.size + 1, 3, none⟩ (.slice A4 s.as_.length c4)) := ⟨_, rfl⟩
            rw [← hW5] at R R5 ⊢
            clear t0 t1 t2 t3 b0 b1 b2 b3 f0 f1 f2 f3 hW5
            obtain ⟨b0, b1, b2, b3⟩ := R5.out.cells
            refine bodyPost_ret (v := .tuple #[.agg #[.slice A1 s.ps.length c1, .slice A2 s.bs.length c2, .slice (some ⟨gg, 0, none⟩) (s.cs.length + 1) cp, .slice A4 s.as_.length c4], .int .i64 0]) (by simp [results, Tryz.results32, go_sem, b0, b1, b2, b3]) rfl ?_
            exact R.out
        · have hk' : ((MU.numsE [x1, x2]).2 != 0) = true := bne_iff_ne.2 hN
          rw [if_pos hN] at E
          clear NU HO
          generalize (MU.numsE [x1, x2]).2 = kk at *
          have R := Lib.hid (L2.out.fin hB E.out)
          have R5 := Lib.hid (L2.out.rs.put4 (.slice A1 s.ps.length c1) (.slice A2 s.bs.length c2) (.slice A3 s.cs.length c3) (.slice A4 s.as_.length c4))
          clear L2
          go_wp2
          obtain ⟨W5, hW5⟩ : ∃ W5, W5 = ((((w2.setCell ⟨w.heap.size + 1, 0, none⟩ (.slice A1 s.ps.length c1)).setCell ⟨w.heap.size + 1, 1, none⟩ (.slice A2 s.bs.length c2)).setCell ⟨w.heap.size + 1, 2, none⟩ (.slice A3 s.cs.length c3)).setCell ⟨w.heap.size + 1, 3, none⟩ (.slice A4 s.as_.length c4)) := ⟨_, rfl⟩
          rw [← hW5] at R R5 ⊢
          clear t0 t1 t2 t3 b0 b1 b2 b3 f0 f1 f2 f3 hW5
          obtain ⟨b0, b1, b2, b3⟩ := R5.out.cells
          refine bodyPost_ret (v := .tuple #[.agg #[.slice A1 s.ps.length c1, .slice A2 s.bs.length c2, .slice A3 s.cs.length c3, .slice A4 s.as_.length c4], .int .i64 kk]) (by simp [results, Tryz.results32, go_sem, b0, b1, b2, b3]) rfl ?_
          exact R.out
      · clear hj
        go_wp2_with fail
        obtain ⟨AL, cL, hvL, hlL⟩ := L1.out.wd.form (by show 4 ≤ _; decide)
        cases hvL
        refine (rnums_own (some ⟨gw, 0, none⟩) 4 cw 2 [MU.wCap, x0, x1, x2] w1 hlL (by decide) (by decide)).mono ?_
        rintro ev w2 ⟨vn, rfl, hO, hb2⟩
        have L2 := Lib.hid (L1.out.keep hB hb2)
        have HO := Lib.hid hO
        clear L1 hlL hO hb2 t0 t1 t2 t3 b0 b1 b2 b3 f0 f1 f2 f3 y0 y1
        simp only [List.drop_succ_cons, List.drop_zero] at HO ⊢
        have NU := Lib.hid (nums_up [x1, x2]).2
        obtain ⟨t0, t1, t2, t3⟩ := L2.out.bx.cells
        obtain ⟨b0, b1, b2, b3⟩ := L2.out.rs.cells
        obtain ⟨f0, f1, f2, f3⟩ := L2.out.rs.free
        have hzb := L2.out.bx.lt
        have hzr := L2.out.rs.lt
        have y0 := L2.out.wd.str_cell 0 MU.wCap rfl
        by_cases hN : (MU.numsE [x1, x2]).2 = 0
        · have HD := NU.out hN
          rw [if_neg (show ¬ (MU.numsE [x1, x2]).2 ≠ 0 by rw [hN]; simp)] at E
          rw [hN]
          rw [HD] at HO E
          simp only [List.map_cons, List.map_nil] at HO E
          clear NU hN HD
          generalize (MU.digE x1).1 = d1 at *
          generalize (MU.digE x2).1 = d2 at *
          obtain ⟨gn, cn, rfl, hcn, hgn⟩ := HO.out.int_open
          have HX := Lib.hid (show cpE.fine ⟨(m : Int), d1, d2⟩ from ⟨(by dsimp only; omega), (by dsimp only; omega), (by dsimp only; omega)⟩)
          have ER := Lib.hid (show MU.lineE s [MU.wCap, x0, x1, x2] = ({ s with cs := s.cs ++ [⟨(m : Int), d1, d2⟩] }, 0) from E.out)
          clear E
          go_wp2
          clear t0 t1 t2 t3 b0 b1 b2 b3 f0 f1 f2 f3 y0 q1 q2 q3 q4
          obtain ⟨w5, hw5⟩ : ∃ w5, w5 = w2.drew := ⟨_, rfl⟩
          have hb5 := below_drawn w2
          rw [← hw5] at hb5
          have HL := Lib.hid (L2.out.keep hB hb5)
          have HWd := Lib.hid HL.out.wd
          have HN := Lib.hid ((HO.out.low0).keep hb5)
          have hszw : w.heap.size < w5.heap.size := HL.out.bx.lt
          clear L2 HO hb5
          have HF5 : w5.cell? ⟨gn, 0, none⟩ = some (.int .i64 d1) ∧ w5.cell? ⟨gn, 1, none⟩ = some (.int .i64 d2) := ⟨HN.out.int_cell 0 d1 rfl, HN.out.int_cell 1 d2 rfl⟩
          rw [hw5] at HF5
          refine wp_region_held_drew (S := fun w' => w'.cell? ⟨gn, 0, none⟩ = some (.int .i64 d1) ∧ w'.cell? ⟨gn, 1, none⟩ = some (.int .i64 d2)) (by kernel_rfl) HF5 (fun hHeld => ?_)
          rw [← hw5] at hHeld ⊢
          clear hw5 HF5
          refine wpAnyH_take (i := 0) (oi := { dst := some 159, op := Op.fieldAddr 27 (Operand.tmp 2) 2, type := 0, pos := "ref.go:288", after := #[], guard := none }) (v := ?_) rfl (by kernel_rfl) (by kernel_rfl) (by kernel_rfl) (fun _ _ _ h => h) (Or.inl ⟨by rfl, ?_⟩) (by assumption) ?_
          rotate_left
          · intro w hSw; (try dsimp only at hSw); obtain ⟨s0, s1⟩ := hSw; go_simp; try with_reducible rfl
          (try simp only [Act.put, List.setIfInBounds_toArray, List.set_cons_zero, List.set_cons_succ])
          refine wpAnyH_take (i := 2) (oi := { dst := some 161, op := Op.move (Operand.tmp 7), type := 3, pos := "ref.go:288", after := #[], guard := none }) (v := ?_) rfl (by kernel_rfl) (by kernel_rfl) (by kernel_rfl) (fun _ _ _ h => h) (Or.inl ⟨by rfl, ?_⟩) (by assumption) ?_
          rotate_left
          · intro w hSw; (try dsimp only at hSw); obtain ⟨s0, s1⟩ := hSw; go_simp; try with_reducible rfl
          (try simp only [Act.put, List.setIfInBounds_toArray, List.set_cons_zero, List.set_cons_succ])
          refine wpAnyH_take (i := 3) (oi := { dst := some 162, op := Op.move (Operand.tmp 11), type := 100, pos := "ref.go:288", after := #[], guard := none }) (v := ?_) rfl (by kernel_rfl) (by kernel_rfl) (by kernel_rfl) (fun _ _ _ h => h) (Or.inl ⟨by rfl, ?_⟩) (by assumption) ?_
          rotate_left
          · intro w hSw; (try dsimp only at hSw); obtain ⟨s0, s1⟩ := hSw; go_simp; try with_reducible rfl
          (try simp only [Act.put, List.setIfInBounds_toArray, List.set_cons_zero, List.set_cons_succ])
          refine wpAnyH_take (i := 4) (oi := { dst := some 163, op := Op.indexAddr 100 (Operand.tmp 162) (Operand.const (Value.int IntKind.i64 0)), type := 0, pos := "ref.go:288", after := #[{ on := 3, ground := Ground.data }], guard := none }) (v := ?_) rfl (by kernel_rfl) (by kernel_rfl) (by kernel_rfl) (fun _ _ _ h => h) (Or.inl ⟨by rfl, ?_⟩) (by assumption) ?_
          rotate_left
          · intro w hSw; (try dsimp only at hSw); obtain ⟨s0, s1⟩ := hSw; go_simp; try with_reducible rfl
          (try simp only [Act.put, List.setIfInBounds_toArray, List.set_cons_zero, List.set_cons_succ])
          refine wpAnyH_take (i := 5) (oi := { dst := some 164, op := Op.load 2 (Operand.tmp 163), type := 2, pos := "ref.go:288", after := #[{ on := 4, ground := Ground.data }], guard := none }) (v := ?_) rfl (by kernel_rfl) (by kernel_rfl) (by kernel_rfl) (fun _ _ _ h => h) (Or.inl ⟨by rfl, ?_⟩) (by assumption) ?_
          rotate_left
          · intro w hSw; (try dsimp only at hSw); obtain ⟨s0, s1⟩ := hSw; go_simp; try with_reducible rfl
          (try simp only [Act.put, List.setIfInBounds_toArray, List.set_cons_zero, List.set_cons_succ])
          refine wpAnyH_take (i := 6) (oi := { dst := some 165, op := Op.move (Operand.tmp 11), type := 100, pos := "ref.go:288", after := #[], guard := none }) (v := ?_) rfl (by kernel_rfl) (by kernel_rfl) (by kernel_rfl) (fun _ _ _ h => h) (Or.inl ⟨by rfl, ?_⟩) (by assumption) ?_
          rotate_left
          · intro w hSw; (try dsimp only at hSw); obtain ⟨s0, s1⟩ := hSw; go_simp; try with_reducible rfl
          (try simp only [Act.put, List.setIfInBounds_toArray, List.set_cons_zero, List.set_cons_succ])
          refine wpAnyH_take (i := 7) (oi := { dst := some 166, op := Op.indexAddr 100 (Operand.tmp 165) (Operand.const (Value.int IntKind.i64 1)), type := 0, pos := "ref.go:288", after := #[{ on := 6, ground := Ground.data }], guard := none }) (v := ?_) rfl (by kernel_rfl) (by kernel_rfl) (by kernel_rfl) (fun _ _ _ h => h) (Or.inl ⟨by rfl, ?_⟩) (by assumption) ?_
          rotate_left
          · intro w hSw; (try dsimp only at hSw); obtain ⟨s0, s1⟩ := hSw; go_simp; try with_reducible rfl
          (try simp only [Act.put, List.setIfInBounds_toArray, List.set_cons_zero, List.set_cons_succ])
          refine wpAnyH_take (i := 8) (oi := { dst := some 167, op := Op.load 2 (Operand.tmp 166), type := 2, pos := "ref.go:288", after := #[{ on := 7, ground := Ground.data }], guard := none }) (v := ?_) rfl (by kernel_rfl) (by kernel_rfl) (by kernel_rfl) (fun _ _ _ h => h) (Or.inl ⟨by rfl, ?_⟩) (by assumption) ?_
          rotate_left
          · intro w hSw; (try dsimp only at hSw); obtain ⟨s0, s1⟩ := hSw; go_simp; try with_reducible rfl
          (try simp only [Act.put, List.setIfInBounds_toArray, List.set_cons_zero, List.set_cons_succ])
          refine wpAnyH_take (i := 9) (oi := { dst := some 168, op := Op.build 66 #[(0, Operand.tmp 161), (1, Operand.tmp 164), (2, Operand.tmp 167)], type := 66, pos := "ref.go:288", after := #[{ on := 2, ground := Ground.data }, { on := 5, ground := Ground.data }, { on := 8, ground := Ground.data }], guard := none }) (v := ?_) rfl (by kernel_rfl) (by kernel_rfl) (by kernel_rfl) (fun _ _ _ h => h) (Or.inl ⟨by rfl, ?_⟩) (by assumption) ?_
          rotate_left
          · intro w hSw; (try dsimp only at hSw); obtain ⟨s0, s1⟩ := hSw; go_simp; try with_reducible rfl
          (try simp only [Act.put, List.setIfInBounds_toArray, List.set_cons_zero, List.set_cons_succ])
          refine wpAnyH_ready (rs := [1, 10]) (by kernel_rfl) (by simp) ?_
          refine AllReadyH.cons (o := { dst := some 160, op := Op.load 24 (Operand.tmp 159), type := 24, pos := "ref.go:288", after := #[{ on := 0, ground := Ground.data }], guard := none }) rfl (fun K hK => ?_) (AllReadyH.cons (o := { dst := some 169, op := Op.buildSlice 24 1 #[(0, Operand.tmp 168)], type := 24, pos := "ref.go:288", after := #[{ on := 9, ground := Ground.data }], guard := none }) rfl (fun K hK => ?_) AllReadyH.nil)
          · obtain ⟨t0, t1, t2, t3⟩ := HL.out.bx.cells
            go_simp
            refine hK.out _ _ ?_ (fun hHeld => ?_)
            · exact ⟨HN.out.int_cell 0 d1 rfl, HN.out.int_cell 1 d2 rfl⟩
            clear t0 t1 t2 t3
            clear hK K
            (try simp only [Act.put, List.setIfInBounds_toArray, List.set_cons_zero, List.set_cons_succ])
            refine wpAnyH_ready (rs := [10]) (by kernel_rfl) (by simp) ?_
            refine AllReadyH.cons (o := { dst := some 169, op := Op.buildSlice 24 1 #[(0, Operand.tmp 168)], type := 24, pos := "ref.go:288", after := #[{ on := 9, ground := Ground.data }], guard := none }) rfl (fun K hK => ?_) AllReadyH.nil
            go_simp
            obtain ⟨W6, hW6⟩ : ∃ W6, W6 = w5.alloc (.cells #[.int .i64 (m : Int), .int .i64 d1, .int .i64 d2] 66) := ⟨_, rfl⟩
            have NB := Lib.hid (heap_new w5 (.cells #[.int .i64 (m : Int), .int .i64 d1, .int .i64 d2] 66))
            have hb6 := below_new w5 (.cells #[.int .i64 (m : Int), .int .i64 d1, .int .i64 d2] 66)
            rw [← hW6] at NB hb6 ⊢
            clear hW6
            replace HL := Lib.hid (HL.out.keep hB hb6)
            replace HWd := Lib.hid (HWd.out.keep hb6)
            replace HN := Lib.hid (HN.out.keep hb6)
            have hsz6 := hb6.size
            clear hb6
            refine hK.out _ _ ?_ (fun hHeld => ?_)
            · exact ⟨HN.out.int_cell 0 d1 rfl, HN.out.int_cell 1 d2 rfl⟩
            clear hK K
            (try simp only [Act.put, List.setIfInBounds_toArray, List.set_cons_zero, List.set_cons_succ])
            refine wpAnyH_ready (rs := [11]) (by kernel_rfl) (by simp) ?_
            refine AllReadyH.cons (o := { dst := some 170, op := Op.call { callee := Callee.builtin Builtin.append, args := #[Operand.tmp 160, Operand.tmp 169], argTypes := #[24, 24] }, type := 24, pos := "ref.go:288", after := #[{ on := 1, ground := Ground.data }, { on := 10, ground := Ground.data }], guard := none }) rfl (fun K hK => ?_) AllReadyH.nil
            refine step_append_lies _ (by rfl) _ _ _ (by rfl) B 66 i0 (.agg #[.int .i64 0, .int .i64 0, .int .i64 0]) 3 24 Tryz.underlying24 hi hz0 hz1 hz2 rfl (by decide) _ _ _ (by rfl) HL.out.os.c.1 ⟨w5.heap.size, 0, none⟩ 1 1 (cpE.cells ⟨(m : Int), d1, d2⟩) (by rfl) rfl ?c1 ?c2 (by decide) ?c4 ?c5 ?c6 _ rfl ?_
            case c1 => exact World.news_of_block NB.out
            case c2 => exact cpE.one ⟨(m : Int), d1, d2⟩
            case c4 => unfold maxLen; omega
            case c5 => omega
            case c6 => omega
            intro gg cp w7 hown hgrow hat hlt7
            have T7 := Lib.hid (HL.out.stay2 hgrow)
            have L8 := Lib.hid (HL.out.app2 (x := ⟨(m : Int), d1, d2⟩) hB HX.out hown hgrow)
            replace HWd := Lib.hid (HL.out.words2 hgrow)
            replace HN := Lib.hid (HL.out.nums2 HN.out hgrow)
            clear hown hgrow hat hlt7
            refine hK.out _ _ ?_ (fun hHeld => ?_)
            · exact ⟨HN.out.int_cell 0 d1 rfl, HN.out.int_cell 1 d2 rfl⟩
            clear hK K
            (try simp only [Act.put, List.setIfInBounds_toArray, List.set_cons_zero, List.set_cons_succ])
            refine wpAnyH_take (i := 12) (oi := { dst := some 171, op := Op.fieldAddr 27 (Operand.tmp 2) 2, type := 0, pos := "ref.go:288", after := #[{ on := 0, ground := Ground.phase }, { on := 1, ground := Ground.phase }, { on := 2, ground := Ground.phase }, { on := 3, ground := Ground.phase }, { on := 4, ground := Ground.phase }, { on := 5, ground := Ground.phase }, { on := 6, ground := Ground.phase }, { on := 7, ground := Ground.phase }, { on := 8, ground := Ground.phase }, { on := 9, ground := Ground.phase }, { on := 10, ground := Ground.phase }, { on := 11, ground := Ground.phase }], guard := none }) (v := ?_) rfl (by kernel_rfl) (by kernel_rfl) (by kernel_rfl) (fun _ _ _ h => h) (Or.inl ⟨by rfl, ?_⟩) (by assumption) ?_
            rotate_left
            · intro w hSw; (try dsimp only at hSw); obtain ⟨s0, s1⟩ := hSw; go_simp; try with_reducible rfl
            (try simp only [Act.put, List.setIfInBounds_toArray, List.set_cons_zero, List.set_cons_succ])
            refine wpAnyH_ready (rs := [13]) (by kernel_rfl) (by simp) ?_
            refine AllReadyH.cons (o := { dst := none, op := Op.store 24 (Operand.tmp 171) (Operand.tmp 170), type := 0, pos := "ref.go:288", after := #[{ on := 12, ground := Ground.data }, { on := 11, ground := Ground.data }, { on := 11, ground := Ground.chain }, { on := 0, ground := Ground.phase }, { on := 1, ground := Ground.phase }, { on := 2, ground := Ground.phase }, { on := 3, ground := Ground.phase }, { on := 4, ground := Ground.phase }, { on := 5, ground := Ground.phase }, { on := 6, ground := Ground.phase }, { on := 7, ground := Ground.phase }, { on := 8, ground := Ground.phase }, { on := 9, ground := Ground.phase }, { on := 10, ground := Ground.phase }, { on := 11, ground := Ground.phase }], guard := none }) rfl (fun K hK => ?_) AllReadyH.nil
            obtain ⟨t0, t1, t2, t3⟩ := T7.out.cells
            obtain ⟨f0, f1, f2, f3⟩ := T7.out.free
            have hzz := T7.out.lt
            go_simp
            replace HN := Lib.hid (HN.out.turn (g_set w7 w.heap.size 2 (.slice (some ⟨gg, 0, none⟩) (s.cs.length + 1) cp)) (HN.out.ne T7.out (by decide)))
            replace HWd := Lib.hid L8.out.wd
            refine hK.out _ _ ?_ (fun hHeld => ?_)
            · exact ⟨HN.out.int_cell 0 d1 rfl, HN.out.int_cell 1 d2 rfl⟩
            clear t0 t1 t2 t3 f0 f1 f2 f3
            clear hK K
            (try simp only [Act.put, List.setIfInBounds_toArray, List.set_cons_zero, List.set_cons_succ])
            refine wpAnyH_done (by kernel_rfl) ?_ _
            obtain ⟨W8, hW8⟩ : ∃ W8, W8 = w7.setCell ⟨w.heap.size, 2, none⟩ (.slice (some ⟨gg, 0, none⟩) (s.cs.length + 1) cp) := ⟨_, rfl⟩
            rw [← hW8] at L8 ⊢
            clear hW8 HWd HN T7 HL NB
            obtain ⟨t0, t1, t2, t3⟩ := L8.out.bx.cells
            obtain ⟨b0, b1, b2, b3⟩ := L8.out.rs.cells
            obtain ⟨f0, f1, f2, f3⟩ := L8.out.rs.free
            have hzb := L8.out.bx.lt
            have hzr := L8.out.rs.lt
            have R := Lib.hid (L8.out.fin hB ER.out)
            have R5 := Lib.hid (L8.out.rs.put4 (.slice A1 s.ps.length c1) (.slice A2 s.bs.length c2) (.slice (some ⟨gg, 0, none⟩) (s.cs.length + 1) cp) (.slice A4 s.as_.length c4))
            clear L8
            go_wp2
            obtain ⟨W5, hW5⟩ : ∃ W5, W5 = ((((W8.setCell ⟨w.heap.size + 1, 0, none⟩ (.slice A1 s.ps.length c1)).setCell ⟨w.heap.size + 1, 1, none⟩ (.slice A2 s.bs.length c2)).setCell ⟨w.heap.size + 1, 2, none⟩ (.slice (some ⟨gg, 0, none⟩) (s.cs.length + 1) cp)).setCell ⟨w.heap.size + 1, 3, none⟩ (.slice A4 s.as_.length c4)) := ⟨_, rfl⟩
            rw [← hW5] at R R5 ⊢
            clear t0 t1 t2 t3 b0 b1 b2 b3 f0 f1 f2 f3 hW5
            obtain ⟨b0, b1, b2, b3⟩ := R5.out.cells
            refine bodyPost_ret (v := .tuple #[.agg #[.slice A1 s.ps.length c1, .slice A2 s.bs.length c2, .slice (some ⟨gg, 0, none⟩) (s.cs.length + 1) cp, .slice A4 s.as_.length c4], .int .i64 0]) (by simp [results, Tryz.results32, go_sem, b0, b1, b2, b3]) rfl ?_
            exact R.out
          · go_simp
            obtain ⟨W6, hW6⟩ : ∃ W6, W6 = w5.alloc (.cells #[.int .i64 (m : Int), .int .i64 d1, .int .i64 d2] 66) := ⟨_, rfl⟩
            have NB := Lib.hid (heap_new w5 (.cells #[.int .i64 (m : Int), .int .i64 d1, .int .i64 d2] 66))
            have hb6 := below_new w5 (.cells #[.int .i64 (m : Int), .int .i64 d1, .int .i64 d2] 66)
            rw [← hW6] at NB hb6 ⊢
            clear hW6
            replace HL := Lib.hid (HL.out.keep hB hb6)
            replace HWd := Lib.hid (HWd.out.keep hb6)
            replace HN := Lib.hid (HN.out.keep hb6)
            have hsz6 := hb6.size
            clear hb6
            refine hK.out _ _ ?_ (fun hHeld => ?_)
            · exact ⟨HN.out.int_cell 0 d1 rfl, HN.out.int_cell 1 d2 rfl⟩
            clear hK K
            (try simp only [Act.put, List.setIfInBounds_toArray, List.set_cons_zero, List.set_cons_succ])
            refine wpAnyH_ready (rs := [1]) (by kernel_rfl) (by simp) ?_
            refine AllReadyH.cons (o := { dst := some 160, op := Op.load 24 (Operand.tmp 159), type := 24, pos := "ref.go:288", after := #[{ on := 0, ground := Ground.data }], guard := none }) rfl (fun K hK => ?_) AllReadyH.nil
            obtain ⟨t0, t1, t2, t3⟩ := HL.out.bx.cells
            go_simp
            refine hK.out _ _ ?_ (fun hHeld => ?_)
            · exact ⟨HN.out.int_cell 0 d1 rfl, HN.out.int_cell 1 d2 rfl⟩
            clear t0 t1 t2 t3
            clear hK K
            (try simp only [Act.put, List.setIfInBounds_toArray, List.set_cons_zero, List.set_cons_succ])
            refine wpAnyH_ready (rs := [11]) (by kernel_rfl) (by simp) ?_
            refine AllReadyH.cons (o := { dst := some 170, op := Op.call { callee := Callee.builtin Builtin.append, args := #[Operand.tmp 160, Operand.tmp 169], argTypes := #[24, 24] }, type := 24, pos := "ref.go:288", after := #[{ on := 1, ground := Ground.data }, { on := 10, ground := Ground.data }], guard := none }) rfl (fun K hK => ?_) AllReadyH.nil
            refine step_append_lies _ (by rfl) _ _ _ (by rfl) B 66 i0 (.agg #[.int .i64 0, .int .i64 0, .int .i64 0]) 3 24 Tryz.underlying24 hi hz0 hz1 hz2 rfl (by decide) _ _ _ (by rfl) HL.out.os.c.1 ⟨w5.heap.size, 0, none⟩ 1 1 (cpE.cells ⟨(m : Int), d1, d2⟩) (by rfl) rfl ?c1 ?c2 (by decide) ?c4 ?c5 ?c6 _ rfl ?_
            case c1 => exact World.news_of_block NB.out
            case c2 => exact cpE.one ⟨(m : Int), d1, d2⟩
            case c4 => unfold maxLen; omega
            case c5 => omega
            case c6 => omega
            intro gg cp w7 hown hgrow hat hlt7
            have T7 := Lib.hid (HL.out.stay2 hgrow)
            have L8 := Lib.hid (HL.out.app2 (x := ⟨(m : Int), d1, d2⟩) hB HX.out hown hgrow)
            replace HWd := Lib.hid (HL.out.words2 hgrow)
            replace HN := Lib.hid (HL.out.nums2 HN.out hgrow)
            clear hown hgrow hat hlt7
            refine hK.out _ _ ?_ (fun hHeld => ?_)
            · exact ⟨HN.out.int_cell 0 d1 rfl, HN.out.int_cell 1 d2 rfl⟩
            clear hK K
            (try simp only [Act.put, List.setIfInBounds_toArray, List.set_cons_zero, List.set_cons_succ])
            refine wpAnyH_take (i := 12) (oi := { dst := some 171, op := Op.fieldAddr 27 (Operand.tmp 2) 2, type := 0, pos := "ref.go:288", after := #[{ on := 0, ground := Ground.phase }, { on := 1, ground := Ground.phase }, { on := 2, ground := Ground.phase }, { on := 3, ground := Ground.phase }, { on := 4, ground := Ground.phase }, { on := 5, ground := Ground.phase }, { on := 6, ground := Ground.phase }, { on := 7, ground := Ground.phase }, { on := 8, ground := Ground.phase }, { on := 9, ground := Ground.phase }, { on := 10, ground := Ground.phase }, { on := 11, ground := Ground.phase }], guard := none }) (v := ?_) rfl (by kernel_rfl) (by kernel_rfl) (by kernel_rfl) (fun _ _ _ h => h) (Or.inl ⟨by rfl, ?_⟩) (by assumption) ?_
            rotate_left
            · intro w hSw; (try dsimp only at hSw); obtain ⟨s0, s1⟩ := hSw; go_simp; try with_reducible rfl
            (try simp only [Act.put, List.setIfInBounds_toArray, List.set_cons_zero, List.set_cons_succ])
            refine wpAnyH_ready (rs := [13]) (by kernel_rfl) (by simp) ?_
            refine AllReadyH.cons (o := { dst := none, op := Op.store 24 (Operand.tmp 171) (Operand.tmp 170), type := 0, pos := "ref.go:288", after := #[{ on := 12, ground := Ground.data }, { on := 11, ground := Ground.data }, { on := 11, ground := Ground.chain }, { on := 0, ground := Ground.phase }, { on := 1, ground := Ground.phase }, { on := 2, ground := Ground.phase }, { on := 3, ground := Ground.phase }, { on := 4, ground := Ground.phase }, { on := 5, ground := Ground.phase }, { on := 6, ground := Ground.phase }, { on := 7, ground := Ground.phase }, { on := 8, ground := Ground.phase }, { on := 9, ground := Ground.phase }, { on := 10, ground := Ground.phase }, { on := 11, ground := Ground.phase }], guard := none }) rfl (fun K hK => ?_) AllReadyH.nil
            obtain ⟨t0, t1, t2, t3⟩ := T7.out.cells
            obtain ⟨f0, f1, f2, f3⟩ := T7.out.free
            have hzz := T7.out.lt
            go_simp
            replace HN := Lib.hid (HN.out.turn (g_set w7 w.heap.size 2 (.slice (some ⟨gg, 0, none⟩) (s.cs.length + 1) cp)) (HN.out.ne T7.out (by decide)))
            replace HWd := Lib.hid L8.out.wd
            refine hK.out _ _ ?_ (fun hHeld => ?_)
            · exact ⟨HN.out.int_cell 0 d1 rfl, HN.out.int_cell 1 d2 rfl⟩
            clear t0 t1 t2 t3 f0 f1 f2 f3
            clear hK K
            (try simp only [Act.put, List.setIfInBounds_toArray, List.set_cons_zero, List.set_cons_succ])
            refine wpAnyH_done (by kernel_rfl) ?_ _
            obtain ⟨W8, hW8⟩ : ∃ W8, W8 = w7.setCell ⟨w.heap.size, 2, none⟩ (.slice (some ⟨gg, 0, none⟩) (s.cs.length + 1) cp) := ⟨_, rfl⟩
            rw [← hW8] at L8 ⊢
            clear hW8 HWd HN T7 HL NB
            obtain ⟨t0, t1, t2, t3⟩ := L8.out.bx.cells
            obtain ⟨b0, b1, b2, b3⟩ := L8.out.rs.cells
            obtain ⟨f0, f1, f2, f3⟩ := L8.out.rs.free
            have hzb := L8.out.bx.lt
            have hzr := L8.out.rs.lt
            have R := Lib.hid (L8.out.fin hB ER.out)
            have R5 := Lib.hid (L8.out.rs.put4 (.slice A1 s.ps.length c1) (.slice A2 s.bs.length c2) (.slice (some ⟨gg, 0, none⟩) (s.cs.length + 1) cp) (.slice A4 s.as_.length c4))
            clear L8
            go_wp2
            obtain ⟨W5, hW5⟩ : ∃ W5, W5 = ((((W8.setCell ⟨w.heap.size + 1, 0, none⟩ (.slice A1 s.ps.length c1)).setCell ⟨w.heap.size + 1, 1, none⟩ (.slice A2 s.bs.length c2)).setCell ⟨w.heap.size + 1, 2, none⟩ (.slice (some ⟨gg, 0, none⟩) (s.cs.length + 1) cp)).setCell ⟨w.heap.size + 1, 3, none⟩ (.slice A4 s.as_.length c4)) := ⟨_, rfl⟩
            rw [← hW5] at R R5 ⊢
            clear t0 t1 t2 t3 b0 b1 b2 b3 f0 f1 f2 f3 hW5
            obtain ⟨b0, b1, b2, b3⟩ := R5.out.cells
            refine bodyPost_ret (v := .tuple #[.agg #[.slice A1 s.ps.length c1, .slice A2 s.bs.length c2, .slice (some ⟨gg, 0, none⟩) (s.cs.length + 1) cp, .slice A4 s.as_.length c4], .int .i64 0]) (by simp [results, Tryz.results32, go_sem, b0, b1, b2, b3]) rfl ?_
            exact R.out
        · have hk' : ((MU.numsE [x1, x2]).2 != 0) = true := bne_iff_ne.2 hN
          rw [if_pos hN] at E
          clear NU HO
          generalize (MU.numsE [x1, x2]).2 = kk at *
          have R := Lib.hid (L2.out.fin hB E.out)
          have R5 := Lib.hid (L2.out.rs.put4 (.slice A1 s.ps.length c1) (.slice A2 s.bs.length c2) (.slice A3 s.cs.length c3) (.slice A4 s.as_.length c4))
          clear L2
          go_wp2
          obtain ⟨W5, hW5⟩ : ∃ W5, W5 = ((((w2.setCell ⟨w.heap.size + 1, 0, none⟩ (.slice A1 s.ps.length c1)).setCell ⟨w.heap.size + 1, 1, none⟩ (.slice A2 s.bs.length c2)).setCell ⟨w.heap.size + 1, 2, none⟩ (.slice A3 s.cs.length c3)).setCell ⟨w.heap.size + 1, 3, none⟩ (.slice A4 s.as_.length c4)) := ⟨_, rfl⟩
          rw [← hW5] at R R5 ⊢
          clear t0 t1 t2 t3 b0 b1 b2 b3 f0 f1 f2 f3 hW5
          obtain ⟨b0, b1, b2, b3⟩ := R5.out.cells
          refine bodyPost_ret (v := .tuple #[.agg #[.slice A1 s.ps.length c1, .slice A2 s.bs.length c2, .slice A3 s.cs.length c3, .slice A4 s.as_.length c4], .int .i64 kk]) (by simp [results, Tryz.results32, go_sem, b0, b1, b2, b3]) rfl ?_
          exact R.out
set_option maxRecDepth 100000 in
set_option maxHeartbeats 16000000 in
theorem rline_a (B : Nat) (s : Su) (A1 A2 A3 A4 : Option Addr) (c1 c2 c3 c4 : Nat) (vw : Value) (x : List UInt8) (r : List (List UInt8)) (w : World) (h : OS w B s (.slice A1 s.ps.length c1) (.slice A2 s.bs.length c2) (.slice A3 s.cs.length c3) (.slice A4 s.as_.length c4)) (hB : B ≤ w.heap.size) (hw : OwnL strE 9 w 0 vw (x :: r)) (hn5 : r.length ≤ 5000) (h1 : x = MU.wAside) (h2 : r.length = 3) (hrow : s.as_.length ≤ 5000) (hpl : s.ps.length ≤ 5000) : Calls Tryz.prog 32 #[.agg #[.slice A1 s.ps.length c1, .slice A2 s.bs.length c2, .slice A3 s.cs.length c3, .slice A4 s.as_.length c4], vw] w (GivesLn (MU.lineE s (x :: r)) B w) := by
  obtain ⟨gw, cw, rfl, hcw, hgw, hxl⟩ := hw.str_open
  have L0 := Lib.hid (LnS.new h hw hB)
  obtain ⟨x0, x1, x2, rfl⟩ : ∃ x0 x1 x2, r = [x0, x1, x2] := by
    match r, h2 with
    | [x0, x1, x2], _ => exact ⟨x0, x1, x2, rfl⟩
  have h0 : x0.length ≤ 9223372036854775807 := hw.2 x0 (by simp)
  have hd1 := digE_rng x1
  have hd2 := digE_rng x2
  subst h1
  obtain ⟨q1, q2, q3, q4⟩ := kw_a (x := MU.wAside) rfl
  have E := Lib.hid (show MU.lineE s [MU.wAside, x0, x1, x2] = if MC.findL s.ps x0 = none then (s, 6) else if (MU.numsE [x1, x2]).2 ≠ 0 then (s, (MU.numsE [x1, x2]).2) else ({ s with as_ := s.as_ ++ [⟨((MC.findL s.ps x0).map Int.ofNat).getD 0, MU.atI (MU.numsE [x1, x2]).1 0, MU.atI (MU.numsE [x1, x2]).1 1⟩] }, 0) from ((if_neg (show ¬ MU.wAside = MU.wProduct by decide)).trans ((if_neg (show ¬ MU.wAside = MU.wBidder by decide)).trans ((if_neg (show ¬ MU.wAside = MU.wCap by decide)).trans ((if_pos rfl))))).trans ((if_neg (by simp)).trans rfl))
  obtain ⟨i0, hi, hz0, hz1, hz2⟩ := info_parts infoAs
  clear h2
  go_enter Tryz.func32, Tryz.ntmps32
  go_upto_region 2 with (fail)
  obtain ⟨W, hW⟩ : ∃ W, W = ((w.alloc (.cells #[.slice A1 s.ps.length c1, .slice A2 s.bs.length c2, .slice A3 s.cs.length c3, .slice A4 s.as_.length c4] 27)).alloc (.cells #[.slice none 0 0, .slice none 0 0, .slice none 0 0, .slice none 0 0] 27)) := ⟨_, rfl⟩
  rw [← hW] at L0 ⊢
  clear hW h hw
  obtain ⟨t0, t1, t2, t3⟩ := L0.out.bx.cells
  obtain ⟨b0, b1, b2, b3⟩ := L0.out.rs.cells
  obtain ⟨f0, f1, f2, f3⟩ := L0.out.rs.free
  have hzb := L0.out.bx.lt
  have hzr := L0.out.rs.lt
  have y0 := L0.out.wd.str_cell 0 MU.wAside rfl
  have y1 := L0.out.wd.str_cell 1 x0 rfl
  go_wp2
  obtain ⟨Ap, cp0, hvp, hlp⟩ := L0.out.os.p.form (by omega)
  cases hvp
  have RF := Lib.hid (fun w' (hb : Below W.heap.size W w') => rfind_any A1 s.ps.length c1 s.ps x0 w' ((hlp.keep hb).prs (by omega)))
  clear hlp
  have k0 := cell_regrown t0
  have k1 := cell_regrown y1
  have hmo : Tryz.prog.follows .mixedOrders = true := by kernel_rfl
  cases hf : MC.findL s.ps x0 with
  | none =>
    rw [if_pos hf] at E
    have RF2 : ∀ w' (hb : Below W.heap.size W w'), Calls Tryz.prog 59 #[.slice A1 s.ps.length c1, .string (str x0)] w' (Gives (.tuple #[.int .i64 0, .bool false]) w') := fun w' hb => by have := RF.out w' hb; rw [hf] at this; exact this
    have cS := fun d os => Calls.regrown_of (RF2 (Go.Sort.grow (redrawn W d) os) (below_regrown W d os))
    refine wp_region_quiet_below hmo (by kernel_rfl) ?_
    repeat (quiet_step (exact cS _ _))
    refine wpQuiet_nil ?_
    rintro _ ⟨pz, rfl⟩
    have hb1 := below_regrown W pz.d pz.os
    obtain ⟨w1, hw1⟩ : ∃ w1, w1 = Go.Sort.grow (redrawn W pz.d) pz.os := ⟨_, rfl⟩
    rw [← hw1] at hb1 ⊢
    have L1 := Lib.hid (L0.out.keep hB hb1)
    clear L0 hb1 hw1 k0 k1 cS RF RF2 t0 t1 t2 t3 b0 b1 b2 b3 f0 f1 f2 f3 y0 y1
    obtain ⟨t0, t1, t2, t3⟩ := L1.out.bx.cells
    obtain ⟨b0, b1, b2, b3⟩ := L1.out.rs.cells
    obtain ⟨f0, f1, f2, f3⟩ := L1.out.rs.free
    have hzb := L1.out.bx.lt
    have hzr := L1.out.rs.lt
    have y0 := L1.out.wd.str_cell 0 MU.wAside rfl
    have y1 := L1.out.wd.str_cell 1 x0 rfl
    clear hf
    have R := Lib.hid (L1.out.fin hB E.out)
    have R5 := Lib.hid (L1.out.rs.put4 (.slice A1 s.ps.length c1) (.slice A2 s.bs.length c2) (.slice A3 s.cs.length c3) (.slice A4 s.as_.length c4))
    clear L1
    go_wp2
    obtain ⟨W5, hW5⟩ : ∃ W5, W5 = ((((w1.setCell ⟨w.heap.size + 1, 0, none⟩ (.slice A1 s.ps.length c1)).setCell ⟨w.heap.size + 1, 1, none⟩ (.slice A2 s.bs.length c2)).setCell ⟨w.heap.size + 1, 2, none⟩ (.slice A3 s.cs.length c3)).setCell ⟨w.heap.size + 1, 3, none⟩ (.slice A4 s.as_.length c4)) := ⟨_, rfl⟩
    rw [← hW5] at R R5 ⊢
    clear t0 t1 t2 t3 b0 b1 b2 b3 f0 f1 f2 f3 hW5
    obtain ⟨b0, b1, b2, b3⟩ := R5.out.cells
    refine bodyPost_ret (v := .tuple #[.agg #[.slice A1 s.ps.length c1, .slice A2 s.bs.length c2, .slice A3 s.cs.length c3, .slice A4 s.as_.length c4], .int .i64 6]) (by simp [results, Tryz.results32, go_sem, b0, b1, b2, b3]) rfl ?_
    exact R.out
  | some m =>
    have hv0 : ((MC.findL s.ps x0).map Int.ofNat).getD 0 = (m : Int) := by rw [hf]; rfl
    rw [if_neg (by rw [hf]; simp), hv0] at E
    have hm := MC.find_lt hf
    have RF2 : ∀ w' (hb : Below W.heap.size W w'), Calls Tryz.prog 59 #[.slice A1 s.ps.length c1, .string (str x0)] w' (Gives (.tuple #[.int .i64 m, .bool true]) w') := fun w' hb => by have := RF.out w' hb; rw [hf] at this; exact this
    have cS := fun d os => Calls.regrown_of (RF2 (Go.Sort.grow (redrawn W d) os) (below_regrown W d os))
    refine wp_region_quiet_below hmo (by kernel_rfl) ?_
    repeat (quiet_step (exact cS _ _))
    refine wpQuiet_nil ?_
    rintro _ ⟨pz, rfl⟩
    have hb1 := below_regrown W pz.d pz.os
    obtain ⟨w1, hw1⟩ : ∃ w1, w1 = Go.Sort.grow (redrawn W pz.d) pz.os := ⟨_, rfl⟩
    rw [← hw1] at hb1 ⊢
    have L1 := Lib.hid (L0.out.keep hB hb1)
    clear L0 hb1 hw1 k0 k1 cS RF RF2 t0 t1 t2 t3 b0 b1 b2 b3 f0 f1 f2 f3 y0 y1
    obtain ⟨t0, t1, t2, t3⟩ := L1.out.bx.cells
    obtain ⟨b0, b1, b2, b3⟩ := L1.out.rs.cells
    obtain ⟨f0, f1, f2, f3⟩ := L1.out.rs.free
    have hzb := L1.out.bx.lt
    have hzr := L1.out.rs.lt
    have y0 := L1.out.wd.str_cell 0 MU.wAside rfl
    have y1 := L1.out.wd.str_cell 1 x0 rfl
    have hd0 : 0 ≤ (m : Int) ∧ (m : Int) ≤ 5000 := by omega
    clear hf hv0 hm
    generalize (m : Int) = d0 at *
    go_wp2_with fail
    obtain ⟨AL, cL, hvL, hlL⟩ := L1.out.wd.form (by show 4 ≤ _; decide)
    cases hvL
    refine (rnums_own (some ⟨gw, 0, none⟩) 4 cw 2 [MU.wAside, x0, x1, x2] w1 hlL (by decide) (by decide)).mono ?_
    rintro ev w2 ⟨vn, rfl, hO, hb2⟩
    have L2 := Lib.hid (L1.out.keep hB hb2)
    have HO := Lib.hid hO
    clear L1 hlL hO hb2 t0 t1 t2 t3 b0 b1 b2 b3 f0 f1 f2 f3 y0 y1
    simp only [List.drop_succ_cons, List.drop_zero] at HO ⊢
    have NU := Lib.hid (nums_up [x1, x2]).2
    obtain ⟨t0, t1, t2, t3⟩ := L2.out.bx.cells
    obtain ⟨b0, b1, b2, b3⟩ := L2.out.rs.cells
    obtain ⟨f0, f1, f2, f3⟩ := L2.out.rs.free
    have hzb := L2.out.bx.lt
    have hzr := L2.out.rs.lt
    have y0 := L2.out.wd.str_cell 0 MU.wAside rfl
    by_cases hN : (MU.numsE [x1, x2]).2 = 0
    · have HD := NU.out hN
      rw [if_neg (show ¬ (MU.numsE [x1, x2]).2 ≠ 0 by rw [hN]; simp)] at E
      rw [hN]
      rw [HD] at HO E
      simp only [List.map_cons, List.map_nil] at HO E
      clear NU hN HD
      generalize (MU.digE x1).1 = d1 at *
      generalize (MU.digE x2).1 = d2 at *
      obtain ⟨gn, cn, rfl, hcn, hgn⟩ := HO.out.int_open
      have HX := Lib.hid (show asdE.fine ⟨d0, d1, d2⟩ from ⟨(by dsimp only; omega), (by dsimp only; omega), (by dsimp only; omega)⟩)
      have ER := Lib.hid (show MU.lineE s [MU.wAside, x0, x1, x2] = ({ s with as_ := s.as_ ++ [⟨d0, d1, d2⟩] }, 0) from E.out)
      clear E
      go_wp2
      clear t0 t1 t2 t3 b0 b1 b2 b3 f0 f1 f2 f3 y0 q1 q2 q3 q4
      obtain ⟨w5, hw5⟩ : ∃ w5, w5 = w2.drew := ⟨_, rfl⟩
      have hb5 := below_drawn w2
      rw [← hw5] at hb5
      have HL := Lib.hid (L2.out.keep hB hb5)
      have HWd := Lib.hid HL.out.wd
      have HN := Lib.hid ((HO.out.low0).keep hb5)
      have hszw : w.heap.size < w5.heap.size := HL.out.bx.lt
      clear L2 HO hb5
      have HF5 : w5.cell? ⟨gn, 0, none⟩ = some (.int .i64 d1) ∧ w5.cell? ⟨gn, 1, none⟩ = some (.int .i64 d2) := ⟨HN.out.int_cell 0 d1 rfl, HN.out.int_cell 1 d2 rfl⟩
      rw [hw5] at HF5
      refine wp_region_held_drew (S := fun w' => w'.cell? ⟨gn, 0, none⟩ = some (.int .i64 d1) ∧ w'.cell? ⟨gn, 1, none⟩ = some (.int .i64 d2)) (by kernel_rfl) HF5 (fun hHeld => ?_)
      rw [← hw5] at hHeld ⊢
      clear hw5 HF5
      refine wpAnyH_take (i := 0) (oi := { dst := some 101, op := Op.fieldAddr 27 (Operand.tmp 2) 3, type := 0, pos := "ref.go:290", after := #[], guard := none }) (v := ?_) rfl (by kernel_rfl) (by kernel_rfl) (by kernel_rfl) (fun _ _ _ h => h) (Or.inl ⟨by rfl, ?_⟩) (by assumption) ?_
      rotate_left
      · intro w hSw; (try dsimp only at hSw); obtain ⟨s0, s1⟩ := hSw; go_simp; try with_reducible rfl
      (try simp only [Act.put, List.setIfInBounds_toArray, List.set_cons_zero, List.set_cons_succ])
      refine wpAnyH_take (i := 2) (oi := { dst := some 103, op := Op.move (Operand.tmp 7), type := 3, pos := "ref.go:290", after := #[], guard := none }) (v := ?_) rfl (by kernel_rfl) (by kernel_rfl) (by kernel_rfl) (fun _ _ _ h => h) (Or.inl ⟨by rfl, ?_⟩) (by assumption) ?_
      rotate_left
      · intro w hSw; (try dsimp only at hSw); obtain ⟨s0, s1⟩ := hSw; go_simp; try with_reducible rfl
      (try simp only [Act.put, List.setIfInBounds_toArray, List.set_cons_zero, List.set_cons_succ])
      refine wpAnyH_take (i := 3) (oi := { dst := some 104, op := Op.move (Operand.tmp 11), type := 100, pos := "ref.go:290", after := #[], guard := none }) (v := ?_) rfl (by kernel_rfl) (by kernel_rfl) (by kernel_rfl) (fun _ _ _ h => h) (Or.inl ⟨by rfl, ?_⟩) (by assumption) ?_
      rotate_left
      · intro w hSw; (try dsimp only at hSw); obtain ⟨s0, s1⟩ := hSw; go_simp; try with_reducible rfl
      (try simp only [Act.put, List.setIfInBounds_toArray, List.set_cons_zero, List.set_cons_succ])
      refine wpAnyH_take (i := 4) (oi := { dst := some 105, op := Op.indexAddr 100 (Operand.tmp 104) (Operand.const (Value.int IntKind.i64 0)), type := 0, pos := "ref.go:290", after := #[{ on := 3, ground := Ground.data }], guard := none }) (v := ?_) rfl (by kernel_rfl) (by kernel_rfl) (by kernel_rfl) (fun _ _ _ h => h) (Or.inl ⟨by rfl, ?_⟩) (by assumption) ?_
      rotate_left
      · intro w hSw; (try dsimp only at hSw); obtain ⟨s0, s1⟩ := hSw; go_simp; try with_reducible rfl
      (try simp only [Act.put, List.setIfInBounds_toArray, List.set_cons_zero, List.set_cons_succ])
      refine wpAnyH_take (i := 5) (oi := { dst := some 106, op := Op.load 2 (Operand.tmp 105), type := 2, pos := "ref.go:290", after := #[{ on := 4, ground := Ground.data }], guard := none }) (v := ?_) rfl (by kernel_rfl) (by kernel_rfl) (by kernel_rfl) (fun _ _ _ h => h) (Or.inl ⟨by rfl, ?_⟩) (by assumption) ?_
      rotate_left
      · intro w hSw; (try dsimp only at hSw); obtain ⟨s0, s1⟩ := hSw; go_simp; try with_reducible rfl
      (try simp only [Act.put, List.setIfInBounds_toArray, List.set_cons_zero, List.set_cons_succ])
      refine wpAnyH_take (i := 6) (oi := { dst := some 107, op := Op.move (Operand.tmp 11), type := 100, pos := "ref.go:290", after := #[], guard := none }) (v := ?_) rfl (by kernel_rfl) (by kernel_rfl) (by kernel_rfl) (fun _ _ _ h => h) (Or.inl ⟨by rfl, ?_⟩) (by assumption) ?_
      rotate_left
      · intro w hSw; (try dsimp only at hSw); obtain ⟨s0, s1⟩ := hSw; go_simp; try with_reducible rfl
      (try simp only [Act.put, List.setIfInBounds_toArray, List.set_cons_zero, List.set_cons_succ])
      refine wpAnyH_take (i := 7) (oi := { dst := some 108, op := Op.indexAddr 100 (Operand.tmp 107) (Operand.const (Value.int IntKind.i64 1)), type := 0, pos := "ref.go:290", after := #[{ on := 6, ground := Ground.data }], guard := none }) (v := ?_) rfl (by kernel_rfl) (by kernel_rfl) (by kernel_rfl) (fun _ _ _ h => h) (Or.inl ⟨by rfl, ?_⟩) (by assumption) ?_
      rotate_left
      · intro w hSw; (try dsimp only at hSw); obtain ⟨s0, s1⟩ := hSw; go_simp; try with_reducible rfl
      (try simp only [Act.put, List.setIfInBounds_toArray, List.set_cons_zero, List.set_cons_succ])
      refine wpAnyH_take (i := 8) (oi := { dst := some 109, op := Op.load 2 (Operand.tmp 108), type := 2, pos := "ref.go:290", after := #[{ on := 7, ground := Ground.data }], guard := none }) (v := ?_) rfl (by kernel_rfl) (by kernel_rfl) (by kernel_rfl) (fun _ _ _ h => h) (Or.inl ⟨by rfl, ?_⟩) (by assumption) ?_
      rotate_left
      · intro w hSw; (try dsimp only at hSw); obtain ⟨s0, s1⟩ := hSw; go_simp; try with_reducible rfl
      (try simp only [Act.put, List.setIfInBounds_toArray, List.set_cons_zero, List.set_cons_succ])
      refine wpAnyH_take (i := 9) (oi := { dst := some 110, op := Op.build 68 #[(0, Operand.tmp 103), (1, Operand.tmp 106), (2, Operand.tmp 109)], type := 68, pos := "ref.go:290", after := #[{ on := 2, ground := Ground.data }, { on := 5, ground := Ground.data }, { on := 8, ground := Ground.data }], guard := none }) (v := ?_) rfl (by kernel_rfl) (by kernel_rfl) (by kernel_rfl) (fun _ _ _ h => h) (Or.inl ⟨by rfl, ?_⟩) (by assumption) ?_
      rotate_left
      · intro w hSw; (try dsimp only at hSw); obtain ⟨s0, s1⟩ := hSw; go_simp; try with_reducible rfl
      (try simp only [Act.put, List.setIfInBounds_toArray, List.set_cons_zero, List.set_cons_succ])
      refine wpAnyH_ready (rs := [1, 10]) (by kernel_rfl) (by simp) ?_
      refine AllReadyH.cons (o := { dst := some 102, op := Op.load 25 (Operand.tmp 101), type := 25, pos := "ref.go:290", after := #[{ on := 0, ground := Ground.data }], guard := none }) rfl (fun K hK => ?_) (AllReadyH.cons (o := { dst := some 111, op := Op.buildSlice 25 1 #[(0, Operand.tmp 110)], type := 25, pos := "ref.go:290", after := #[{ on := 9, ground := Ground.data }], guard := none }) rfl (fun K hK => ?_) AllReadyH.nil)
      · obtain ⟨t0, t1, t2, t3⟩ := HL.out.bx.cells
        go_simp
        refine hK.out _ _ ?_ (fun hHeld => ?_)
        · exact ⟨HN.out.int_cell 0 d1 rfl, HN.out.int_cell 1 d2 rfl⟩
        clear t0 t1 t2 t3
        clear hK K
        (try simp only [Act.put, List.setIfInBounds_toArray, List.set_cons_zero, List.set_cons_succ])
        refine wpAnyH_ready (rs := [10]) (by kernel_rfl) (by simp) ?_
        refine AllReadyH.cons (o := { dst := some 111, op := Op.buildSlice 25 1 #[(0, Operand.tmp 110)], type := 25, pos := "ref.go:290", after := #[{ on := 9, ground := Ground.data }], guard := none }) rfl (fun K hK => ?_) AllReadyH.nil
        go_simp
        obtain ⟨W6, hW6⟩ : ∃ W6, W6 = w5.alloc (.cells #[.int .i64 d0, .int .i64 d1, .int .i64 d2] 68) := ⟨_, rfl⟩
        have NB := Lib.hid (heap_new w5 (.cells #[.int .i64 d0, .int .i64 d1, .int .i64 d2] 68))
        have hb6 := below_new w5 (.cells #[.int .i64 d0, .int .i64 d1, .int .i64 d2] 68)
        rw [← hW6] at NB hb6 ⊢
        clear hW6
        replace HL := Lib.hid (HL.out.keep hB hb6)
        replace HWd := Lib.hid (HWd.out.keep hb6)
        replace HN := Lib.hid (HN.out.keep hb6)
        have hsz6 := hb6.size
        clear hb6
        refine hK.out _ _ ?_ (fun hHeld => ?_)
        · exact ⟨HN.out.int_cell 0 d1 rfl, HN.out.int_cell 1 d2 rfl⟩
        clear hK K
        (try simp only [Act.put, List.setIfInBounds_toArray, List.set_cons_zero, List.set_cons_succ])
        refine wpAnyH_ready (rs := [11]) (by kernel_rfl) (by simp) ?_
        refine AllReadyH.cons (o := { dst := some 112, op := Op.call { callee := Callee.builtin Builtin.append, args := #[Operand.tmp 102, Operand.tmp 111], argTypes := #[25, 25] }, type := 25, pos := "ref.go:290", after := #[{ on := 1, ground := Ground.data }, { on := 10, ground := Ground.data }], guard := none }) rfl (fun K hK => ?_) AllReadyH.nil
        refine step_append_lies _ (by rfl) _ _ _ (by rfl) B 68 i0 (.agg #[.int .i64 0, .int .i64 0, .int .i64 0]) 3 24 Tryz.underlying25 hi hz0 hz1 hz2 rfl (by decide) _ _ _ (by rfl) HL.out.os.a.1 ⟨w5.heap.size, 0, none⟩ 1 1 (asdE.cells ⟨d0, d1, d2⟩) (by rfl) rfl ?c1 ?c2 (by decide) ?c4 ?c5 ?c6 _ rfl ?_
        case c1 => exact World.news_of_block NB.out
        case c2 => exact asdE.one ⟨d0, d1, d2⟩
        case c4 => unfold maxLen; omega
        case c5 => omega
        case c6 => omega
        intro gg cp w7 hown hgrow hat hlt7
        have T7 := Lib.hid (HL.out.stay3 hgrow)
        have L8 := Lib.hid (HL.out.app3 (x := ⟨d0, d1, d2⟩) hB HX.out hown hgrow)
        replace HWd := Lib.hid (HL.out.words3 hgrow)
        replace HN := Lib.hid (HL.out.nums3 HN.out hgrow)
        clear hown hgrow hat hlt7
        refine hK.out _ _ ?_ (fun hHeld => ?_)
        · exact ⟨HN.out.int_cell 0 d1 rfl, HN.out.int_cell 1 d2 rfl⟩
        clear hK K
        (try simp only [Act.put, List.setIfInBounds_toArray, List.set_cons_zero, List.set_cons_succ])
        refine wpAnyH_take (i := 12) (oi := { dst := some 113, op := Op.fieldAddr 27 (Operand.tmp 2) 3, type := 0, pos := "ref.go:290", after := #[{ on := 0, ground := Ground.phase }, { on := 1, ground := Ground.phase }, { on := 2, ground := Ground.phase }, { on := 3, ground := Ground.phase }, { on := 4, ground := Ground.phase }, { on := 5, ground := Ground.phase }, { on := 6, ground := Ground.phase }, { on := 7, ground := Ground.phase }, { on := 8, ground := Ground.phase }, { on := 9, ground := Ground.phase }, { on := 10, ground := Ground.phase }, { on := 11, ground := Ground.phase }], guard := none }) (v := ?_) rfl (by kernel_rfl) (by kernel_rfl) (by kernel_rfl) (fun _ _ _ h => h) (Or.inl ⟨by rfl, ?_⟩) (by assumption) ?_
        rotate_left
        · intro w hSw; (try dsimp only at hSw); obtain ⟨s0, s1⟩ := hSw; go_simp; try with_reducible rfl
        (try simp only [Act.put, List.setIfInBounds_toArray, List.set_cons_zero, List.set_cons_succ])
        refine wpAnyH_ready (rs := [13]) (by kernel_rfl) (by simp) ?_
        refine AllReadyH.cons (o := { dst := none, op := Op.store 25 (Operand.tmp 113) (Operand.tmp 112), type := 0, pos := "ref.go:290", after := #[{ on := 12, ground := Ground.data }, { on := 11, ground := Ground.data }, { on := 11, ground := Ground.chain }, { on := 0, ground := Ground.phase }, { on := 1, ground := Ground.phase }, { on := 2, ground := Ground.phase }, { on := 3, ground := Ground.phase }, { on := 4, ground := Ground.phase }, { on := 5, ground := Ground.phase }, { on := 6, ground := Ground.phase }, { on := 7, ground := Ground.phase }, { on := 8, ground := Ground.phase }, { on := 9, ground := Ground.phase }, { on := 10, ground := Ground.phase }, { on := 11, ground := Ground.phase }], guard := none }) rfl (fun K hK => ?_) AllReadyH.nil
        obtain ⟨t0, t1, t2, t3⟩ := T7.out.cells
        obtain ⟨f0, f1, f2, f3⟩ := T7.out.free
        have hzz := T7.out.lt
        go_simp
        replace HN := Lib.hid (HN.out.turn (g_set w7 w.heap.size 3 (.slice (some ⟨gg, 0, none⟩) (s.as_.length + 1) cp)) (HN.out.ne T7.out (by decide)))
        replace HWd := Lib.hid L8.out.wd
        refine hK.out _ _ ?_ (fun hHeld => ?_)
        · exact ⟨HN.out.int_cell 0 d1 rfl, HN.out.int_cell 1 d2 rfl⟩
        clear t0 t1 t2 t3 f0 f1 f2 f3
        clear hK K
        (try simp only [Act.put, List.setIfInBounds_toArray, List.set_cons_zero, List.set_cons_succ])
        refine wpAnyH_done (by kernel_rfl) ?_ _
        obtain ⟨W8, hW8⟩ : ∃ W8, W8 = w7.setCell ⟨w.heap.size, 3, none⟩ (.slice (some ⟨gg, 0, none⟩) (s.as_.length + 1) cp) := ⟨_, rfl⟩
        rw [← hW8] at L8 ⊢
        clear hW8 HWd HN T7 HL NB
        obtain ⟨t0, t1, t2, t3⟩ := L8.out.bx.cells
        obtain ⟨b0, b1, b2, b3⟩ := L8.out.rs.cells
        obtain ⟨f0, f1, f2, f3⟩ := L8.out.rs.free
        have hzb := L8.out.bx.lt
        have hzr := L8.out.rs.lt
        have R := Lib.hid (L8.out.fin hB ER.out)
        have R5 := Lib.hid (L8.out.rs.put4 (.slice A1 s.ps.length c1) (.slice A2 s.bs.length c2) (.slice A3 s.cs.length c3) (.slice (some ⟨gg, 0, none⟩) (s.as_.length + 1) cp))
        clear L8
        go_wp2
        obtain ⟨W5, hW5⟩ : ∃ W5, W5 = ((((W8.setCell ⟨w.heap.size + 1, 0, none⟩ (.slice A1 s.ps.length c1)).setCell ⟨w.heap.size + 1, 1, none⟩ (.slice A2 s.bs.length c2)).setCell ⟨w.heap.size + 1, 2, none⟩ (.slice A3 s.cs.length c3)).setCell ⟨w.heap.size + 1, 3, none⟩ (.slice (some ⟨gg, 0, none⟩) (s.as_.length + 1) cp)) := ⟨_, rfl⟩
        rw [← hW5] at R R5 ⊢
        clear t0 t1 t2 t3 b0 b1 b2 b3 f0 f1 f2 f3 hW5
        obtain ⟨b0, b1, b2, b3⟩ := R5.out.cells
        refine bodyPost_ret (v := .tuple #[.agg #[.slice A1 s.ps.length c1, .slice A2 s.bs.length c2, .slice A3 s.cs.length c3, .slice (some ⟨gg, 0, none⟩) (s.as_.length + 1) cp], .int .i64 0]) (by simp [results, Tryz.results32, go_sem, b0, b1, b2, b3]) rfl ?_
        exact R.out
      · go_simp
        obtain ⟨W6, hW6⟩ : ∃ W6, W6 = w5.alloc (.cells #[.int .i64 d0, .int .i64 d1, .int .i64 d2] 68) := ⟨_, rfl⟩
        have NB := Lib.hid (heap_new w5 (.cells #[.int .i64 d0, .int .i64 d1, .int .i64 d2] 68))
        have hb6 := below_new w5 (.cells #[.int .i64 d0, .int .i64 d1, .int .i64 d2] 68)
        rw [← hW6] at NB hb6 ⊢
        clear hW6
        replace HL := Lib.hid (HL.out.keep hB hb6)
        replace HWd := Lib.hid (HWd.out.keep hb6)
        replace HN := Lib.hid (HN.out.keep hb6)
        have hsz6 := hb6.size
        clear hb6
        refine hK.out _ _ ?_ (fun hHeld => ?_)
        · exact ⟨HN.out.int_cell 0 d1 rfl, HN.out.int_cell 1 d2 rfl⟩
        clear hK K
        (try simp only [Act.put, List.setIfInBounds_toArray, List.set_cons_zero, List.set_cons_succ])
        refine wpAnyH_ready (rs := [1]) (by kernel_rfl) (by simp) ?_
        refine AllReadyH.cons (o := { dst := some 102, op := Op.load 25 (Operand.tmp 101), type := 25, pos := "ref.go:290", after := #[{ on := 0, ground := Ground.data }], guard := none }) rfl (fun K hK => ?_) AllReadyH.nil
        obtain ⟨t0, t1, t2, t3⟩ := HL.out.bx.cells
        go_simp
        refine hK.out _ _ ?_ (fun hHeld => ?_)
        · exact ⟨HN.out.int_cell 0 d1 rfl, HN.out.int_cell 1 d2 rfl⟩
        clear t0 t1 t2 t3
        clear hK K
        (try simp only [Act.put, List.setIfInBounds_toArray, List.set_cons_zero, List.set_cons_succ])
        refine wpAnyH_ready (rs := [11]) (by kernel_rfl) (by simp) ?_
        refine AllReadyH.cons (o := { dst := some 112, op := Op.call { callee := Callee.builtin Builtin.append, args := #[Operand.tmp 102, Operand.tmp 111], argTypes := #[25, 25] }, type := 25, pos := "ref.go:290", after := #[{ on := 1, ground := Ground.data }, { on := 10, ground := Ground.data }], guard := none }) rfl (fun K hK => ?_) AllReadyH.nil
        refine step_append_lies _ (by rfl) _ _ _ (by rfl) B 68 i0 (.agg #[.int .i64 0, .int .i64 0, .int .i64 0]) 3 24 Tryz.underlying25 hi hz0 hz1 hz2 rfl (by decide) _ _ _ (by rfl) HL.out.os.a.1 ⟨w5.heap.size, 0, none⟩ 1 1 (asdE.cells ⟨d0, d1, d2⟩) (by rfl) rfl ?c1 ?c2 (by decide) ?c4 ?c5 ?c6 _ rfl ?_
        case c1 => exact World.news_of_block NB.out
        case c2 => exact asdE.one ⟨d0, d1, d2⟩
        case c4 => unfold maxLen; omega
        case c5 => omega
        case c6 => omega
        intro gg cp w7 hown hgrow hat hlt7
        have T7 := Lib.hid (HL.out.stay3 hgrow)
        have L8 := Lib.hid (HL.out.app3 (x := ⟨d0, d1, d2⟩) hB HX.out hown hgrow)
        replace HWd := Lib.hid (HL.out.words3 hgrow)
        replace HN := Lib.hid (HL.out.nums3 HN.out hgrow)
        clear hown hgrow hat hlt7
        refine hK.out _ _ ?_ (fun hHeld => ?_)
        · exact ⟨HN.out.int_cell 0 d1 rfl, HN.out.int_cell 1 d2 rfl⟩
        clear hK K
        (try simp only [Act.put, List.setIfInBounds_toArray, List.set_cons_zero, List.set_cons_succ])
        refine wpAnyH_take (i := 12) (oi := { dst := some 113, op := Op.fieldAddr 27 (Operand.tmp 2) 3, type := 0, pos := "ref.go:290", after := #[{ on := 0, ground := Ground.phase }, { on := 1, ground := Ground.phase }, { on := 2, ground := Ground.phase }, { on := 3, ground := Ground.phase }, { on := 4, ground := Ground.phase }, { on := 5, ground := Ground.phase }, { on := 6, ground := Ground.phase }, { on := 7, ground := Ground.phase }, { on := 8, ground := Ground.phase }, { on := 9, ground := Ground.phase }, { on := 10, ground := Ground.phase }, { on := 11, ground := Ground.phase }], guard := none }) (v := ?_) rfl (by kernel_rfl) (by kernel_rfl) (by kernel_rfl) (fun _ _ _ h => h) (Or.inl ⟨by rfl, ?_⟩) (by assumption) ?_
        rotate_left
        · intro w hSw; (try dsimp only at hSw); obtain ⟨s0, s1⟩ := hSw; go_simp; try with_reducible rfl
        (try simp only [Act.put, List.setIfInBounds_toArray, List.set_cons_zero, List.set_cons_succ])
        refine wpAnyH_ready (rs := [13]) (by kernel_rfl) (by simp) ?_
        refine AllReadyH.cons (o := { dst := none, op := Op.store 25 (Operand.tmp 113) (Operand.tmp 112), type := 0, pos := "ref.go:290", after := #[{ on := 12, ground := Ground.data }, { on := 11, ground := Ground.data }, { on := 11, ground := Ground.chain }, { on := 0, ground := Ground.phase }, { on := 1, ground := Ground.phase }, { on := 2, ground := Ground.phase }, { on := 3, ground := Ground.phase }, { on := 4, ground := Ground.phase }, { on := 5, ground := Ground.phase }, { on := 6, ground := Ground.phase }, { on := 7, ground := Ground.phase }, { on := 8, ground := Ground.phase }, { on := 9, ground := Ground.phase }, { on := 10, ground := Ground.phase }, { on := 11, ground := Ground.phase }], guard := none }) rfl (fun K hK => ?_) AllReadyH.nil
        obtain ⟨t0, t1, t2, t3⟩ := T7.out.cells
        obtain ⟨f0, f1, f2, f3⟩ := T7.out.free
        have hzz := T7.out.lt
        go_simp
        replace HN := Lib.hid (HN.out.turn (g_set w7 w.heap.size 3 (.slice (some ⟨gg, 0, none⟩) (s.as_.length + 1) cp)) (HN.out.ne T7.out (by decide)))
        replace HWd := Lib.hid L8.out.wd
        refine hK.out _ _ ?_ (fun hHeld => ?_)
        · exact ⟨HN.out.int_cell 0 d1 rfl, HN.out.int_cell 1 d2 rfl⟩
        clear t0 t1 t2 t3 f0 f1 f2 f3
        clear hK K
        (try simp only [Act.put, List.setIfInBounds_toArray, List.set_cons_zero, List.set_cons_succ])
        refine wpAnyH_done (by kernel_rfl) ?_ _
        obtain ⟨W8, hW8⟩ : ∃ W8, W8 = w7.setCell ⟨w.heap.size, 3, none⟩ (.slice (some ⟨gg, 0, none⟩) (s.as_.length + 1) cp) := ⟨_, rfl⟩
        rw [← hW8] at L8 ⊢
        clear hW8 HWd HN T7 HL NB
        obtain ⟨t0, t1, t2, t3⟩ := L8.out.bx.cells
        obtain ⟨b0, b1, b2, b3⟩ := L8.out.rs.cells
        obtain ⟨f0, f1, f2, f3⟩ := L8.out.rs.free
        have hzb := L8.out.bx.lt
        have hzr := L8.out.rs.lt
        have R := Lib.hid (L8.out.fin hB ER.out)
        have R5 := Lib.hid (L8.out.rs.put4 (.slice A1 s.ps.length c1) (.slice A2 s.bs.length c2) (.slice A3 s.cs.length c3) (.slice (some ⟨gg, 0, none⟩) (s.as_.length + 1) cp))
        clear L8
        go_wp2
        obtain ⟨W5, hW5⟩ : ∃ W5, W5 = ((((W8.setCell ⟨w.heap.size + 1, 0, none⟩ (.slice A1 s.ps.length c1)).setCell ⟨w.heap.size + 1, 1, none⟩ (.slice A2 s.bs.length c2)).setCell ⟨w.heap.size + 1, 2, none⟩ (.slice A3 s.cs.length c3)).setCell ⟨w.heap.size + 1, 3, none⟩ (.slice (some ⟨gg, 0, none⟩) (s.as_.length + 1) cp)) := ⟨_, rfl⟩
        rw [← hW5] at R R5 ⊢
        clear t0 t1 t2 t3 b0 b1 b2 b3 f0 f1 f2 f3 hW5
        obtain ⟨b0, b1, b2, b3⟩ := R5.out.cells
        refine bodyPost_ret (v := .tuple #[.agg #[.slice A1 s.ps.length c1, .slice A2 s.bs.length c2, .slice A3 s.cs.length c3, .slice (some ⟨gg, 0, none⟩) (s.as_.length + 1) cp], .int .i64 0]) (by simp [results, Tryz.results32, go_sem, b0, b1, b2, b3]) rfl ?_
        exact R.out
    · have hk' : ((MU.numsE [x1, x2]).2 != 0) = true := bne_iff_ne.2 hN
      rw [if_pos hN] at E
      clear NU HO
      generalize (MU.numsE [x1, x2]).2 = kk at *
      have R := Lib.hid (L2.out.fin hB E.out)
      have R5 := Lib.hid (L2.out.rs.put4 (.slice A1 s.ps.length c1) (.slice A2 s.bs.length c2) (.slice A3 s.cs.length c3) (.slice A4 s.as_.length c4))
      clear L2
      go_wp2
      obtain ⟨W5, hW5⟩ : ∃ W5, W5 = ((((w2.setCell ⟨w.heap.size + 1, 0, none⟩ (.slice A1 s.ps.length c1)).setCell ⟨w.heap.size + 1, 1, none⟩ (.slice A2 s.bs.length c2)).setCell ⟨w.heap.size + 1, 2, none⟩ (.slice A3 s.cs.length c3)).setCell ⟨w.heap.size + 1, 3, none⟩ (.slice A4 s.as_.length c4)) := ⟨_, rfl⟩
      rw [← hW5] at R R5 ⊢
      clear t0 t1 t2 t3 b0 b1 b2 b3 f0 f1 f2 f3 hW5
      obtain ⟨b0, b1, b2, b3⟩ := R5.out.cells
      refine bodyPost_ret (v := .tuple #[.agg #[.slice A1 s.ps.length c1, .slice A2 s.bs.length c2, .slice A3 s.cs.length c3, .slice A4 s.as_.length c4], .int .i64 kk]) (by simp [results, Tryz.results32, go_sem, b0, b1, b2, b3]) rfl ?_
      exact R.out

theorem rline_any (B : Nat) (s : Su) (A1 A2 A3 A4 : Option Addr) (c1 c2 c3 c4 : Nat) (vw : Value) (x : List UInt8) (r : List (List UInt8)) (w : World) (h : OS w B s (.slice A1 s.ps.length c1) (.slice A2 s.bs.length c2) (.slice A3 s.cs.length c3) (.slice A4 s.as_.length c4)) (hB : B ≤ w.heap.size) (hw : OwnL strE 9 w 0 vw (x :: r)) (hn5 : r.length ≤ 5000) (hi : RowsI s 5000) : Calls Tryz.prog 32 #[.agg #[.slice A1 s.ps.length c1, .slice A2 s.bs.length c2, .slice A3 s.cs.length c3, .slice A4 s.as_.length c4], vw] w (GivesLn (MU.lineE s (x :: r)) B w) := by
  obtain ⟨k1, k2, k3, k4, _⟩ := hi
  by_cases h1 : x = MU.wProduct
  · by_cases hn : r.length = 5
    · exact rline_p B s A1 A2 A3 A4 c1 c2 c3 c4 vw x r w h hB hw hn5 h1 hn k1
    · exact rline_long_p B s A1 A2 A3 A4 c1 c2 c3 c4 vw x r w h hB hw hn5 h1 hn
  by_cases h2 : x = MU.wBidder
  · by_cases hn : r.length = 4
    · exact rline_b B s A1 A2 A3 A4 c1 c2 c3 c4 vw x r w h hB hw hn5 h2 hn k2
    · exact rline_long_b B s A1 A2 A3 A4 c1 c2 c3 c4 vw x r w h hB hw hn5 h2 hn
  by_cases h3 : x = MU.wCap
  · by_cases hn : r.length = 3
    · exact rline_c B s A1 A2 A3 A4 c1 c2 c3 c4 vw x r w h hB hw hn5 h3 hn k3 k2
    · exact rline_long_c B s A1 A2 A3 A4 c1 c2 c3 c4 vw x r w h hB hw hn5 h3 hn
  by_cases h4 : x = MU.wAside
  · by_cases hn : r.length = 3
    · exact rline_a B s A1 A2 A3 A4 c1 c2 c3 c4 vw x r w h hB hw hn5 h4 hn k4 k1
    · exact rline_long_a B s A1 A2 A3 A4 c1 c2 c3 c4 vw x r w h hB hw hn5 h4 hn
  exact rline_no B s A1 A2 A3 A4 c1 c2 c3 c4 vw x r w h hB hw hn5 h1 h2 h3 h4
end Go.Proofs.YtigfgeanofccgaaGreatDoor
