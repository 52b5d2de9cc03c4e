/- readPart, where it reads no expression: no claim of its own. -/
import Derived.Test.YtcokplikmjegcaaGreatDoorJW
import Derived.Test.YtcokplikmjegcaaGreatDoorJK
namespace Go.Proofs.YtcokplikmjegcaaGreatDoor
open Go.RowKit
open MC (Pr)
theorem elems_len {l : List Pr} : ∀ (f : Nat) (b : List Int) (ts : List Tk), b.length = 6 → (MC.elems l f b ts).1.length = 6
  | 0, _, _, _ => rfl
  | f + 1, b, ts, h => by
    have h2 : (MC.elB l b ts).length = 6 := by unfold MC.elB; rw [List.length_set]; exact h
    rw [MC.elems]
    split
    · split
      · exact h2
      · exact elems_len f _ _ h2
    · rfl
theorem scanU_len (L : List Pr) (ts : List Tk) (er : Int) : (MX.scanU L ts er).1.length = 6 := by
  unfold MX.scanU
  split
  · unfold MC.scanL
    split
    · split
      · rfl
      · exact elems_len _ _ _ rfl
    · rfl
  · rfl
/-- What readPart leaves in the expression, the scanner, the rest. -/
def RdP (N g ge : Nat) (o : Int) (b : List Int) (v : Int) (vk : Value) (ts : List Tk) (er : Int) (w : World) (e : Ending) (w' : World) : Prop :=
  e = .returned (.tuple #[]) ∧ SP (fun k => g ≤ k) w' g ts er ∧ (∃ y0 y1 y2 y3 y4 y5, b = [y0, y1, y2, y3, y4, y5] ∧ B9 w' ge (.int .i64 o) (.int .i64 y0) (.int .i64 y1) (.int .i64 y2) (.int .i64 y3) (.int .i64 y4) (.int .i64 y5) (.int .i64 v) vk) ∧ Mv N g ge w w'
set_option maxRecDepth 100000 in
set_option maxHeartbeats 4000000 in
theorem rpart_amount (A : Option Addr) (n cp : Nat) (L : List Pr) (N g ge : Nat) (ts : List Tk) (er : Int) (o x0 x1 x2 x3 x4 x5 v : Int) (vk : Value) (w : World) (h : SP (fun k => g ≤ k) w g ts er) (hN : N ≤ g) (hNw : N ≤ w.heap.size) (hge : g < ge) (hx : B9 w ge (.int .i64 o) (.int .i64 x0) (.int .i64 x1) (.int .i64 x2) (.int .i64 x3) (.int .i64 x4) (.int .i64 x5) (.int .i64 v) vk) : Calls Tryz.prog 59 #[.agg #[.slice A n cp, .pointer (some ⟨g, 0, none⟩)], .int .i32 118, .pointer (some ⟨ge, 0, none⟩)] w (RdP N g ge o [x0, x1, x2, x3, x4, x5] (MX.amtV 1000000 ts er) vk (MX.nxt ts (MX.amtE 1000000 ts er)) (MX.amtE 1000000 ts er) w) := by
  have B0 := below_new w (.cells #[.slice A n cp, .pointer (some ⟨g, 0, none⟩)] 60)
  have HS := Lib.hid (h.keep B0)
  have HM := Lib.hid ((Mv.refl N g ge w).quiet B0 hNw)
  have HB := Lib.hid (heap_new w (.cells #[.slice A n cp, .pointer (some ⟨g, 0, none⟩)] 60))
  have HX := Lib.hid (hx.keep B0)
  have hgw : g < w.heap.size := h.lt
  have hgew : ge < w.heap.size := hx.lt
  clear h hx B0
  have R := Lib.hid (fun (w' : World) (h1 : SP (fun k => g ≤ k) w' g (if MX.amtE 1000000 ts er = 0 then ts.drop 1 else []) (MX.amtE 1000000 ts er)) (h2 : B9 w' ge (.int .i64 o) (.int .i64 x0) (.int .i64 x1) (.int .i64 x2) (.int .i64 x3) (.int .i64 x4) (.int .i64 x5) (.int .i64 (MX.amtV 1000000 ts er)) vk) (h3 : Mv N g ge w w') => show RdP N g ge o [x0, x1, x2, x3, x4, x5] (MX.amtV 1000000 ts er) vk (MX.nxt ts (MX.amtE 1000000 ts er)) (MX.amtE 1000000 ts er) w (.returned (.tuple #[])) w' from ⟨rfl, h1, ⟨_, _, _, _, _, _, rfl, h2⟩, h3⟩)
  go_enter Tryz.func59, Tryz.ntmps59
  go_upto_region 2 with (fail)
  obtain ⟨W0, hW0⟩ : ∃ W0, W0 = w.alloc (.cells #[.slice A n cp, .pointer (some ⟨g, 0, none⟩)] 60) := ⟨_, rfl⟩
  rw [← hW0] at HS HM HB HX ⊢
  clear hW0
  have c0 : W0.cell? ⟨w.heap.size, 0, none⟩ = some (.slice A n cp) := by rw [cell_of_row _ _ _ _ _ _ HB.out]; rfl
  have c1 : W0.cell? ⟨w.heap.size, 1, none⟩ = some (.pointer (some ⟨g, 0, none⟩)) := by rw [cell_of_row _ _ _ _ _ _ HB.out]; rfl
  have AM := Lib.hid (amountM 1000000 HS.out)
  go_wp2_with fail
  refine AM.out.mono ?_
  rintro ev w9 ⟨rfl, hs9, hg9⟩
  have X9 := HX.out.same (hg9.block ge HX.out.lt (fun e => by injection e with e; omega))
  have S10 := Lib.hid (hs9.poke (q := ge) (by show g ≤ ge; omega) (by omega) 7 (.int .i64 (MX.amtV 1000000 ts er)))
  have M10 := Lib.hid ((HM.out.grown hg9 hN hNw).poke (by omega) 7 (.int .i64 (MX.amtV 1000000 ts er)))
  have X10 := Lib.hid (X9.set7 (.int .i64 (MX.amtV 1000000 ts er)))
  obtain ⟨d0, d1, d2, d3, d4, d5, d6, d7, d8⟩ := X9.cells
  obtain ⟨f0, f1, f2, f3, f4, f5, f6, f7, f8⟩ := X9.free
  have hlt9 := X9.lt
  clear AM hs9 hg9 X9 HS HM HX
  generalize MX.amtV 1000000 ts er = av at *
  go_wp2
  go_end0
  exact R.out _ S10.out X10.out M10.out
set_option maxRecDepth 100000 in
set_option maxHeartbeats 8000000 in
theorem rpart_bid (A : Option Addr) (n cp : Nat) (L : List Pr) (N g ge : Nat) (ts : List Tk) (er : Int) (o x0 x1 x2 x3 x4 x5 v : Int) (vk : Value) (w : World) (h : SP (fun k => g ≤ k) w g ts er) (hN : N ≤ g) (hNw : N ≤ w.heap.size) (hge : g < ge) (hx : B9 w ge (.int .i64 o) (.int .i64 x0) (.int .i64 x1) (.int .i64 x2) (.int .i64 x3) (.int .i64 x4) (.int .i64 x5) (.int .i64 v) vk) (he : REnv N A n cp L w) (hc : MC.chkL L = 0) : Calls Tryz.prog 59 #[.agg #[.slice A n cp, .pointer (some ⟨g, 0, none⟩)], .int .i32 98, .pointer (some ⟨ge, 0, none⟩)] w (RdP N g ge o (MX.bid L ts er).1 (MX.bid L ts er).2.1 vk (MX.bid L ts er).2.2.1 (MX.bid L ts er).2.2.2 w) := by
  have B0 := below_new w (.cells #[.slice A n cp, .pointer (some ⟨g, 0, none⟩)] 60)
  have HS := Lib.hid (h.keep B0)
  have HM := Lib.hid ((Mv.refl N g ge w).quiet B0 hNw)
  have HB := Lib.hid (heap_new w (.cells #[.slice A n cp, .pointer (some ⟨g, 0, none⟩)] 60))
  have HX := Lib.hid (hx.keep B0)
  have hgw : g < w.heap.size := h.lt
  have hgew : ge < w.heap.size := hx.lt
  clear h hx B0
  have HE := Lib.hid he
  have hl6 := scanU_len L ts er
  clear he
  have R := Lib.hid (fun (T1 T2 : List Tk) (e1 e2 : Int) (h1 : T1 = MX.nxt (MX.scanU L ts er).2.1 e1) (h2 : e1 = MX.exE 64 (MX.scanU L ts er).2.1 (MX.scanU L ts er).2.2) (h3 : e2 = MX.amtE 1000000 T1 e1) (h4 : T2 = MX.nxt T1 e2) => show MX.bid L ts er = ((MX.scanU L ts er).1, MX.amtV 1000000 T1 e1, T2, e2) from by
    subst h1 h2 h3 h4; rfl)
  go_enter Tryz.func59, Tryz.ntmps59
  go_upto_region 2 with (fail)
  obtain ⟨W0, hW0⟩ : ∃ W0, W0 = w.alloc (.cells #[.slice A n cp, .pointer (some ⟨g, 0, none⟩)] 60) := ⟨_, rfl⟩
  rw [← hW0] at HS HM HB HX ⊢
  clear hW0
  have c0 : W0.cell? ⟨w.heap.size, 0, none⟩ = some (.slice A n cp) := by rw [cell_of_row _ _ _ _ _ _ HB.out]; rfl
  have c1 : W0.cell? ⟨w.heap.size, 1, none⟩ = some (.pointer (some ⟨g, 0, none⟩)) := by rw [cell_of_row _ _ _ _ _ _ HB.out]; rfl
  have SC := Lib.hid (scanU_any A n cp L N g ts er W0 HS.out hN (Nat.le_trans hNw HM.out.below.size) (fun w' hb => (HE.out w' (HM.out.below.trans hb)).1) hc)
  generalize MX.scanU L ts er = SR at *
  obtain ⟨sb, st, se⟩ := SR
  dsimp only at hl6 R
  obtain ⟨y0, y1, y2, y3, y4, y5, rfl⟩ : ∃ y0 y1 y2 y3 y4 y5, sb = [y0, y1, y2, y3, y4, y5] := by
    match sb, hl6 with
    | [y0, y1, y2, y3, y4, y5], _ => exact ⟨_, _, _, _, _, _, rfl⟩
  clear HE hc
  go_wp2_with fail
  refine SC.out.mono ?_
  rintro ev w1 ⟨rfl, hs1, hm1⟩
  simp only [aggB, cellsB_lit]
  dsimp only at hs1
  have X1 := HX.out.same (hm1.rest ge HX.out.lt (by omega) (by omega))
  have HB1 := Lib.hid ((hm1.rest w.heap.size (Array.getElem?_eq_some_iff.1 HB.out).1 (by omega) (by omega)).trans HB.out)
  have M1 : Mv N g ge W0 w1 := ⟨hm1.below, fun k a b _ => hm1.rest k a b b⟩
  have M2 := Lib.hid (HM.out.trans M1)
  obtain ⟨d0, d1, d2, d3, d4, d5, d6, d7, d8⟩ := X1.cells
  obtain ⟨f0, f1, f2, f3, f4, f5, f6, f7, f8⟩ := X1.free
  have hlt1 := X1.lt
  have HS1 := Lib.hid hs1
  have HX1 := Lib.hid X1
  clear hs1 hm1 X1 M1 HS HM HX HB SC c0 c1
  go_upto_region 10 with (fail)
  have hgge : g ≤ ge := Nat.le_of_lt hge
  have hgne : g ≠ ge := Nat.ne_of_lt hge
  have hbne : w.heap.size ≠ ge := by omega
  have hNe : N ≤ ge := by omega
  have S2 := Lib.hid ((((((HS1.out.poke (q := ge) hgge hgne 1 (.int .i64 y0)).poke (q := ge) hgge hgne 2 (.int .i64 y1)).poke (q := ge) hgge hgne 3 (.int .i64 y2)).poke (q := ge) hgge hgne 4 (.int .i64 y3)).poke (q := ge) hgge hgne 5 (.int .i64 y4)).poke (q := ge) hgge hgne 6 (.int .i64 y5))
  have M3 := Lib.hid ((((((M2.out.poke hNe 1 (.int .i64 y0)).poke hNe 2 (.int .i64 y1)).poke hNe 3 (.int .i64 y2)).poke hNe 4 (.int .i64 y3)).poke hNe 5 (.int .i64 y4)).poke hNe 6 (.int .i64 y5))
  have X2 : Hid (B9 ((((((w1.setCell ⟨ge, 1, none⟩ (.int .i64 y0)).setCell ⟨ge, 2, none⟩ (.int .i64 y1)).setCell ⟨ge, 3, none⟩ (.int .i64 y2)).setCell ⟨ge, 4, none⟩ (.int .i64 y3)).setCell ⟨ge, 5, none⟩ (.int .i64 y4)).setCell ⟨ge, 6, none⟩ (.int .i64 y5)) ge (.int .i64 o) (.int .i64 y0) (.int .i64 y1) (.int .i64 y2) (.int .i64 y3) (.int .i64 y4) (.int .i64 y5) (.int .i64 v) vk) := Lib.hid (by
    have k0 : w1.heap[ge]? = some (.cells #[.int .i64 o, .int .i64 x0, .int .i64 x1, .int .i64 x2, .int .i64 x3, .int .i64 x4, .int .i64 x5, .int .i64 v, vk] 27 (0, 0)) := HX1.out
    have k1 := heap_setCell_same _ ge 1 _ _ (.int .i64 y0) k0
    have k2 := heap_setCell_same _ ge 2 _ _ (.int .i64 y1) k1
    have k3 := heap_setCell_same _ ge 3 _ _ (.int .i64 y2) k2
    have k4 := heap_setCell_same _ ge 4 _ _ (.int .i64 y3) k3
    have k5 := heap_setCell_same _ ge 5 _ _ (.int .i64 y4) k4
    have k6 := heap_setCell_same _ ge 6 _ _ (.int .i64 y5) k5
    exact k6)
  have HB2 : Hid ((((((((w1.setCell ⟨ge, 1, none⟩ (.int .i64 y0)).setCell ⟨ge, 2, none⟩ (.int .i64 y1)).setCell ⟨ge, 3, none⟩ (.int .i64 y2)).setCell ⟨ge, 4, none⟩ (.int .i64 y3)).setCell ⟨ge, 5, none⟩ (.int .i64 y4)).setCell ⟨ge, 6, none⟩ (.int .i64 y5))).heap[w.heap.size]? = some (.cells #[.slice A n cp, .pointer (some ⟨g, 0, none⟩)] 60 (0, 0))) := Lib.hid (by
    rw [heap_setCell_other _ ⟨ge, 6, none⟩ _ _ hbne, heap_setCell_other _ ⟨ge, 5, none⟩ _ _ hbne, heap_setCell_other _ ⟨ge, 4, none⟩ _ _ hbne, heap_setCell_other _ ⟨ge, 3, none⟩ _ _ hbne, heap_setCell_other _ ⟨ge, 2, none⟩ _ _ hbne, heap_setCell_other _ ⟨ge, 1, none⟩ _ _ hbne]
    exact HB1.out)
  obtain ⟨W6, hW6⟩ : ∃ W6, W6 = ((((((w1.setCell ⟨ge, 1, none⟩ (.int .i64 y0)).setCell ⟨ge, 2, none⟩ (.int .i64 y1)).setCell ⟨ge, 3, none⟩ (.int .i64 y2)).setCell ⟨ge, 4, none⟩ (.int .i64 y3)).setCell ⟨ge, 5, none⟩ (.int .i64 y4)).setCell ⟨ge, 6, none⟩ (.int .i64 y5)) := ⟨_, rfl⟩
  rw [← hW6] at S2 M3 X2 HB2 ⊢
  clear hW6 HS1 M2 HX1 HB1 d0 d1 d2 d3 d4 d5 d6 d7 d8 f0 f1 f2 f3 f4 f5 f6 f7 f8
  have c0 : W6.cell? ⟨w.heap.size, 0, none⟩ = some (.slice A n cp) := by rw [cell_of_row _ _ _ _ _ _ HB2.out]; rfl
  have c1 : W6.cell? ⟨w.heap.size, 1, none⟩ = some (.pointer (some ⟨g, 0, none⟩)) := by rw [cell_of_row _ _ _ _ _ _ HB2.out]; rfl
  have EX := Lib.hid (expectU 64 S2.out)
  obtain ⟨e1, he1⟩ : ∃ e1, expE 64 st se = e1 := ⟨_, rfl⟩
  rw [he1] at EX
  obtain ⟨T1, hT1⟩ : ∃ T1, (if e1 = 0 then st.drop 1 else []) = T1 := ⟨_, rfl⟩
  rw [hT1] at EX
  go_wp2_with fail
  refine EX.out.mono ?_
  rintro ev w2 ⟨rfl, hs2, hg2⟩
  have HBn := Lib.hid ((hg2.block w.heap.size (Array.getElem?_eq_some_iff.1 HB2.out).1 (fun e => by injection e with e; omega)).trans HB2.out)
  have XN := Lib.hid (X2.out.same (hg2.block ge X2.out.lt (fun e => by injection e with e; omega)))
  have MN := Lib.hid (M3.out.grown hg2 hN hNw)
  have SN := Lib.hid hs2
  clear hs2 hg2 S2 M3 X2 HB2 EX c0 c1
  have c0 : w2.cell? ⟨w.heap.size, 0, none⟩ = some (.slice A n cp) := by rw [cell_of_row _ _ _ _ _ _ HBn.out]; rfl
  have c1 : w2.cell? ⟨w.heap.size, 1, none⟩ = some (.pointer (some ⟨g, 0, none⟩)) := by rw [cell_of_row _ _ _ _ _ _ HBn.out]; rfl
  have hbid := R T1 _ e1 _ hT1.symm (by unfold MX.exE; exact he1.symm) rfl rfl
  clear R
  have R := Lib.hid (fun (w' : World) (h1 : SP (fun k => g ≤ k) w' g (if MX.amtE 1000000 T1 e1 = 0 then T1.drop 1 else []) (MX.amtE 1000000 T1 e1)) (h2 : B9 w' ge (.int .i64 o) (.int .i64 y0) (.int .i64 y1) (.int .i64 y2) (.int .i64 y3) (.int .i64 y4) (.int .i64 y5) (.int .i64 (MX.amtV 1000000 T1 e1)) vk) (h3 : Mv N g ge w w') => show RdP N g ge o (MX.bid L ts er).1 (MX.bid L ts er).2.1 vk (MX.bid L ts er).2.2.1 (MX.bid L ts er).2.2.2 w (.returned (.tuple #[])) w' from by
    rw [hbid]
    exact ⟨rfl, h1, ⟨_, _, _, _, _, _, rfl, h2⟩, h3⟩)
  clear hbid he1 hT1 HBn
  have AM := Lib.hid (amountM 1000000 SN.out)
  go_wp2_with fail
  refine AM.out.mono ?_
  rintro ev w9 ⟨rfl, hs9, hg9⟩
  have X9 := XN.out.same (hg9.block ge XN.out.lt (fun e => by injection e with e; omega))
  have S10 := Lib.hid (hs9.poke (q := ge) (by show g ≤ ge; omega) (by omega) 7 (.int .i64 (MX.amtV 1000000 T1 e1)))
  have M10 := Lib.hid ((MN.out.grown hg9 hN hNw).poke (by omega) 7 (.int .i64 (MX.amtV 1000000 T1 e1)))
  have X10 := Lib.hid (X9.set7 (.int .i64 (MX.amtV 1000000 T1 e1)))
  obtain ⟨d0, d1, d2, d3, d4, d5, d6, d7, d8⟩ := X9.cells
  obtain ⟨f0, f1, f2, f3, f4, f5, f6, f7, f8⟩ := X9.free
  have hlt9 := X9.lt
  clear AM hs9 hg9 X9 SN MN XN
  generalize MX.amtV 1000000 T1 e1 = av at *
  go_wp2
  go_end0
  exact R.out _ S10.out X10.out M10.out
theorem conv_40 (w : World) : (convert 21 9 (.int .i32 40)).run Tryz.prog w = .ok (.string ⟨#[40]⟩) w := by kernel_rfl
set_option maxRecDepth 100000 in
set_option maxHeartbeats 4000000 in
theorem rpart_mark40 (A : Option Addr) (n cp : Nat) (L : List Pr) (N g ge : Nat) (ts : List Tk) (er : Int) (o x0 x1 x2 x3 x4 x5 v : Int) (vk : Value) (w : World) (h : SP (fun k => g ≤ k) w g ts er) (hN : N ≤ g) (hNw : N ≤ w.heap.size) (hge : g < ge) (hx : B9 w ge (.int .i64 o) (.int .i64 x0) (.int .i64 x1) (.int .i64 x2) (.int .i64 x3) (.int .i64 x4) (.int .i64 x5) (.int .i64 v) vk) : Calls Tryz.prog 59 #[.agg #[.slice A n cp, .pointer (some ⟨g, 0, none⟩)], .int .i32 40, .pointer (some ⟨ge, 0, none⟩)] w (RdP N g ge o [x0, x1, x2, x3, x4, x5] v vk (MX.nxt ts (MX.exE 40 ts er)) (MX.exE 40 ts er) w) := by
  have B0 := below_new w (.cells #[.slice A n cp, .pointer (some ⟨g, 0, none⟩)] 60)
  have HS := Lib.hid (h.keep B0)
  have HM := Lib.hid ((Mv.refl N g ge w).quiet B0 hNw)
  have HB := Lib.hid (heap_new w (.cells #[.slice A n cp, .pointer (some ⟨g, 0, none⟩)] 60))
  have HX := Lib.hid (hx.keep B0)
  have hgw : g < w.heap.size := h.lt
  have hgew : ge < w.heap.size := hx.lt
  clear h hx B0
  have R := Lib.hid (fun (w' : World) (h1 : SP (fun k => g ≤ k) w' g (if expE 40 ts er = 0 then ts.drop 1 else []) (expE 40 ts er)) (h2 : B9 w' ge (.int .i64 o) (.int .i64 x0) (.int .i64 x1) (.int .i64 x2) (.int .i64 x3) (.int .i64 x4) (.int .i64 x5) (.int .i64 v) vk) (h3 : Mv N g ge w w') => show RdP N g ge o [x0, x1, x2, x3, x4, x5] v vk (MX.nxt ts (MX.exE 40 ts er)) (MX.exE 40 ts er) w (.returned (.tuple #[])) w' from ⟨rfl, h1, ⟨_, _, _, _, _, _, rfl, h2⟩, h3⟩)
  go_enter Tryz.func59, Tryz.ntmps59
  go_upto_region 2 with (fail)
  obtain ⟨W0, hW0⟩ : ∃ W0, W0 = w.alloc (.cells #[.slice A n cp, .pointer (some ⟨g, 0, none⟩)] 60) := ⟨_, rfl⟩
  rw [← hW0] at HS HM HB HX ⊢
  clear hW0
  have c0 : W0.cell? ⟨w.heap.size, 0, none⟩ = some (.slice A n cp) := by rw [cell_of_row _ _ _ _ _ _ HB.out]; rfl
  have c1 : W0.cell? ⟨w.heap.size, 1, none⟩ = some (.pointer (some ⟨g, 0, none⟩)) := by rw [cell_of_row _ _ _ _ _ _ HB.out]; rfl
  have cv := conv_40 W0
  have EX := Lib.hid (expectU 40 HS.out)
  go_wp2_with fail
  refine EX.out.mono ?_
  rintro ev w2 ⟨rfl, hs2, hg2⟩
  have XN := Lib.hid (HX.out.same (hg2.block ge HX.out.lt (fun e => by injection e with e; omega)))
  have MN := Lib.hid (HM.out.grown hg2 hN hNw)
  have SN := Lib.hid hs2
  clear hs2 hg2 HS HM HX EX HB c0 c1
  go_wp2
  go_end0
  exact R.out _ SN.out XN.out MN.out
theorem conv_41 (w : World) : (convert 21 9 (.int .i32 41)).run Tryz.prog w = .ok (.string ⟨#[41]⟩) w := by kernel_rfl
set_option maxRecDepth 100000 in
set_option maxHeartbeats 4000000 in
theorem rpart_mark41 (A : Option Addr) (n cp : Nat) (L : List Pr) (N g ge : Nat) (ts : List Tk) (er : Int) (o x0 x1 x2 x3 x4 x5 v : Int) (vk : Value) (w : World) (h : SP (fun k => g ≤ k) w g ts er) (hN : N ≤ g) (hNw : N ≤ w.heap.size) (hge : g < ge) (hx : B9 w ge (.int .i64 o) (.int .i64 x0) (.int .i64 x1) (.int .i64 x2) (.int .i64 x3) (.int .i64 x4) (.int .i64 x5) (.int .i64 v) vk) : Calls Tryz.prog 59 #[.agg #[.slice A n cp, .pointer (some ⟨g, 0, none⟩)], .int .i32 41, .pointer (some ⟨ge, 0, none⟩)] w (RdP N g ge o [x0, x1, x2, x3, x4, x5] v vk (MX.nxt ts (MX.exE 41 ts er)) (MX.exE 41 ts er) w) := by
  have B0 := below_new w (.cells #[.slice A n cp, .pointer (some ⟨g, 0, none⟩)] 60)
  have HS := Lib.hid (h.keep B0)
  have HM := Lib.hid ((Mv.refl N g ge w).quiet B0 hNw)
  have HB := Lib.hid (heap_new w (.cells #[.slice A n cp, .pointer (some ⟨g, 0, none⟩)] 60))
  have HX := Lib.hid (hx.keep B0)
  have hgw : g < w.heap.size := h.lt
  have hgew : ge < w.heap.size := hx.lt
  clear h hx B0
  have R := Lib.hid (fun (w' : World) (h1 : SP (fun k => g ≤ k) w' g (if expE 41 ts er = 0 then ts.drop 1 else []) (expE 41 ts er)) (h2 : B9 w' ge (.int .i64 o) (.int .i64 x0) (.int .i64 x1) (.int .i64 x2) (.int .i64 x3) (.int .i64 x4) (.int .i64 x5) (.int .i64 v) vk) (h3 : Mv N g ge w w') => show RdP N g ge o [x0, x1, x2, x3, x4, x5] v vk (MX.nxt ts (MX.exE 41 ts er)) (MX.exE 41 ts er) w (.returned (.tuple #[])) w' from ⟨rfl, h1, ⟨_, _, _, _, _, _, rfl, h2⟩, h3⟩)
  go_enter Tryz.func59, Tryz.ntmps59
  go_upto_region 2 with (fail)
  obtain ⟨W0, hW0⟩ : ∃ W0, W0 = w.alloc (.cells #[.slice A n cp, .pointer (some ⟨g, 0, none⟩)] 60) := ⟨_, rfl⟩
  rw [← hW0] at HS HM HB HX ⊢
  clear hW0
  have c0 : W0.cell? ⟨w.heap.size, 0, none⟩ = some (.slice A n cp) := by rw [cell_of_row _ _ _ _ _ _ HB.out]; rfl
  have c1 : W0.cell? ⟨w.heap.size, 1, none⟩ = some (.pointer (some ⟨g, 0, none⟩)) := by rw [cell_of_row _ _ _ _ _ _ HB.out]; rfl
  have cv := conv_41 W0
  have EX := Lib.hid (expectU 41 HS.out)
  go_wp2_with fail
  refine EX.out.mono ?_
  rintro ev w2 ⟨rfl, hs2, hg2⟩
  have XN := Lib.hid (HX.out.same (hg2.block ge HX.out.lt (fun e => by injection e with e; omega)))
  have MN := Lib.hid (HM.out.grown hg2 hN hNw)
  have SN := Lib.hid hs2
  clear hs2 hg2 HS HM HX EX HB c0 c1
  go_wp2
  go_end0
  exact R.out _ SN.out XN.out MN.out
theorem conv_44 (w : World) : (convert 21 9 (.int .i32 44)).run Tryz.prog w = .ok (.string ⟨#[44]⟩) w := by kernel_rfl
set_option maxRecDepth 100000 in
set_option maxHeartbeats 4000000 in
theorem rpart_mark44 (A : Option Addr) (n cp : Nat) (L : List Pr) (N g ge : Nat) (ts : List Tk) (er : Int) (o x0 x1 x2 x3 x4 x5 v : Int) (vk : Value) (w : World) (h : SP (fun k => g ≤ k) w g ts er) (hN : N ≤ g) (hNw : N ≤ w.heap.size) (hge : g < ge) (hx : B9 w ge (.int .i64 o) (.int .i64 x0) (.int .i64 x1) (.int .i64 x2) (.int .i64 x3) (.int .i64 x4) (.int .i64 x5) (.int .i64 v) vk) : Calls Tryz.prog 59 #[.agg #[.slice A n cp, .pointer (some ⟨g, 0, none⟩)], .int .i32 44, .pointer (some ⟨ge, 0, none⟩)] w (RdP N g ge o [x0, x1, x2, x3, x4, x5] v vk (MX.nxt ts (MX.exE 44 ts er)) (MX.exE 44 ts er) w) := by
  have B0 := below_new w (.cells #[.slice A n cp, .pointer (some ⟨g, 0, none⟩)] 60)
  have HS := Lib.hid (h.keep B0)
  have HM := Lib.hid ((Mv.refl N g ge w).quiet B0 hNw)
  have HB := Lib.hid (heap_new w (.cells #[.slice A n cp, .pointer (some ⟨g, 0, none⟩)] 60))
  have HX := Lib.hid (hx.keep B0)
  have hgw : g < w.heap.size := h.lt
  have hgew : ge < w.heap.size := hx.lt
  clear h hx B0
  have R := Lib.hid (fun (w' : World) (h1 : SP (fun k => g ≤ k) w' g (if expE 44 ts er = 0 then ts.drop 1 else []) (expE 44 ts er)) (h2 : B9 w' ge (.int .i64 o) (.int .i64 x0) (.int .i64 x1) (.int .i64 x2) (.int .i64 x3) (.int .i64 x4) (.int .i64 x5) (.int .i64 v) vk) (h3 : Mv N g ge w w') => show RdP N g ge o [x0, x1, x2, x3, x4, x5] v vk (MX.nxt ts (MX.exE 44 ts er)) (MX.exE 44 ts er) w (.returned (.tuple #[])) w' from ⟨rfl, h1, ⟨_, _, _, _, _, _, rfl, h2⟩, h3⟩)
  go_enter Tryz.func59, Tryz.ntmps59
  go_upto_region 2 with (fail)
  obtain ⟨W0, hW0⟩ : ∃ W0, W0 = w.alloc (.cells #[.slice A n cp, .pointer (some ⟨g, 0, none⟩)] 60) := ⟨_, rfl⟩
  rw [← hW0] at HS HM HB HX ⊢
  clear hW0
  have c0 : W0.cell? ⟨w.heap.size, 0, none⟩ = some (.slice A n cp) := by rw [cell_of_row _ _ _ _ _ _ HB.out]; rfl
  have c1 : W0.cell? ⟨w.heap.size, 1, none⟩ = some (.pointer (some ⟨g, 0, none⟩)) := by rw [cell_of_row _ _ _ _ _ _ HB.out]; rfl
  have cv := conv_44 W0
  have EX := Lib.hid (expectU 44 HS.out)
  go_wp2_with fail
  refine EX.out.mono ?_
  rintro ev w2 ⟨rfl, hs2, hg2⟩
  have XN := Lib.hid (HX.out.same (hg2.block ge HX.out.lt (fun e => by injection e with e; omega)))
  have MN := Lib.hid (HM.out.grown hg2 hN hNw)
  have SN := Lib.hid hs2
  clear hs2 hg2 HS HM HX EX HB c0 c1
  go_wp2
  go_end0
  exact R.out _ SN.out XN.out MN.out
end Go.Proofs.YtcokplikmjegcaaGreatDoor
