/- UPOver, UPAllow, joined: no claim of its own. -/
import Derived.Test.YtigfgeanofccgaaGreatDoorJPo
import Derived.Test.YtigfgeanofccgaaGreatDoorURAllow
import Derived.Test.YtigfgeanofccgaaGreatDoorCSum
import Derived.Lib.QuietBelow
namespace Go.Proofs.YtigfgeanofccgaaGreatDoor
open Go.RowKit
open MU (Su Cp As)
/-- Whether a cap is broken. -/
def overV (s : Su) (i : Nat) (b : List Int) : Bool := decide (firstE (MU.capRE s i b) s.cs.length ≠ 0)
theorem overV_yes {s : Su} {i k : Nat} {b : List Int} (hk : k < s.cs.length) (hu : NoE (MU.capRE s i b) k) (hc : MU.capB s i b k = true) : overV s i b = true := by
  have e : MU.capRE s i b k = 14 := by unfold MU.capRE; rw [if_pos hc]
  unfold overV
  rw [hu.stop (by rw [e]; decide) hk, e]; rfl
theorem overV_no {s : Su} {i : Nat} {b : List Int} (hu : NoE (MU.capRE s i b) s.cs.length) : overV s i b = false := by
  unfold overV
  rw [hu.fin (Nat.le_refl _)]; rfl
/-- The box of a setup, the box of a bundle. -/
structure Bx2 (wo : World) (v1 v2 v3 v4 : Value) (b : List Int) (wr : World) : Prop where
  box : TB wr wo.heap.size 27 v1 v2 v3 v4
  bun : BB wr (wo.heap.size + 1) 40 b
  below : Below wo.heap.size wo wr
theorem Bx2.keep {wo wr wr' : World} {v1 v2 v3 v4 : Value} {b : List Int} (h : Bx2 wo v1 v2 v3 v4 b wr) (hb : Below wr.heap.size wr wr') : Bx2 wo v1 v2 v3 v4 b wr' :=
  ⟨h.box.keep hb, h.bun.keep hb h.bun.lt, h.below.trans (hb.mono h.below.size)⟩
theorem bx2_start (w : World) (v1 v2 v3 v4 : Value) (b0 b1 b2 b3 b4 b5 : Int) : Bx2 w v1 v2 v3 v4 [b0, b1, b2, b3, b4, b5] ((w.alloc (.cells #[v1, v2, v3, v4] 27)).alloc (.cells #[.int .i64 b0, .int .i64 b1, .int .i64 b2, .int .i64 b3, .int .i64 b4, .int .i64 b5] 40)) :=
  ⟨(TB.new w 27 v1 v2 v3 v4).keep (below_new _ _), by have := BB.new (w.alloc (.cells #[v1, v2, v3, v4] 27)) 40 b0 b1 b2 b3 b4 b5; rwa [World.size_alloc] at this, below_two w _ _⟩
set_option maxRecDepth 100000 in
set_option maxHeartbeats 8000000 in
theorem overCap_any (A1 : Option Addr) (n1 c1 : Nat) (A2 : Option Addr) (n2 c2 : Nat) (A3 : Option Addr) (n3 c3 : Nat) (A4 : Option Addr) (n4 c4 : Nat) (s : Su) (I : Nat) (b0 b1 b2 b3 b4 b5 : Int) (w : World) (h : SuAt w A1 n1 c1 A2 n2 c2 A3 n3 c3 A4 n4 c4 s) :
    Calls Tryz.prog 64 #[.agg #[.slice A1 n1 c1, .slice A2 n2 c2, .slice A3 n3 c3, .slice A4 n4 c4], .int .i64 I, .agg #[.int .i64 b0, .int .i64 b1, .int .i64 b2, .int .i64 b3, .int .i64 b4, .int .i64 b5]] w (Gives (.bool (overV s I [b0, b1, b2, b3, b4, b5])) w) := by
  have hn3 := h.cs.few
  have hc3 := h.cs.cap
  have HL3 := Lib.hid h.cs.len
  have H := Lib.hid h
  clear h
  have hmo : Tryz.prog.follows .mixedOrders = true := by kernel_rfl
  have SU := Lib.hid (fun g w' (hb : Below w.heap.size w w') => units_any g A1 n1 c1 s.ps b0 b1 b2 b3 b4 b5 w' (H.out.ps.keep hb))
  have T0 := Lib.hid (bx2_start w (.slice A1 n1 c1) (.slice A2 n2 c2) (.slice A3 n3 c3) (.slice A4 n4 c4) b0 b1 b2 b3 b4 b5)
  go_enter Tryz.func64, Tryz.ntmps64
  go_upto_region 1 with (fail)
  generalize (w.alloc (.cells #[.slice A1 n1 c1, .slice A2 n2 c2, .slice A3 n3 c3, .slice A4 n4 c4] 27)).alloc (.cells #[.int .i64 b0, .int .i64 b1, .int .i64 b2, .int .i64 b3, .int .i64 b4, .int .i64 b5] 40) = W0 at *
  obtain ⟨x0, x1, x2, x3⟩ := T0.out.box.cells
  go_wp2
  go_loopw [13] (fun i wr => ∃ k : Nat, k ≤ n3 ∧ i = .int .i64 k ∧ Hid (NoE (MU.capRE s I [b0, b1, b2, b3, b4, b5]) k) ∧ Hid (Bx2 w (.slice A1 n1 c1) (.slice A2 n2 c2) (.slice A3 n3 c3) (.slice A4 n4 c4) [b0, b1, b2, b3, b4, b5] wr)) (fun i _ => n3 - (intOf i).toNat)
  case atStart => exact ⟨0, Nat.zero_le _, rfl, Lib.hid (NoE.start _), T0⟩
  case round =>
    obtain ⟨k, hk, rfl, HU, HB⟩ := hrel
    clear x0 x1 x2 x3 T0
    obtain ⟨x0, x1, x2, x3⟩ := HB.out.box.cells
    by_cases hlt : k < n3
    · obtain ⟨ad, p, rfl, q1, hfi, hbk, y0, y1, y2⟩ := cp_at (H.out.cs.keep HB.out.below) hlt
      have HB1 := Lib.hid (HB.out.keep (below_new wr (.cells #[.int .i64 p.bidder, .int .i64 p.group, .int .i64 p.units] 66)))
      have K1 := Lib.hid (heap_new wr (.cells #[.int .i64 p.bidder, .int .i64 p.group, .int .i64 p.units] 66))
      have HCE := Lib.hid (show MU.capB s I [b0, b1, b2, b3, b4, b5] k = ((decide (p.bidder = -1) || decide (p.bidder = (I : Int))) && decide (p.units < MC.sumG (fU p.group) s.ps [b0, b1, b2, b3, b4, b5])) by unfold MU.capB; rw [q1])
      have HST := Lib.hid (fun hc => ret_bool (overV_yes (s := s) (i := I) (b := [b0, b1, b2, b3, b4, b5]) (by rw [HL3.out]; exact hlt) HU.out hc).symm)
      have HGO := Lib.hid (fun (hc : MU.capB s I [b0, b1, b2, b3, b4, b5] k = false) => HU.out.step (by unfold MU.capRE; rw [hc]; rfl))
      clear q1 hfi hbk HB HU
      obtain ⟨pb, pg, pu⟩ := p
      simp only at *
      go_upto_region 4 with (fail)
      obtain ⟨X, hX⟩ : ∃ X, X = wr.alloc (.cells #[.int .i64 pb, .int .i64 pg, .int .i64 pu] 66) := ⟨_, rfl⟩
      rw [← hX] at HB1 K1 ⊢
      clear hX x0 x1 x2 x3 y0 y1 y2
      obtain ⟨x0, x1, x2, x3⟩ := HB1.out.box.cells
      obtain ⟨z0, z1, z2, z3, z4, z5⟩ := cells6 HB1.out.bun
      have y0 : X.cell? ⟨wr.heap.size, 0, none⟩ = some (.int .i64 pb) := by rw [cell_of_row _ _ _ _ _ _ K1.out]; rfl
      have y1 : X.cell? ⟨wr.heap.size, 1, none⟩ = some (.int .i64 pg) := by rw [cell_of_row _ _ _ _ _ _ K1.out]; rfl
      have y2 : X.cell? ⟨wr.heap.size, 2, none⟩ = some (.int .i64 pu) := by rw [cell_of_row _ _ _ _ _ _ K1.out]; rfl
      by_cases hap : pb = (I : Int) ∨ pb = -1
      · have S1 := Lib.hid (fun d os => SU.out pg (Go.Sort.grow (redrawn X d) os) (HB1.out.below.trans ((below_regrown X d os).mono HB1.out.below.size)))
        have HC2 : Hid (MU.capB s I [b0, b1, b2, b3, b4, b5] k = decide (pu < MC.sumG (fU pg) s.ps [b0, b1, b2, b3, b4, b5])) := Lib.hid (by
          rw [HCE.out]
          rcases hap with g | g
          · rw [decide_eq_true g, Bool.or_true, Bool.true_and]
          · rw [decide_eq_true g, Bool.true_or, Bool.true_and])
        generalize MC.sumG (fU pg) s.ps [b0, b1, b2, b3, b4, b5] = un at *
        clear HCE SU
        by_cases hI : pb = (I : Int)
        · have e0 : (pb == (I : Int)) = true := beq_iff_eq.2 hI
          clear hap hI
          go_upto_region 5 with (fail)
          have k0 := cell_regrown x0
          have k3 := cell_regrown y1
          have k4 := cell_regrown y2
          have m0 := cell_regrown z0
          have m1 := cell_regrown z1
          have m2 := cell_regrown z2
          have m3 := cell_regrown z3
          have m4 := cell_regrown z4
          have m5 := cell_regrown z5
          have cS := fun d os => Calls.regrown_of (S1.out d os)
          clear x0 x1 x2 x3 z0 z1 z2 z3 z4 z5 y0 y1 y2 S1
          refine wp_region_quiet_below hmo (by kernel_rfl) ?_
          repeat (quiet_step (exact cS _ _))
          refine wpQuiet_nil ?_
          rintro _ ⟨pz, rfl⟩
          have B2 := Lib.hid (HB1.out.keep (below_regrown X pz.d pz.os))
          clear cS k0 k3 k4 m0 m1 m2 m3 m4 m5
          generalize Go.Sort.grow (redrawn X pz.d) pz.os = V at *
          by_cases hv : pu < un
          · have d1 : decide (pu < un) = true := decide_eq_true hv
            have G := Lib.hid (HST.out (by rw [HC2.out, d1]))
            clear HST HGO HC2 hv
            have BD := Lib.hid B2.out.below
            rw [d1]
            go_wp2
            go_ret
            exact ⟨G.out, BD.out⟩
          · have d1 : decide (pu < un) = false := decide_eq_false hv
            have G := Lib.hid (HGO.out (by rw [HC2.out, d1]))
            clear HST HGO HC2 hv
            rw [d1]
            go_wp2
            go_roundw
            case rel => exact ⟨k + 1, by omega, by go_num, G, B2⟩
            case measure => simp [intOf]; omega
        · have e0 : (pb == (I : Int)) = false := beq_eq_false_iff_ne.2 hI
          have e1 : (pb == -1) = true := beq_iff_eq.2 (hap.resolve_left hI)
          clear hap hI
          go_upto_region 5 with (fail)
          have k0 := cell_regrown x0
          have k3 := cell_regrown y1
          have k4 := cell_regrown y2
          have m0 := cell_regrown z0
          have m1 := cell_regrown z1
          have m2 := cell_regrown z2
          have m3 := cell_regrown z3
          have m4 := cell_regrown z4
          have m5 := cell_regrown z5
          have cS := fun d os => Calls.regrown_of (S1.out d os)
          clear x0 x1 x2 x3 z0 z1 z2 z3 z4 z5 y0 y1 y2 S1
          refine wp_region_quiet_below hmo (by kernel_rfl) ?_
          repeat (quiet_step (exact cS _ _))
          refine wpQuiet_nil ?_
          rintro _ ⟨pz, rfl⟩
          have B2 := Lib.hid (HB1.out.keep (below_regrown X pz.d pz.os))
          clear cS k0 k3 k4 m0 m1 m2 m3 m4 m5
          generalize Go.Sort.grow (redrawn X pz.d) pz.os = V at *
          by_cases hv : pu < un
          · have d1 : decide (pu < un) = true := decide_eq_true hv
            have G := Lib.hid (HST.out (by rw [HC2.out, d1]))
            clear HST HGO HC2 hv
            have BD := Lib.hid B2.out.below
            rw [d1]
            go_wp2
            go_ret
            exact ⟨G.out, BD.out⟩
          · have d1 : decide (pu < un) = false := decide_eq_false hv
            have G := Lib.hid (HGO.out (by rw [HC2.out, d1]))
            clear HST HGO HC2 hv
            rw [d1]
            go_wp2
            go_roundw
            case rel => exact ⟨k + 1, by omega, by go_num, G, B2⟩
            case measure => simp [intOf]; omega
      · have e0 : (pb == (I : Int)) = false := beq_eq_false_iff_ne.2 (fun g => hap (.inl g))
        have e1 : (pb == -1) = false := beq_eq_false_iff_ne.2 (fun g => hap (.inr g))
        have G := Lib.hid (HGO.out (by rw [HCE.out, decide_eq_false (fun g => hap (.inl g)), decide_eq_false (fun g => hap (.inr g))]; rfl))
        clear HST HGO HCE hap SU
        go_wp2
        go_quiet (fail)
        go_wp2
        go_roundw
        case rel => exact ⟨k + 1, by omega, by go_num, G, Lib.hid (HB1.out.keep (below_drewN (Below.refl _ _) _))⟩
        case measure => simp [intOf]; omega
    · obtain rfl : k = n3 := by omega
      have G := Lib.hid (ret_bool (overV_no (s := s) (i := I) (b := [b0, b1, b2, b3, b4, b5]) (by rw [HL3.out]; exact HU.out)).symm)
      have BD := Lib.hid HB.out.below
      clear HU SU
      go_wp2
      go_ret
      exact ⟨G.out, BD.out⟩
end Go.Proofs.YtigfgeanofccgaaGreatDoor
namespace Go.Proofs.YtigfgeanofccgaaGreatDoor
open Go.RowKit
open MU (Su Cp As)
/-- What lies while the program asks the rules. -/
structure Al3 (wo : World) (v1 v2 v3 v4 : Value) (b o c : List Int) (Bo : Nat) (wr : World) : Prop where
  box : TB wr wo.heap.size 27 v1 v2 v3 v4
  bun : BB wr (wo.heap.size + 1) 40 b
  op : BB wr Bo 40 o
  cl : BB wr (Bo + 1) 40 c
  below : Below wo.heap.size wo wr
theorem Al3.keep {wo wr wr' : World} {v1 v2 v3 v4 : Value} {b o c : List Int} {Bo : Nat} (h : Al3 wo v1 v2 v3 v4 b o c Bo wr) (hb : Below wr.heap.size wr wr') : Al3 wo v1 v2 v3 v4 b o c Bo wr' :=
  ⟨h.box.keep hb, h.bun.keep hb h.bun.lt, h.op.keep hb h.op.lt, h.cl.keep hb h.cl.lt, h.below.trans (hb.mono h.below.size)⟩
theorem allow_over {s : Su} {I : Nat} {b : List Int} (h1 : MU.chkS s = 0) (h2 : I < s.bs.length) (h3 : MB.okB b = true) (hr : ∀ k, k < 6 → MU.ruleB s I b k = false) {v : Bool} (hv : overV s I b = v) : MU.allowE s I b = if v = true then 14 else 0 := by
  rw [MU.allowE_caps h1 h2 h3 hr]
  unfold overV at hv
  by_cases h : firstE (MU.capRE s I b) s.cs.length = 0
  · rw [h] at hv ⊢
    subst hv; rfl
  · rw [decide_eq_true h] at hv
    subst hv
    obtain ⟨k, _, _, h4, h5⟩ := firstE_some h
    rw [h5, if_pos rfl]
    exact MU.capRE_ne h4
set_option maxRecDepth 100000 in
set_option maxHeartbeats 8000000 in
theorem allowed_any (A1 : Option Addr) (n1 c1 : Nat) (A2 : Option Addr) (n2 c2 : Nat) (A3 : Option Addr) (n3 c3 : Nat) (A4 : Option Addr) (n4 c4 : Nat) (s : Su) (I : Nat) (b0 b1 b2 b3 b4 b5 : Int) (w : World) (h : SuAt w A1 n1 c1 A2 n2 c2 A3 n3 c3 A4 n4 c4 s) (hs : MU.chkS s = 0) (hI : I < n2) :
    Calls Tryz.prog 37 #[.agg #[.slice A1 n1 c1, .slice A2 n2 c2, .slice A3 n3 c3, .slice A4 n4 c4], .int .i64 I, .agg #[.int .i64 b0, .int .i64 b1, .int .i64 b2, .int .i64 b3, .int .i64 b4, .int .i64 b5]] w (Gives (.int .i64 (MU.allowE s I [b0, b1, b2, b3, b4, b5])) w) := by
  have hn2 := h.bs.few
  have hc2 := h.bs.cap
  have HL2 := Lib.hid h.bs.len
  obtain ⟨ad2, pbd, rfl, q1, _⟩ := bd_at h.bs hI
  have H := Lib.hid h
  clear h
  have hIs : I < s.bs.length := by rw [HL2.out]; exact hI
  have HE := Lib.hid hs
  have hmo : Tryz.prog.follows .mixedOrders = true := by kernel_rfl
  have BC := Lib.hid (fun w' => bcheck_any b0 b1 b2 b3 b4 b5 w')
  have OP := Lib.hid (fun w' (hb : Below w.heap.size w w') => openUnits_any A1 n1 c1 (some ad2) n2 c2 A3 n3 c3 A4 n4 c4 s w' (H.out.keep hb) hs)
  have SP := Lib.hid (fun w' (hb : Below w.heap.size w w') => supply_any A1 n1 c1 s.ps w' (H.out.ps.keep hb))
  have OV := Lib.hid (fun w' (hb : Below w.heap.size w w') => overCap_any A1 n1 c1 (some ad2) n2 c2 A3 n3 c3 A4 n4 c4 s I b0 b1 b2 b3 b4 b5 w' (H.out.keep hb))
  have HQ := Lib.hid (MU.clsOf_at q1)
  clear hs q1
  have T0 := Lib.hid (bx2_start w (.slice A1 n1 c1) (.slice (some ad2) n2 c2) (.slice A3 n3 c3) (.slice A4 n4 c4) b0 b1 b2 b3 b4 b5)
  go_enter Tryz.func37, Tryz.ntmps37
  go_upto_region 1 with (fail)
  generalize (w.alloc (.cells #[.slice A1 n1 c1, .slice (some ad2) n2 c2, .slice A3 n3 c3, .slice A4 n4 c4] 27)).alloc (.cells #[.int .i64 b0, .int .i64 b1, .int .i64 b2, .int .i64 b3, .int .i64 b4, .int .i64 b5] 40) = W0 at *
  obtain ⟨y0, y1, y2, y3, y4, y5⟩ := cells6 T0.out.bun
  cases hv : MB.okB [b0, b1, b2, b3, b4, b5] with
  | false =>
    have G := Lib.hid (ret_int (k := .i64) (MU.allowE_bad HE.out hIs hv).symm)
    rw [chk_no hv] at BC
    clear hv
    go_wp2_with fail
    refine (BC.out _).mono ?_
    rintro ev w2 ⟨rfl, hb⟩
    have B2 := Lib.hid (T0.out.below.trans (hb.mono T0.out.below.size))
    clear hb
    go_wp2
    go_ret
    exact ⟨G.out, B2.out⟩
  | true =>
    have HV := Lib.hid hv
    rw [chk_ok hv] at BC
    clear hv
    go_wp2_with fail
    refine (BC.out _).mono ?_
    rintro ev w2 ⟨rfl, hb⟩
    have T2 := Lib.hid (T0.out.keep hb)
    clear hb BC T0 y0 y1 y2 y3 y4 y5
    obtain ⟨x0, x1, x2, x3⟩ := T2.out.box.cells
    obtain ⟨o0, o1, o2, o3, o4, o5, ho⟩ := six (MU.openB_len s)
    obtain ⟨k0, k1, k2, k3, k4, k5, hk⟩ := six (MU.classB_len s)
    obtain ⟨p0, p1, p2, p3, p4, p5, hp⟩ := six (MC.supB_length s.ps)
    rw [ho, hk, aggB_lit, aggB_lit] at OP
    rw [hp, aggB_lit] at SP
    have HO := Lib.hid ho
    have HK := Lib.hid hk
    have HP := Lib.hid hp
    clear ho hk hp
    go_wp2_with fail
    refine (OP.out _ T2.out.below).mono ?_
    rintro ev w3 ⟨rfl, hb⟩
    have AL := Lib.hid (show Al3 w (.slice A1 n1 c1) (.slice (some ad2) n2 c2) (.slice A3 n3 c3) (.slice A4 n4 c4) [b0, b1, b2, b3, b4, b5] [o0, o1, o2, o3, o4, o5] [k0, k1, k2, k3, k4, k5] w3.heap.size
        ((w3.alloc (.cells #[.int .i64 o0, .int .i64 o1, .int .i64 o2, .int .i64 o3, .int .i64 o4, .int .i64 o5] 40)).alloc (.cells #[.int .i64 k0, .int .i64 k1, .int .i64 k2, .int .i64 k3, .int .i64 k4, .int .i64 k5] 40)) by
      have hb2 := hb.trans ((below_two w3 (.cells #[.int .i64 o0, .int .i64 o1, .int .i64 o2, .int .i64 o3, .int .i64 o4, .int .i64 o5] 40) (.cells #[.int .i64 k0, .int .i64 k1, .int .i64 k2, .int .i64 k3, .int .i64 k4, .int .i64 k5] 40)).mono hb.size)
      obtain ⟨t1, t2⟩ := two_boxes w3 40 40 o0 o1 o2 o3 o4 o5 k0 k1 k2 k3 k4 k5
      exact ⟨T2.out.box.keep hb2, T2.out.bun.keep hb2 T2.out.bun.lt, t1, t2, T2.out.below.trans (hb2.mono T2.out.below.size)⟩)
    clear hb T2 OP x0 x1 x2 x3
    go_upto_region 5 with (fail)
    generalize ((w3.alloc (.cells #[.int .i64 o0, .int .i64 o1, .int .i64 o2, .int .i64 o3, .int .i64 o4, .int .i64 o5] 40)).alloc (.cells #[.int .i64 k0, .int .i64 k1, .int .i64 k2, .int .i64 k3, .int .i64 k4, .int .i64 k5] 40)) = X at *
    generalize w3.heap.size = Bo at *
    have W1 := Lib.hid (fun w' => within_any b0 b1 b2 b3 b4 b5 p0 p1 p2 p3 p4 p5 w')
    obtain ⟨v1, hv1⟩ : ∃ v, MB.withinB [b0, b1, b2, b3, b4, b5] [p0, p1, p2, p3, p4, p5] 6 = v := ⟨_, rfl⟩
    rw [hv1] at W1
    have HV1 := Lib.hid hv1
    rw [← HP.out] at HV1
    clear hv1 HP
    obtain ⟨x0, x1, x2, x3⟩ := AL.out.box.cells
    obtain ⟨y0, y1, y2, y3, y4, y5⟩ := cells6 AL.out.bun
    have k0' := cell_regrown x0
    have m0 := cell_regrown y0
    have m1 := cell_regrown y1
    have m2 := cell_regrown y2
    have m3 := cell_regrown y3
    have m4 := cell_regrown y4
    have m5 := cell_regrown y5
    have cS := fun d os => Calls.regrown_of (SP.out (Go.Sort.grow (redrawn X d) os) (AL.out.below.trans ((below_regrown X d os).mono AL.out.below.size)))
    have cW := fun d os => Calls.regrown_of (W1.out (Go.Sort.grow (redrawn X d) os))
    clear x0 x1 x2 x3 y0 y1 y2 y3 y4 y5
    refine wp_region_quiet_below hmo (by kernel_rfl) ?_
    repeat (quiet_step (first | (with_reducible exact cS _ _) | (with_reducible exact cW _ _)))
    refine wpQuiet_nil ?_
    rintro _ ⟨pz, rfl⟩
    have AL2 := Lib.hid (AL.out.keep (below_regrown X pz.d pz.os))
    clear cS cW k0' m0 m1 m2 m3 m4 m5 AL W1 SP
    generalize Go.Sort.grow (redrawn X pz.d) pz.os = Y at *
    clear X
    cases v1 with
    | false =>
      have G := Lib.hid (ret_int (k := .i64) (MU.allow_sup HE.out hIs HV.out HV1.out).symm)
      have BD := Lib.hid AL2.out.below
      clear HV1
      go_wp2
      go_ret
      exact ⟨G.out, BD.out⟩
    | true =>
      obtain ⟨ad', pq, e', q1, hfi, hbk, z0, z1, z2, z3⟩ := bd_at (H.out.bs.keep AL2.out.below) hI
      injection e' with e'
      subst e'
      rw [MU.clsOf_at q1] at HQ
      have HCL := Lib.hid (MU.clsOf_at q1)
      clear hfi hbk q1 z0 z2 z3 HQ
      obtain ⟨pn, pcl, pbu, pp⟩ := pq
      simp only at *
      have OU := Lib.hid (fun w' => outside_any k0 k1 k2 k3 k4 k5 pcl b0 b1 b2 b3 b4 b5 w')
      obtain ⟨t0, t1, t2, t3, t4, t5, ht⟩ := six (show (MU.outB [k0, k1, k2, k3, k4, k5] pcl [b0, b1, b2, b3, b4, b5]).length = 6 from rfl)
      rw [ht, aggB_lit] at OU
      have HT := Lib.hid ht
      clear ht
      have W2 := Lib.hid (fun w' => within_any t0 t1 t2 t3 t4 t5 o0 o1 o2 o3 o4 o5 w')
      obtain ⟨v2, hv2⟩ : ∃ v, MB.withinB [t0, t1, t2, t3, t4, t5] [o0, o1, o2, o3, o4, o5] 6 = v := ⟨_, rfl⟩
      rw [hv2] at W2
      have HV2 := Lib.hid hv2
      rw [← HT.out, ← HO.out, ← HK.out, ← HCL.out] at HV2
      clear hv2 HT HO HK HCL
      obtain ⟨x0, x1, x2, x3⟩ := AL2.out.box.cells
      obtain ⟨y0, y1, y2, y3, y4, y5⟩ := cells6 AL2.out.bun
      obtain ⟨f0, f1, f2, f3, f4, f5⟩ := cells6 AL2.out.op
      obtain ⟨g0, g1, g2, g3, g4, g5⟩ := cells6 AL2.out.cl
      have hI' : (I : Int) < (n2 : Int) := by omega
      go_wp2
      have k1' := cell_regrown x1
      have k2' := cell_regrown z1
      have m0 := cell_regrown y0
      have m1 := cell_regrown y1
      have m2 := cell_regrown y2
      have m3 := cell_regrown y3
      have m4 := cell_regrown y4
      have m5 := cell_regrown y5
      have i0 := cell_regrown f0
      have i1 := cell_regrown f1
      have i2 := cell_regrown f2
      have i3 := cell_regrown f3
      have i4 := cell_regrown f4
      have i5 := cell_regrown f5
      have j0 := cell_regrown g0
      have j1 := cell_regrown g1
      have j2 := cell_regrown g2
      have j3 := cell_regrown g3
      have j4 := cell_regrown g4
      have j5 := cell_regrown g5
      have cS := fun d os => Calls.regrown_of (OU.out (Go.Sort.grow (redrawn Y d) os))
      have cW := fun d os => Calls.regrown_of (W2.out (Go.Sort.grow (redrawn Y d) os))
      clear x0 x1 x2 x3 y0 y1 y2 y3 y4 y5 f0 f1 f2 f3 f4 f5 g0 g1 g2 g3 g4 g5 z1
      refine wp_region_quiet_below hmo (by kernel_rfl) ?_
      repeat (quiet_step (first | (with_reducible exact cS _ _) | (with_reducible exact cW _ _)))
      refine wpQuiet_nil ?_
      rintro _ ⟨pz, rfl⟩
      have AL3 := Lib.hid (AL2.out.keep (below_regrown Y pz.d pz.os))
      clear cS cW k1' k2' m0 m1 m2 m3 m4 m5 i0 i1 i2 i3 i4 i5 j0 j1 j2 j3 j4 j5 AL2 W2 OU
      generalize Go.Sort.grow (redrawn Y pz.d) pz.os = Z at *
      clear Y
      cases v2 with
      | false =>
        have G := Lib.hid (ret_int (k := .i64) (MU.allow_out HE.out hIs HV.out HV2.out).symm)
        have BD := Lib.hid AL3.out.below
        clear HV1 HV2
        go_wp2
        go_ret
        exact ⟨G.out, BD.out⟩
      | true =>
        have HR := Lib.hid (MU.allow_rules HV1.out HV2.out)
        obtain ⟨v3, hv3⟩ : ∃ v, overV s I [b0, b1, b2, b3, b4, b5] = v := ⟨_, rfl⟩
        have G0 := Lib.hid (allow_over HE.out hIs HV.out HR.out hv3)
        rw [hv3] at OV
        clear hv3 HV1 HV2
        obtain ⟨x0, x1, x2, x3⟩ := AL3.out.box.cells
        obtain ⟨y0, y1, y2, y3, y4, y5⟩ := cells6 AL3.out.bun
        go_wp2_with fail
        refine (OV.out _ AL3.out.below).mono ?_
        rintro ev w6 ⟨rfl, hb⟩
        have BD := Lib.hid (AL3.out.below.trans (hb.mono AL3.out.below.size))
        clear hb OV x0 x1 x2 x3 y0 y1 y2 y3 y4 y5 AL3
        cases v3 with
        | false =>
          have G := Lib.hid (ret_int (k := .i64) (show 0 = _ from (G0.out.trans (by rfl)).symm))
          go_wp2
          go_ret
          exact ⟨G.out, BD.out⟩
        | true =>
          have G := Lib.hid (ret_int (k := .i64) (show 14 = _ from (G0.out.trans (by rfl)).symm))
          go_wp2
          go_ret
          exact ⟨G.out, BD.out⟩
set_option maxRecDepth 100000 in
set_option maxHeartbeats 4000000 in
theorem pallow_any (A1 : Option Addr) (n1 c1 : Nat) (A2 : Option Addr) (n2 c2 : Nat) (A3 : Option Addr) (n3 c3 : Nat) (A4 : Option Addr) (n4 c4 : Nat) (s : Su) (i b0 b1 b2 b3 b4 b5 : Int) (w : World) (h : SuAt w A1 n1 c1 A2 n2 c2 A3 n3 c3 A4 n4 c4 s) :
    Calls Tryz.prog 16 #[.agg #[.slice A1 n1 c1, .slice A2 n2 c2, .slice A3 n3 c3, .slice A4 n4 c4], .int .i64 i, .agg #[.int .i64 b0, .int .i64 b1, .int .i64 b2, .int .i64 b3, .int .i64 b4, .int .i64 b5]] w (Gives (.int .i64 (MU.allowE s i [b0, b1, b2, b3, b4, b5])) w) := by
  have HL2 := Lib.hid h.bs.len
  have CK := Lib.hid (fun w' (hb : Below w.heap.size w w') => pcheck_any A1 n1 c1 A2 n2 c2 A3 n3 c3 A4 n4 c4 s w' (h.keep hb))
  have AD := Lib.hid (fun I w' (hb : Below w.heap.size w w') hs hI => allowed_any A1 n1 c1 A2 n2 c2 A3 n3 c3 A4 n4 c4 s I b0 b1 b2 b3 b4 b5 w' (h.keep hb) hs hI)
  have hn2 := h.bs.few
  clear h
  have T0 := Lib.hid (bx2_start w (.slice A1 n1 c1) (.slice A2 n2 c2) (.slice A3 n3 c3) (.slice A4 n4 c4) b0 b1 b2 b3 b4 b5)
  go_enter Tryz.func16, Tryz.ntmps16
  obtain ⟨er, her⟩ : ∃ er, MU.chkS s = er := ⟨_, rfl⟩
  have HE := Lib.hid her
  rw [her] at CK
  clear her
  go_upto_region 1 with (fail)
  generalize (w.alloc (.cells #[.slice A1 n1 c1, .slice A2 n2 c2, .slice A3 n3 c3, .slice A4 n4 c4] 27)).alloc (.cells #[.int .i64 b0, .int .i64 b1, .int .i64 b2, .int .i64 b3, .int .i64 b4, .int .i64 b5] 40) = W0 at *
  obtain ⟨x0, x1, x2, x3⟩ := T0.out.box.cells
  go_wp2_with fail
  refine (CK.out _ T0.out.below).mono ?_
  rintro ev w1 ⟨rfl, hb⟩
  have T1 := Lib.hid (T0.out.keep hb)
  clear hb CK T0 x0 x1 x2 x3
  obtain ⟨x0, x1, x2, x3⟩ := T1.out.box.cells
  obtain ⟨y0, y1, y2, y3, y4, y5⟩ := cells6 T1.out.bun
  have BD := Lib.hid T1.out.below
  by_cases h1 : er = 0
  · subst h1
    by_cases hno : i < 0 ∨ (n2 : Int) ≤ i
    · have G := Lib.hid (ret_int (k := .i64) (MU.allowE_none (b := [b0, b1, b2, b3, b4, b5]) HE.out (by rw [HL2.out]; exact hno)).symm)
      have IX := Lib.hid (isIndex_no (i := i) (n := (n2 : Int)) hno w1)
      clear hno AD
      go_wp2_with fail
      refine IX.out.mono ?_
      rintro ev w2 ⟨rfl, rfl⟩
      go_wp2
      go_ret
      exact ⟨G.out, BD.out⟩
    · obtain ⟨I, rfl⟩ := Int.eq_ofNat_of_zero_le (show 0 ≤ i by omega)
      have hI : I < n2 := by omega
      have IX := Lib.hid (isIndex_yes (i := (I : Int)) (n := (n2 : Int)) (by omega) w1)
      have AD2 := Lib.hid (AD.out I w1 BD.out HE.out hI)
      clear hno AD
      obtain ⟨z, hz⟩ : ∃ z, MU.allowE s (I : Int) [b0, b1, b2, b3, b4, b5] = z := ⟨_, rfl⟩
      rw [hz] at AD2
      have G := Lib.hid (ret_int (k := .i64) hz.symm)
      clear hz
      go_wp2_with fail
      refine IX.out.mono ?_
      rintro ev w2 ⟨rfl, rfl⟩
      go_wp2_with fail
      refine AD2.out.mono ?_
      rintro ev w3 ⟨rfl, hb⟩
      have B2 := Lib.hid (BD.out.trans (hb.mono BD.out.size))
      clear hb AD2
      go_wp2
      go_ret
      exact ⟨G.out, B2.out⟩
  · have hne : (er != 0) = true := bne_iff_ne.2 h1
    have G := Lib.hid (ret_int (k := .i64) (show er = MU.allowE s i [b0, b1, b2, b3, b4, b5] by rw [MU.allowE_chk (by rw [HE.out]; exact h1), HE.out]))
    clear AD
    go_wp2
    go_ret
    exact ⟨G.out, BD.out⟩
end Go.Proofs.YtigfgeanofccgaaGreatDoor
