/- The reference's priced: no claim of its own. -/
import Derived.Test.YtcokplikmjegcaaGreatDoorRScn
import Derived.Test.YtcokplikmjegcaaGreatDoorCRTok
import Derived.Test.YtcokplikmjegcaaGreatDoorPPart
import Derived.Deep.RegionHeld3
namespace Go.Proofs.YtcokplikmjegcaaGreatDoor
open Go.RowKit
open MC (Pr)
def RdB (N g : Nat) (R : List Int × Int × List Tk × Int) (w : World) (e : Ending) (w' : World) : Prop := e = .returned (.tuple #[aggB R.1, .int .i64 R.2.1]) ∧ SR (fun k => g ≤ k) w' g R.2.2.1 R.2.2.2 ∧ Mv N g g w w'
theorem SR.lt {bad : Nat → Prop} {w : World} {g : Nat} {ts : List Tk} {e : Int} (h : SR bad w g ts e) : g < w.heap.size := by obtain ⟨A, n, c, L, h1, _⟩ := h; exact h1.lt
theorem SR.dead {bad : Nat → Prop} {w : World} {g : Nat} {ts : List Tk} {e : Int} (h : SR bad w g ts e) (he : e ≠ 0) : ts = [] := by obtain ⟨A, n, c, L, _, _, h2⟩ := h; exact h2 he
theorem SR.other {bad : Nat → Prop} {w w' : World} {g q : Nat} {ts : List Tk} {e : Int} (h : SR bad w g ts e) (hg : w.grownBy w' (some q)) (hq : bad q) (hne : g ≠ q) : SR bad w' g ts e := by
  obtain ⟨A, n, c, L, h1, h2, h3⟩ := h
  exact ⟨A, n, c, L, h1.other hg hq hne, h2, h3⟩
theorem SR.poke {bad : Nat → Prop} {w : World} {g q : Nat} {ts : List Tk} {e : Int} (h : SR bad w g ts e) (hq : bad q) (hne : g ≠ q) (i : Nat) (u : Value) : SR bad (w.setCell ⟨q, i, none⟩ u) g ts e := h.other (grown_set w q i u) hq hne
theorem SR.six8 {w : World} {g Rb : Nat} {ts : List Tk} {er : Int} (h : SR (fun k => g ≤ k) w g ts er) (hg : g < Rb) (v0 v1 v2 v3 v4 v5 : Value) :
    SR (fun k => g ≤ k) ((((((w.setCell ⟨Rb, 0, none⟩ (v0)).setCell ⟨Rb, 1, none⟩ (v1)).setCell ⟨Rb, 2, none⟩ (v2)).setCell ⟨Rb, 3, none⟩ (v3)).setCell ⟨Rb, 4, none⟩ (v4)).setCell ⟨Rb, 5, none⟩ (v5)) g ts er := by
  have h1 := Nat.le_of_lt hg
  have h2 := Nat.ne_of_lt hg
  exact (((((h.poke (q := Rb) h1 h2 0 v0).poke (q := Rb) h1 h2 1 v1).poke (q := Rb) h1 h2 2 v2).poke (q := Rb) h1 h2 3 v3).poke (q := Rb) h1 h2 4 v4).poke (q := Rb) h1 h2 5 v5
theorem bb_put {w : World} {B : Nat} {T : TypeId} {xs : List Int} (h : BB w B T xs) (a b c d e f : Int) : BB ((((((w.setCell ⟨B, 0, none⟩ (.int .i64 a)).setCell ⟨B, 1, none⟩ (.int .i64 b)).setCell ⟨B, 2, none⟩ (.int .i64 c)).setCell ⟨B, 3, none⟩ (.int .i64 d)).setCell ⟨B, 4, none⟩ (.int .i64 e)).setCell ⟨B, 5, none⟩ (.int .i64 f)) B T [a, b, c, d, e, f] := by
  have := (((((h.set 0 a).set 1 b).set 2 c).set 3 d).set 4 e).set 5 f
  obtain ⟨x0, x1, x2, x3, x4, x5, rfl⟩ := Proofs.YtcokplikmjegcaaGreatDoor.six h.2
  exact this
theorem bb_far {w : World} {B B' : Nat} {T : TypeId} {xs : List Int} (h : BB w B T xs) (hne : B ≠ B') (v0 v1 v2 v3 v4 v5 : Value) : BB ((((((w.setCell ⟨B', 0, none⟩ (v0)).setCell ⟨B', 1, none⟩ (v1)).setCell ⟨B', 2, none⟩ (v2)).setCell ⟨B', 3, none⟩ (v3)).setCell ⟨B', 4, none⟩ (v4)).setCell ⟨B', 5, none⟩ (v5)) B T xs :=
  (((((h.other v0 hne).other v1 hne).other v2 hne).other v3 hne).other v4 hne).other v5 hne
theorem Tks.drop {w : World} {A : Option Addr} {n c : Nat} {ts : List Tk} (h : Tks w A n c ts) {m : Nat} (hm : m ≤ n) : Tks w (if c = m then A else A.map (·.add (m * 4))) (n - m) (c - m) (ts.drop m) := by
  have hl := h.len
  have hc := h.cap
  have := h.reads.cut (k := m) hm hc
  rw [cellsTs_drop] at this
  exact ⟨this, by rw [List.length_drop]; omega, by omega, by have := h.few; omega⟩
theorem bid_dead0 {L : List Pr} {er : Int} (h : er ≠ 0) : MX.bid L [] er = (MC.Z6, 0, [], er) := by
  have e1 : MX.exE 64 [] er = er := MX.ex_dead h
  have e2 : MX.amtE 1000000 [] er = er := by unfold MX.amtE; rw [if_neg h]
  have e3 : MX.amtV 1000000 [] er = 0 := by unfold MX.amtV; rw [if_neg (by rw [e2]; exact h)]
  have e4 : MX.nxt [] er = [] := by unfold MX.nxt; rw [if_neg h]
  unfold MX.bid MX.scanU
  rw [if_neg h]
  unfold MX.bid1
  simp only [e1, e4]
  unfold MX.bid2
  rw [e2, e3, e4]
theorem scanL_dead {L : List Pr} {ts : List Tk} (h : (MC.scanL L ts).2.2 ≠ 0) : MC.scanL L ts = (MC.Z6, [], (MC.scanL L ts).2.2) := by
  have el : ∀ (f : Nat) (b : List Int) (ts : List Tk), (MC.elems L f b ts).2.2 ≠ 0 → MC.elems L f b ts = (MC.Z6, [], (MC.elems L f b ts).2.2) := by
    intro f
    induction f with
    | zero => intro b ts _; rfl
    | succ f ih =>
      intro b ts h
      by_cases h0 : MC.elE L b ts = 0
      · cases h1 : MC.isO 125 ts[3]? with
        | true => rw [MC.elems_end h0 h1] at h; exact absurd rfl h
        | false => rw [MC.elems_on h0 h1] at h ⊢; exact ih _ _ h
      · rw [MC.elems_bad h0]
  cases h0 : MC.isO 123 ts[0]? with
  | false => rw [MC.scan_bad h0]
  | true =>
    cases h1 : MC.isO 125 ts[1]? with
    | true => rw [MC.scan_empty h0 h1] at h; exact absurd rfl h
    | false => rw [MC.scan_on h0 h1] at h ⊢; exact el _ _ _ h
theorem bid_scan0 {L : List Pr} {ts : List Tk} (h : (MC.scanL L ts).2.2 ≠ 0) : MX.bid L ts 0 = (MC.Z6, 0, [], (MC.scanL L ts).2.2) := by
  have e := bid_dead0 (L := L) h
  unfold MX.bid MX.scanU at e ⊢
  rw [if_neg h] at e
  rw [if_pos rfl, ← e, ← scanL_dead h]
def opPr0 : Oper := { dst := some 42, op := Op.load 24 (Operand.tmp 6), type := 24, pos := "ref.go:86", after := #[], guard := none }
def opPr1 : Oper := { dst := some 43, op := Op.move (Operand.tmp 1), type := 66, pos := "ref.go:86", after := #[], guard := none }
def opPr2 : Oper := { dst := some 44, op := Op.call { callee := Callee.value (Operand.func 69), args := #[Operand.tmp 43, Operand.const (Value.int IntKind.i64 1000000)], argTypes := #[66, 2] }, type := 2, pos := "ref.go:86", after := #[{ on := 1, ground := Ground.data }], guard := none }
def opPr3 : Oper := { dst := none, op := Op.store 24 (Operand.tmp 4) (Operand.tmp 42), type := 0, pos := "ref.go:86", after := #[{ on := 0, ground := Ground.data }, { on := 2, ground := Ground.chain }, { on := 0, ground := Ground.phase }, { on := 1, ground := Ground.textOnly Departure.lateStores }, { on := 2, ground := Ground.textOnly Departure.lateStoresUnsure }], guard := none }
def opPr4 : Oper := { dst := some 5, op := Op.assign (Operand.tmp 44), type := 2, pos := "ref.go:86", after := #[{ on := 2, ground := Ground.data }, { on := 3, ground := Ground.chain }, { on := 0, ground := Ground.phase }, { on := 1, ground := Ground.phase }, { on := 2, ground := Ground.phase }, { on := 3, ground := Ground.phase }], guard := none }
set_option maxRecDepth 100000 in
set_option maxHeartbeats 8000000 in
theorem rpriced_any (A : Option Addr) (n cp : Nat) (L : List Pr) (N g : Nat) (ts : List Tk) (er : Int) (w : World) (h : SR (fun k => g ≤ k) w g ts er) (hN : N ≤ g) (hNw : N ≤ w.heap.size) (hP : ∀ w', Below N w w' → Prs w' A n cp L) (hc : MC.chkL L = 0) :
    Calls Tryz.prog 64 #[.slice A n cp, .pointer (some ⟨g, 0, none⟩)] w (RdB N g (MX.bid L ts er) w) := by
  have hgw : g < w.heap.size := h.lt
  have B0 := below_new w (.cells #[.int .i64 0, .int .i64 0, .int .i64 0, .int .i64 0, .int .i64 0, .int .i64 0] 24)
  have HR := Lib.hid (BB.new w 24 0 0 0 0 0 0)
  have HM := Lib.hid ((Mv.refl N g g w).quiet B0 hNw)
  have HP := Lib.hid hP
  have HC := Lib.hid hc
  by_cases he : er = 0
  case neg =>
    have hb0 : (er != 0) = true := bne_iff_ne.2 he
    obtain rfl := h.dead he
    have POST := Lib.hid (fun (w' : World) (hs : SR (fun k => g ≤ k) w' g [] er) (hm : Mv N g g w w') => show RdB N g (MX.bid L [] er) w (.returned (.tuple #[.agg #[.int .i64 0, .int .i64 0, .int .i64 0, .int .i64 0, .int .i64 0, .int .i64 0], .int .i64 0])) w' from by
      rw [bid_dead0 he]; exact ⟨rfl, hs, hm⟩)
    have HS := Lib.hid (h.keep B0)
    clear h B0 hP hc HP HC he
    go_enter Tryz.func64, Tryz.ntmps64
    go_upto_region 1 with (fail)
    obtain ⟨W0, hW0⟩ : ∃ W0, W0 = w.alloc (.cells #[.int .i64 0, .int .i64 0, .int .i64 0, .int .i64 0, .int .i64 0, .int .i64 0] 24) := ⟨_, rfl⟩
    rw [← hW0] at HR HM HS ⊢
    clear hW0
    obtain ⟨As, ns, cs, Ls, hsb, _, _⟩ := HS.out
    have c1 := hsb.c1
    clear hsb
    obtain ⟨r0, r1, r2, r3, r4, r5⟩ := cells6 HR.out
    obtain ⟨f0, f1, f2, f3, f4, f5⟩ := free6 HR.out
    have hzr := HR.out.lt
    have FS := Lib.hid (HS.out.six8 (Rb := w.heap.size) hgw (.int .i64 0) (.int .i64 0) (.int .i64 0) (.int .i64 0) (.int .i64 0) (.int .i64 0))
    have FM := Lib.hid (mv_six HM.out (Nat.le_refl _) hNw (.int .i64 0) (.int .i64 0) (.int .i64 0) (.int .i64 0) (.int .i64 0) (.int .i64 0))
    clear HS HM HR
    go_wp2
    refine bodyPost_ret (v := .tuple #[.agg #[.int .i64 0, .int .i64 0, .int .i64 0, .int .i64 0, .int .i64 0, .int .i64 0], .int .i64 0]) (by simp [results, Tryz.results64, go_sem, r0, r1, r2, r3, r4, r5]) rfl ?_
    exact POST.out _ FS.out FM.out
  subst he
  have hb0 : ((0 : Int) != 0) = false := rfl
  have HS := Lib.hid (h.keep B0)
  suffices H9 : ∀ (PP : Ending → World → Prop), (∀ e w', RdB N g (MX.bid L ts 0) w e w' → PP e w') → Calls Tryz.prog 64 #[.slice A n cp, .pointer (some ⟨g, 0, none⟩)] w PP from H9 _ (fun _ _ q => q)
  intro PP hPP
  have POST0 := Lib.hid hPP
  clear hPP
  have hL6 := (MC.chk_good hc).few
  clear h B0 hP hc
  go_enter Tryz.func64, Tryz.ntmps64
  go_upto_region 1 with (fail)
  obtain ⟨W0, hW0⟩ : ∃ W0, W0 = w.alloc (.cells #[.int .i64 0, .int .i64 0, .int .i64 0, .int .i64 0, .int .i64 0, .int .i64 0] 24) := ⟨_, rfl⟩
  rw [← hW0] at HR HM HS ⊢
  clear hW0
  obtain ⟨As, ns, cs, Ls, hsb, hl1, _⟩ := HS.out
  obtain rfl := hl1 rfl
  have HSB := Lib.hid hsb
  have c0 := hsb.c0
  have c1 := hsb.c1
  have RT := Lib.hid (rtok_any A n cp L hL6 As ns cs Ls W0 (HP.out W0 HM.out.below) hsb.tks)
  have hscl := scan_length L Ls
  clear hsb hl1
  obtain ⟨sb, st, se, hSC⟩ : ∃ sb st se, MC.scanL L Ls = (sb, st, se) := ⟨_, _, _, rfl⟩
  have HSC := Lib.hid hSC
  rw [hSC] at RT hscl
  dsimp only at hscl
  obtain ⟨q0, q1, q2, q3, q4, q5, rfl⟩ := Proofs.YtcokplikmjegcaaGreatDoor.six hscl
  unfold tokV at RT
  dsimp only at RT
  rw [aggB_lit] at RT
  clear hSC hscl
  go_wp2_with fail
  refine RT.out.mono ?_
  rintro ev w1 ⟨rfl, hb⟩
  have BQ := below_new w1 (.cells #[.int .i64 q0, .int .i64 q1, .int .i64 q2, .int .i64 q3, .int .i64 q4, .int .i64 q5] 24)
  have S2 := Lib.hid ((HS.out.keep hb).keep BQ)
  have M2 := Lib.hid ((HM.out.quiet hb hNw).quiet BQ hNw)
  have R1 := HR.out.keep hb HR.out.lt
  have R2 := Lib.hid (R1.keep BQ R1.lt)
  have SB2 := Lib.hid ((HSB.out.keep hb).keep BQ)
  have HQ := Lib.hid (BB.new w1 24 q0 q1 q2 q3 q4 q5)
  have hg6 : g < w1.heap.size := by have := hb.size; have := HS.out.lt; omega
  have hg6w : w1.heap.size ≠ w.heap.size := by have := R1.lt; omega
  clear hb BQ HS HM HR HSB RT c0 c1 R1
  go_upto_region 4 with (fail)
  obtain ⟨W2, hW2⟩ : ∃ W2, W2 = w1.alloc (.cells #[.int .i64 q0, .int .i64 q1, .int .i64 q2, .int .i64 q3, .int .i64 q4, .int .i64 q5] 24) := ⟨_, rfl⟩
  rw [← hW2] at S2 M2 R2 SB2 HQ ⊢
  clear hW2
  obtain ⟨g6, hg6e⟩ : ∃ g6, g6 = w1.heap.size := ⟨_, rfl⟩
  rw [← hg6e] at HQ hg6 hg6w ⊢
  clear hg6e w1
  by_cases hse : se = 0
  case neg =>
    have hb1 : (se != 0) = true := bne_iff_ne.2 hse
    have POST := Lib.hid (fun (w' : World) (hs : SR (fun k => g ≤ k) w' g [] se) (hm : Mv N g g w w') => POST0.out (.returned (.tuple #[.agg #[.int .i64 0, .int .i64 0, .int .i64 0, .int .i64 0, .int .i64 0, .int .i64 0], .int .i64 0])) w' (by
      have e := HSC.out
      rw [bid_scan0 (by rw [e]; exact hse), e]
      exact ⟨rfl, hs, hm⟩))
    have FL := Lib.hid (rfailU se hse S2.out)
    have hfl : flE se 0 = se := by unfold flE; rw [if_pos rfl]
    rw [hfl] at FL
    clear hfl HSC hse SB2 HQ POST0 S2
    go_wp2_with fail
    refine FL.out.mono ?_
    rintro ev w3 ⟨rfl, hs3, hg3⟩
    have HS := Lib.hid hs3
    have HM := Lib.hid (M2.out.grown hg3 hN hNw)
    have HR := Lib.hid (bb_grown R2.out hg3 hgw)
    clear hs3 hg3 M2 R2 FL
    obtain ⟨r0, r1, r2, r3, r4, r5⟩ := cells6 HR.out
    obtain ⟨f0, f1, f2, f3, f4, f5⟩ := free6 HR.out
    have hzr := HR.out.lt
    have FS := Lib.hid (HS.out.six8 (Rb := w.heap.size) hgw (.int .i64 0) (.int .i64 0) (.int .i64 0) (.int .i64 0) (.int .i64 0) (.int .i64 0))
    have FM := Lib.hid (mv_six HM.out (Nat.le_refl _) hNw (.int .i64 0) (.int .i64 0) (.int .i64 0) (.int .i64 0) (.int .i64 0) (.int .i64 0))
    clear HS HM HR
    go_wp2
    refine bodyPost_ret (v := .tuple #[.agg #[.int .i64 0, .int .i64 0, .int .i64 0, .int .i64 0, .int .i64 0, .int .i64 0], .int .i64 0]) (by simp [results, Tryz.results64, go_sem, r0, r1, r2, r3, r4, r5]) rfl ?_
    exact POST.out _ FS.out FM.out
  subst hse
  have hb1 : ((0 : Int) != 0) = false := rfl
  have hm1 : used Ls ([q0, q1, q2, q3, q4, q5], st, 0) ≤ Ls.length ∧ st = Ls.drop (used Ls ([q0, q1, q2, q3, q4, q5], st, 0)) := by
    obtain ⟨k, k1, k2, k3⟩ := MC.scan_rest (l := L) (ts := Ls) (by rw [HSC.out])
    rw [HSC.out] at k3
    dsimp only at k3
    have e : used Ls ([q0, q1, q2, q3, q4, q5], st, 0) = k := by
      unfold used
      rw [if_pos rfl]
      dsimp only
      rw [k3, List.length_drop]
      omega
    rw [e]
    exact ⟨k2, k3⟩
  generalize used Ls ([q0, q1, q2, q3, q4, q5], st, 0) = m at *
  obtain ⟨hm1, rfl⟩ := hm1
  have hnl := SB2.out.tks.len
  have hcap := SB2.out.tks.cap
  have hfew := SB2.out.tks.few
  have hmn : m ≤ ns := by omega
  have c0 := SB2.out.c0
  have f0 := SB2.out.f 0
  have TD := SB2.out.tks.drop hmn
  have SB3 := Lib.hid (SB2.out.put0 TD (fun ad ha => by
    split at ha
    · exact SB2.out.far ad ha
    · cases hA : As with
      | none => rw [hA] at ha; cases ha
      | some ad0 =>
        rw [hA] at ha
        have e := Option.some.inj ha
        rw [← e, block_of_add]
        exact SB2.out.far ad0 hA))
  have S3 := Lib.hid (show SR (fun k => g ≤ k) _ g (Ls.drop m) 0 from ⟨_, _, _, _, SB3.out, fun _ => rfl, fun h => absurd rfl h⟩)
  have gs := grown_set W2 g 0 (.slice (if cs = m then As else As.map (·.add (m * 4))) (ns - m) (cs - m))
  have M3 := Lib.hid (M2.out.grown gs hN hNw)
  have R3 := Lib.hid (bb_grown R2.out gs hgw)
  have Q3 := Lib.hid (bb_grown HQ.out gs hg6)
  have hh1 : (m : Int).toNat = m := Int.toNat_natCast m
  have hh2 : (0 : Int) ≤ m := by omega
  have hh3 : (m : Int) ≤ ns := by omega
  have hh4 : (ns : Int) ≤ cs := by omega
  have hh5 : ((ns : Int) - m).toNat = ns - m := by omega
  have hh6 : ((cs : Int) - m).toNat = cs - m := by omega
  clear gs TD M2 R2 HQ SB2 S2 SB3
  go_upto_region 8 with (fail)
  obtain ⟨W3, hW3⟩ : ∃ W3, W3 = W2.setCell ⟨g, 0, none⟩ (.slice (if cs = m then As else As.map (·.add (m * 4))) (ns - m) (cs - m)) := ⟨_, rfl⟩
  rw [← hW3] at S3 M3 R3 Q3 ⊢
  clear hW3 c0 f0 hh1 hh2 hh3 hh4 hh5 hh6 hcap hfew hnl hmn W2
  have HB : Hid (MX.bid L Ls 0 = MX.bid2 [q0, q1, q2, q3, q4, q5] (MX.nxt (Ls.drop m) (MX.exE 64 (Ls.drop m) 0)) (MX.exE 64 (Ls.drop m) 0)) := Lib.hid (by
    unfold MX.bid MX.scanU
    rw [if_pos rfl, HSC.out]
    rfl)
  rw [HB.out] at POST0
  obtain ⟨e1, he1⟩ : ∃ e1, MX.exE 64 (Ls.drop m) 0 = e1 := ⟨_, rfl⟩
  have EX := Lib.hid (rexpectU 64 S3.out)
  rw [he1] at EX POST0
  obtain ⟨t1, ht1⟩ : ∃ t1, MX.nxt (Ls.drop m) e1 = t1 := ⟨_, rfl⟩
  rw [ht1] at EX POST0
  clear he1 ht1 HB HSC S3 hm1
  generalize (if cs = m then As else As.map (·.add (m * 4))) = An at *
  generalize ns - m = nn at *
  generalize cs - m = cc at *
  go_wp2_with fail
  refine EX.out.mono ?_
  rintro ev w4 ⟨rfl, hs4, hg4⟩
  have S4 := Lib.hid hs4
  have M4 := Lib.hid (M3.out.grown hg4 hN hNw)
  have R4 := Lib.hid (bb_grown R3.out hg4 hgw)
  have Q4 := Lib.hid (bb_grown Q3.out hg4 hg6)
  clear hs4 hg4 M3 R3 Q3 EX
  have AM := Lib.hid (fun (w' : World) (hs : SR (fun k => g ≤ k) w' g t1 e1) => ramountU 1000000 hs)
  have POST := Lib.hid (fun (w' : World) (hs : SR (fun k => g ≤ k) w' g (MX.nxt t1 (MX.amtE 1000000 t1 e1)) (MX.amtE 1000000 t1 e1)) (hm : Mv N g g w w') => POST0.out (.returned (.tuple #[.agg #[.int .i64 q0, .int .i64 q1, .int .i64 q2, .int .i64 q3, .int .i64 q4, .int .i64 q5], .int .i64 (MX.amtV 1000000 t1 e1)])) w' ⟨rfl, hs, hm⟩)
  clear POST0
  generalize MX.amtV 1000000 t1 e1 = av at *
  go_upto_region 9 with (fail)
  have HS := Lib.hid (S4.out.keep (below_drawn w4))
  have HM := Lib.hid (M4.out.drew)
  have HR := Lib.hid (R4.out.keep (below_drawn w4) R4.out.lt)
  have HQ := Lib.hid (Q4.out.keep (below_drawn w4) Q4.out.lt)
  clear S4 M4 R4 Q4
  have HX5 : w4.drew.heap[g6]? = some (.cells #[.int .i64 q0, .int .i64 q1, .int .i64 q2, .int .i64 q3, .int .i64 q4, .int .i64 q5] 24 (0, 0)) := HQ.out.1
  refine wp_region_held_drew (S := fun w' => w'.heap[g6]? = some (.cells #[.int .i64 q0, .int .i64 q1, .int .i64 q2, .int .i64 q3, .int .i64 q4, .int .i64 q5] 24 (0, 0))) (by kernel_rfl) HX5 (fun hHeld => ?_)
  clear HX5
  generalize w4.drew = X at *
  refine wpAnyH_take (i := 0) (oi := opPr0) (v := ?_) rfl (by kernel_rfl) (by kernel_rfl) (by kernel_rfl) (fun _ _ _ h => h) (Or.inl ⟨by rfl, ?_⟩) (by assumption) ?_
  rotate_left
  · intro w hSw; (try dsimp only at hSw); unfold opPr0; obtain ⟨s0, s1, s2, s3, s4, s5⟩ := cells6 (show BB w g6 24 [q0, q1, q2, q3, q4, q5] from ⟨hSw, rfl⟩); go_simp; try with_reducible rfl
  try unfold opPr0
  (try simp only [Act.put, List.setIfInBounds_toArray, List.set_cons_zero, List.set_cons_succ])
  refine wpAnyH_take (i := 1) (oi := opPr1) (v := ?_) rfl (by kernel_rfl) (by kernel_rfl) (by kernel_rfl) (fun _ _ _ h => h) (Or.inl ⟨by rfl, ?_⟩) (by assumption) ?_
  rotate_left
  · intro w hSw; (try dsimp only at hSw); unfold opPr1; obtain ⟨s0, s1, s2, s3, s4, s5⟩ := cells6 (show BB w g6 24 [q0, q1, q2, q3, q4, q5] from ⟨hSw, rfl⟩); go_simp; try with_reducible rfl
  try unfold opPr1
  (try simp only [Act.put, List.setIfInBounds_toArray, List.set_cons_zero, List.set_cons_succ])
  refine wpAnyH_ready (rs := [2]) (by kernel_rfl) (by simp) ?_
  refine AllReadyH.cons (o := opPr2) rfl (fun K hK => ?_) AllReadyH.nil
  try unfold opPr2
  go_simp
  refine (AM.out _ HS.out).mono ?_
  rintro ev w7 ⟨rfl, hs7, hg7⟩
  have HS7 := Lib.hid hs7
  have HM7 := Lib.hid (HM.out.grown hg7 hN hNw)
  have HQ7 := Lib.hid (bb_grown HQ.out hg7 hg6)
  have HR7 := Lib.hid (bb_grown HR.out hg7 hgw)
  clear hs7 hg7 HS HM HQ HR AM
  have HS := HS7
  have HM := HM7
  have HQ := HQ7
  have HR := HR7
  clear HS7 HM7 HQ7 HR7
  refine hK.out _ _ ?_ (fun hHeld => ?_)
  · exact HQ.out.1
  clear hK K
  try unfold opPr2
  (try simp only [Act.put, List.setIfInBounds_toArray, List.set_cons_zero, List.set_cons_succ])
  refine wpAnyH_ready (rs := [3]) (by kernel_rfl) (by simp) ?_
  refine AllReadyH.cons (o := opPr3) rfl (fun K hK => ?_) AllReadyH.nil
  try unfold opPr3
  obtain ⟨r0, r1, r2, r3, r4, r5⟩ := cells6 HR.out
  obtain ⟨f0, f1, f2, f3, f4, f5⟩ := free6 HR.out
  have hzr := HR.out.lt
  go_simp
  have HS8 := Lib.hid (HS.out.six8 (Rb := w.heap.size) hgw (.int .i64 q0) (.int .i64 q1) (.int .i64 q2) (.int .i64 q3) (.int .i64 q4) (.int .i64 q5))
  have HM8 := Lib.hid (mv_six HM.out (Nat.le_refl _) hNw (.int .i64 q0) (.int .i64 q1) (.int .i64 q2) (.int .i64 q3) (.int .i64 q4) (.int .i64 q5))
  have HR8 := Lib.hid (bb_put HR.out q0 q1 q2 q3 q4 q5)
  have HQ8 := Lib.hid (bb_far HQ.out hg6w (.int .i64 q0) (.int .i64 q1) (.int .i64 q2) (.int .i64 q3) (.int .i64 q4) (.int .i64 q5))
  obtain ⟨w8, hw8⟩ : ∃ w8, w8 = ((((((w7.setCell ⟨w.heap.size, 0, none⟩ (.int .i64 q0)).setCell ⟨w.heap.size, 1, none⟩ (.int .i64 q1)).setCell ⟨w.heap.size, 2, none⟩ (.int .i64 q2)).setCell ⟨w.heap.size, 3, none⟩ (.int .i64 q3)).setCell ⟨w.heap.size, 4, none⟩ (.int .i64 q4)).setCell ⟨w.heap.size, 5, none⟩ (.int .i64 q5)) := ⟨_, rfl⟩
  rw [← hw8] at HS8 HM8 HR8 HQ8 ⊢
  clear hw8 HS HM HR HQ r0 r1 r2 r3 r4 r5 f0 f1 f2 f3 f4 f5 hzr
  have HS := HS8
  have HM := HM8
  have HR := HR8
  have HQ := HQ8
  clear HS8 HM8 HR8 HQ8
  refine hK.out _ _ ?_ (fun hHeld => ?_)
  · exact HQ.out.1
  clear hK K
  try unfold opPr3
  (try simp only [Act.put, List.setIfInBounds_toArray, List.set_cons_zero, List.set_cons_succ])
  refine wpAnyH_take (i := 4) (oi := opPr4) (v := ?_) rfl (by kernel_rfl) (by kernel_rfl) (by kernel_rfl) (fun _ _ _ h => h) (Or.inl ⟨by rfl, ?_⟩) (by assumption) ?_
  rotate_left
  · intro w hSw; (try dsimp only at hSw); unfold opPr4; obtain ⟨s0, s1, s2, s3, s4, s5⟩ := cells6 (show BB w g6 24 [q0, q1, q2, q3, q4, q5] from ⟨hSw, rfl⟩); go_simp; try with_reducible rfl
  try unfold opPr4
  (try simp only [Act.put, List.setIfInBounds_toArray, List.set_cons_zero, List.set_cons_succ])
  refine wpAnyH_done (by kernel_rfl) ?_ _
  clear hHeld
  obtain ⟨r0, r1, r2, r3, r4, r5⟩ := cells6 HR.out
  go_wp2
  refine bodyPost_ret (v := .tuple #[.agg #[.int .i64 q0, .int .i64 q1, .int .i64 q2, .int .i64 q3, .int .i64 q4, .int .i64 q5], .int .i64 av]) (by simp [results, Tryz.results64, go_sem, r0, r1, r2, r3, r4, r5]) rfl ?_
  exact POST.out _ HS.out HM.out
end Go.Proofs.YtcokplikmjegcaaGreatDoor
