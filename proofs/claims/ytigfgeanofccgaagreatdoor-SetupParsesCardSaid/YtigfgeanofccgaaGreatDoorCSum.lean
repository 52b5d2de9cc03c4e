/- The sums of the program: no claim of its own. -/
import Derived.Test.YtigfgeanofccgaaGreatDoorJCc
import Derived.Test.YtigfgeanofccgaaGreatDoorJMu
namespace Go.Proofs.YtigfgeanofccgaaGreatDoor
open Go.RowKit
open MC (Pr)
set_option maxRecDepth 100000 in
theorem weightU (g : Int) (p : Pr) (w : World) : Calls Tryz.prog 111 #[.int .i64 g, aggP p] w (Gives (.int .i64 (fU g p)) w) := by
  by_cases hg : p.group = g
  · rw [fU_yes hg]
    obtain ⟨pn, ps, pr, pp, pg⟩ := p
    simp only at hg
    subst hg
    unfold aggP
    simp only
    go_enter Tryz.func111, Tryz.ntmps111
    go_wp2
    go_ret
    exact ⟨rfl, below_new _ _⟩
  · rw [fU_no hg]
    obtain ⟨pn, ps, pr, pp, pg⟩ := p
    simp only at hg
    have hb : (pg != g) = true := bne_iff_ne.2 hg
    unfold aggP
    simp only
    go_enter Tryz.func111, Tryz.ntmps111
    go_wp2
    go_ret
    exact ⟨rfl, below_new _ _⟩
/-- What has been done when k weights are done. -/
structure Wtd (f : Pr → Int) (Bw Bb : Nat) (wo : World) (L : List Pr) (b : List Int) (wr : World) (k : Nat) : Prop where
  here : BB wr Bw 158 (padF f L k)
  bun : BB wr Bb 40 b
  below : Below wo.heap.size wo wr
  base : wo.heap.size ≤ Bw
  ne : Bb ≠ Bw
theorem Wtd.keep {f : Pr → Int} {Bw Bb : Nat} {wo wr w' : World} {L : List Pr} {b : List Int} {k : Nat} (h : Wtd f Bw Bb wo L b wr k) (hb : Below wr.heap.size wr w') : Wtd f Bw Bb wo L b w' k :=
  ⟨h.here.keep hb h.here.lt, h.bun.keep hb h.bun.lt, h.below.trans (hb.mono h.below.size), h.base, h.ne⟩
theorem Wtd.step {f : Pr → Int} {Bw Bb : Nat} {wo wr : World} {L : List Pr} {b : List Int} {k : Nat} {p : Pr} (h : Wtd f Bw Bb wo L b wr k) (hk : k < 6) (hp : L[k]? = some p) : Wtd f Bw Bb wo L b (wr.setCell ⟨Bw, k, none⟩ (.int .i64 (f p))) (k + 1) := by
  refine ⟨?_, h.bun.other _ h.ne, h.below.setCell (p := ⟨Bw, k, none⟩) h.base _, h.base, h.ne⟩
  have := h.here.set k (f p)
  rwa [padF_step hp hk] at this
set_option maxRecDepth 100000 in
set_option maxHeartbeats 4000000 in
theorem sumU_any (g : Int) (A : Option Addr) (n cp : Nat) (L : List Pr) (a b c d e f : Int) (w : World) (h : Prs w A n cp L) :
    Calls Tryz.prog 110 #[.slice A n cp, .agg #[.int .i64 a, .int .i64 b, .int .i64 c, .int .i64 d, .int .i64 e, .int .i64 f], .func (.func 111) #[.int .i64 g] #[]] w (Gives (.int .i64 (MC.sumG (fU g) L [a, b, c, d, e, f])) w) := by
  have hn := h.few
  have hc := h.cap
  have HL := Lib.hid h.len
  have H := Lib.hid h
  clear h
  have HB := Lib.hid (below_new w (.cells #[.int .i64 a, .int .i64 b, .int .i64 c, .int .i64 d, .int .i64 e, .int .i64 f] 40))
  have CK := Lib.hid (fun w' (hb : Below w.heap.size w w') => check_any A n cp L w' (H.out.keep hb))
  by_cases hg : MC.chkL L = 0
  · rw [hg] at CK
    have BC := Lib.hid (fun w' => bcheck_any a b c d e f w')
    have N1 := Lib.hid (BB.new w 40 a b c d e f)
    cases hok : MB.okB [a, b, c, d, e, f] with
    | false =>
      rw [chk_no hok] at BC
      have G := Lib.hid (ret_int (k := .i64) (MC.sumG_no (f := (fU g)) (l := L) (b := [a, b, c, d, e, f]) (by rw [hok]; rintro ⟨_, h⟩; cases h)).symm)
      clear hok hg
      go_enter Tryz.func110, Tryz.ntmps110
      go_wp2_with fail
      refine (CK.out _ HB.out).mono ?_
      rintro e1 w1 ⟨rfl, hb⟩
      have B1 := Lib.hid (HB.out.trans (hb.mono HB.out.size))
      obtain ⟨c0, c1, c2, c3, c4, c5⟩ := cells6 (N1.out.keep hb N1.out.lt)
      clear hb
      go_wp2_with fail
      refine (BC.out _).mono ?_
      rintro e2 w2 ⟨rfl, hb⟩
      have B2 := Lib.hid (B1.out.trans (hb.mono B1.out.size))
      clear hb
      go_wp2
      go_ret
      exact ⟨G.out, B2.out⟩
    | true =>
      rw [chk_ok hok] at BC
      have GL := Lib.hid (Good_of hg)
      have h6 : n ≤ 6 := by have := GL.out.few; rw [HL.out] at this; exact this
      have G := Lib.hid (ret_int (k := .i64) (show cstB (padF (fU g) L L.length) [a, b, c, d, e, f] 6 = MC.sumG (fU g) L [a, b, c, d, e, f] by rw [MC.sumG_yes hg hok, cst_end (small_U g) GL.out hok]))
      rw [HL.out] at G
      have WT := Lib.hid (fun (p : Pr) (w' : World) => weightU g p w')
      clear hok hg
      go_enter Tryz.func110, Tryz.ntmps110
      go_wp2_with fail
      refine (CK.out _ HB.out).mono ?_
      rintro e1 w1 ⟨rfl, hb⟩
      have B1 := Lib.hid (HB.out.trans (hb.mono HB.out.size))
      have N2 := Lib.hid (N1.out.keep hb N1.out.lt)
      obtain ⟨c0, c1, c2, c3, c4, c5⟩ := cells6 N2.out
      clear hb N1
      go_wp2_with fail
      refine (BC.out _).mono ?_
      rintro e2 w2 ⟨rfl, hb⟩
      have B2 := Lib.hid (B1.out.trans (hb.mono B1.out.size))
      have N3 := Lib.hid (N2.out.keep hb N2.out.lt)
      clear hb N2 c0 c1 c2 c3 c4 c5 BC CK HB
      go_wp2_with fail
      have WS : Hid (Wtd (fU g) w2.heap.size w.heap.size w L [a, b, c, d, e, f] (w2.alloc (.cells #[.int .i64 0, .int .i64 0, .int .i64 0, .int .i64 0, .int .i64 0, .int .i64 0] 158)) 0) :=
        Lib.hid ⟨BB.new w2 _ 0 0 0 0 0 0, N3.out.alloc _, B2.out.trans ((below_new w2 _).mono B2.out.size), B2.out.size, Nat.ne_of_lt N3.out.lt⟩
      generalize w2.alloc (.cells #[.int .i64 0, .int .i64 0, .int .i64 0, .int .i64 0, .int .i64 0, .int .i64 0] 158) = W3 at *
      clear B2 N3 B1
      generalize w2.heap.size = Bw at *
      go_loopw [20] (fun i wr => ∃ k : Nat, k ≤ n ∧ i = .int .i64 k ∧ Hid (Wtd (fU g) Bw w.heap.size w L [a, b, c, d, e, f] wr k)) (fun i _ => n - (intOf i).toNat)
      case atStart => exact ⟨0, Nat.zero_le _, rfl, WS⟩
      case round =>
        rename_i _ wr
        obtain ⟨k, hk, rfl, HD⟩ := hrel
        clear WS
        by_cases hlt : k < n
        · obtain ⟨ad, p, rfl, q1, hbk, x0, x1, x2, x3, x4⟩ := (H.out.keep HD.out.below).at_ hlt
          have HX := Lib.hid (HD.out.keep (below_new wr (.cells #[.string (str p.name), .int .i64 p.supply, .int .i64 p.reserve, .int .i64 p.points, .int .i64 p.group] 60)))
          have HQ := Lib.hid q1
          have CW := Lib.hid (WT.out p (wr.alloc (.cells #[.string (str p.name), .int .i64 p.supply, .int .i64 p.reserve, .int .i64 p.points, .int .i64 p.group] 60)))
          obtain ⟨v, hv⟩ : ∃ v, v = (fU g) p := ⟨_, rfl⟩
          rw [← hv] at CW
          have HV := Lib.hid hv
          clear q1 hbk HD hv
          obtain ⟨pn, ps, pr, pp, pg⟩ := p
          unfold aggP at CW
          simp only at *
          generalize str pn = s at *
          go_wp2_with fail
          refine CW.out.mono ?_
          rintro e3 w4 ⟨rfl, hb⟩
          have HY := Lib.hid (HX.out.keep hb)
          clear hb CW x0 x1 x2 x3 x4 HX
          have c9 := HY.out.here.cell (k := k) (by omega)
          have g9 := HY.out.here.free k
          have hsz := HY.out.here.lt
          have G1 := Lib.hid (HY.out.step (by omega) HQ.out)
          rw [← HV.out] at G1
          clear HY
          go_wp2
          go_roundw
          case rel => exact ⟨k + 1, by omega, by go_num, G1⟩
          case measure => simp [intOf]; omega
        · obtain rfl : k = n := by omega
          have hp := HD.out.here
          have G2 := G.out
          obtain ⟨z0, z1, z2, z3, z4, z5, hz⟩ := six hp.2
          rw [hz] at hp G2
          have G3 := Lib.hid G2
          have CC := Lib.hid (fun w' => cost_any z0 z1 z2 z3 z4 z5 a b c d e f w')
          obtain ⟨c0, c1, c2, c3, c4, c5⟩ := cells6 hp
          obtain ⟨d0, d1, d2, d3, d4, d5⟩ := cells6 HD.out.bun
          have B4 := Lib.hid HD.out.below
          clear hz hp G2 HD G
          go_wp2_with fail
          refine (CC.out _).mono ?_
          rintro e3 w4 ⟨rfl, hb⟩
          have B5 := Lib.hid (B4.out.trans (hb.mono B4.out.size))
          clear hb
          go_wp2
          go_ret
          exact ⟨G3.out, B5.out⟩
  · have hb0 : (MC.chkL L != 0) = true := bne_iff_ne.2 hg
    have G := Lib.hid (ret_int (k := .i64) (MC.sumG_no (f := (fU g)) (l := L) (b := [a, b, c, d, e, f]) (fun h => hg h.1)).symm)
    clear hg
    generalize MC.chkL L = er at *
    go_enter Tryz.func110, Tryz.ntmps110
    go_wp2_with fail
    refine (CK.out _ HB.out).mono ?_
    rintro e1 w1 ⟨rfl, hb⟩
    have B1 := Lib.hid (HB.out.trans (hb.mono HB.out.size))
    clear hb
    go_wp2
    go_ret
    exact ⟨G.out, B1.out⟩
set_option maxRecDepth 100000 in
set_option maxHeartbeats 1000000 in
theorem units_any (g : Int) (A : Option Addr) (n cp : Nat) (L : List Pr) (a b c d e f : Int) (w : World) (h : Prs w A n cp L) :
    Calls Tryz.prog 86 #[.slice A n cp, .int .i64 g, .agg #[.int .i64 a, .int .i64 b, .int .i64 c, .int .i64 d, .int .i64 e, .int .i64 f]] w (Gives (.int .i64 (MC.sumG (fU g) L [a, b, c, d, e, f])) w) := by
  have HB := Lib.hid (below_new w (.cells #[.int .i64 a, .int .i64 b, .int .i64 c, .int .i64 d, .int .i64 e, .int .i64 f] 40))
  have CS := Lib.hid (sumU_any g A n cp L a b c d e f _ (h.keep HB.out))
  clear h
  go_enter Tryz.func86, Tryz.ntmps86
  go_wp2_with fail
  refine CS.out.mono ?_
  rintro e1 w1 ⟨rfl, hb⟩
  have B1 := Lib.hid (HB.out.trans (hb.mono HB.out.size))
  clear hb CS
  go_wp2
  go_ret
  exact ⟨rfl, B1.out⟩
end Go.Proofs.YtigfgeanofccgaaGreatDoor
