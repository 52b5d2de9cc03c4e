/- The walk of LexerScans: no claim of its own. -/
import Derived.Test.YtdgflkkdcejadaaLPlay
import Derived.Test.YtdgflkkdcejadaaLAwake
import Derived.Deep.RegionLaw
import Derived.Deep.RegionHeld3
import Derived.Deep.DeepCutAuto
import Derived.Deep.CutBlock
namespace Go.Proofs.Ytdgflkkdcejadaa
open Go.RowKit
/-- The reference's scanner while its tokens are laid. -/
structure XS (w : World) (g : Nat) (v : Value) (us : List Tk) : Prop where
  blk : w.heap[g]? = some (.cells #[v, .int .i64 0] 41 (0, 0))
  own : OwnT 34 w (g + 1) v us
theorem XS.lt {w : World} {g : Nat} {v : Value} {us : List Tk} (h : XS w g v us) : g < w.heap.size := (Array.getElem?_eq_some_iff.1 h.blk).1
theorem XS.keep {w w' : World} {g : Nat} {v : Value} {us : List Tk} (h : XS w g v us) (hb : Below w.heap.size w w') : XS w' g v us := ⟨(hb.block g h.lt).trans h.blk, h.own.keep hb⟩
theorem XS.c0 {w : World} {g : Nat} {v : Value} {us : List Tk} (h : XS w g v us) : w.cell? ⟨g, 0, none⟩ = some v := by rw [cell_of_row w g 0 _ _ _ h.blk]; rfl
theorem XS.f0 {w : World} {g : Nat} {v : Value} {us : List Tk} (h : XS w g v us) : w.frozen? ⟨g, 0, none⟩ = false := by
  have h' := h.blk
  simp [World.frozen?, h']
theorem XS.next {wa w2 : World} {g : Nat} {v v' : Value} {us : List Tk} {t : Tk} (hx : XS wa g v us) (hown : w2.ownsRow (g + 1) 34 4 v' (us.length + 1) (cellsTs us ++ cellsT t)) (hg : wa.grownBy w2 v.ownBlock) : XS (w2.setCell ⟨g, 0, none⟩ v') g v' (us ++ [t]) := by
  have hne : some g ≠ v.ownBlock := fun e => absurd (World.ownsRow.lt hx.own g e.symm).1 (by omega)
  have hb : w2.heap[g]? = some (.cells #[v, .int .i64 0] 41 (0, 0)) := (hg.block g hx.lt hne).trans hx.blk
  refine ⟨by rw [heap_setCell_same w2 g 0 _ _ _ hb]; rfl, ?_⟩
  unfold OwnT
  rw [cellsTs_append, cellsTs_one, List.length_append]
  refine World.ownsRow.kept (row := some g) hown (grown_set w2 g 0 v') ?_
  cases h : v'.ownBlock with
  | none => exact .inl rfl
  | some k =>
    right
    intro e
    injection e with e
    have := (World.ownsRow.lt hown k h).1
    omega
theorem XS.below {wa w2 : World} {g : Nat} {v v' : Value} {us : List Tk} (hx : XS wa g v us) (hg : wa.grownBy w2 v.ownBlock) : Below g wa (w2.setCell ⟨g, 0, none⟩ v') :=
  ((Below.refl g wa).grown hg (Nat.le_of_lt hx.lt) (fun k hk => Nat.le_of_lt (World.ownsRow.lt hx.own k hk).1)).setCell (p := ⟨g, 0, none⟩) (Nat.le_refl _) _
/-- One round of the law. -/
def Loop (w : World) (gp : Nat) (W8 : Option Addr) (len c8 : Nat) (ts : List Tk) (sl : Nat) (i : Value) (wr : World) : Prop :=
  ∃ (k : Nat) (us : List Tk) (er : Int), k ≤ sl ∧ i = .int .i64 k ∧ Hid (Play w.heap.size gp w.heap.size W8 len c8 ts w us er wr)
set_option maxRecDepth 100000 in
set_option maxHeartbeats 16000000 in
theorem scans_main (A : Option Addr) (len cap : Nat) (ts : List Tk) (sA : Option Addr) (sl sc : Nat) (w : World) (h : ToksIn w A len cap ts) (h2 : ¬ 200 < len) (hst : StepsIn w sA sl sc) (hs : ¬ 200 < sl) :
    Calls Try.prog 7 #[.slice A len cap, .slice sA sl sc] w (Gives (.bool true) w) := by
  have AW := Lib.hid (fun w' => awake6 w')
  have HS := Lib.hid hst
  have hsc := hst.cap_.1
  have hN := Lib.hid h.nil_
  have hfn := Lib.hid h.fine
  clear hst
  have hc := h.cap_
  unfold maxLen at hc
  obtain ⟨i0, hi, hz0, hz1, hz2⟩ := info_parts infoRTok
  have U0 := Lib.hid (h.tks (by omega))
  have HL := Lib.hid h.len_
  have X0 : Hid (XS (w.alloc (.cells #[.slice none 0 0, .int .i64 0] 41)) w.heap.size (.slice none 0 0) (ts.take 0)) := Lib.hid ⟨heap_new _ _, OwnT.nil _ _ _⟩
  have B0 := Lib.hid (below_new w (.cells #[.slice none 0 0, .int .i64 0] 41))
  clear h
  go_enter Try.func7, Try.ntmps7
  go_wp2
  go_loopw [26] (fun i wr => ∃ (j : Nat) (A' : Option Addr) (n' c' : Nat), j ≤ len ∧ i = .int .i64 j ∧ Hid (XS wr w.heap.size (.slice A' n' c') (ts.take j)) ∧ Hid (Below w.heap.size w wr)) (fun i _ => len - (intOf i).toNat)
  case atStart => exact ⟨0, none, 0, 0, by omega, rfl, X0, B0⟩
  case round =>
    rename_i _ wr
    obtain ⟨j, A', n', c', hj, rfl, HX, HB⟩ := hrel
    clear X0 B0
    by_cases hlt : j < len
    · obtain ⟨ad, t, rfl, e1, hbk, x0, x1, x2, x3⟩ := (U0.out.keep HB.out).at_ hlt
      have TK : Hid (ts.take (j + 1) = ts.take j ++ [t] ∧ (ts.take j).length = j) := Lib.hid (by
        obtain ⟨h1, h2⟩ := List.getElem?_eq_some_iff.1 e1
        exact ⟨by rw [List.take_succ_eq_append_getElem h1, h2], by rw [List.length_take]; omega⟩)
      obtain ⟨us, hus⟩ : ∃ us, ts.take j = us := ⟨_, rfl⟩
      rw [hus] at HX TK
      clear hus
      obtain ⟨kd, tx, vv, a⟩ := t
      simp only at x0 x1 x2 x3
      have b1 := below_new wr (.cells #[.int .i64 kd, .string (str tx), .int .i64 vv, .int .i64 a] 33)
      have X1 := HX.out.keep b1
      have T1 := TB.new wr 33 (.int .i64 kd) (.string (str tx)) (.int .i64 vv) (.int .i64 a)
      obtain ⟨y0, y1, y2, y3⟩ := T1.cells
      have c0 := X1.c0
      have f0 := X1.f0
      have O2 : Hid (((wr.alloc (.cells #[.int .i64 kd, .string (str tx), .int .i64 vv, .int .i64 a] 33)).alloc (.cells #[.int .i64 kd, .string (str tx), .int .i64 vv, .int .i64 a] 34)).ownsRow (w.heap.size + 1) 34 4 (.slice A' n' c') us.length (cellsTs us)) := Lib.hid (X1.own.keep (below_new _ (.cells #[.int .i64 kd, .string (str tx), .int .i64 vv, .int .i64 a] 34)))
      have NB : Hid (((wr.alloc (.cells #[.int .i64 kd, .string (str tx), .int .i64 vv, .int .i64 a] 33)).alloc (.cells #[.int .i64 kd, .string (str tx), .int .i64 vv, .int .i64 a] 34)).heap[wr.heap.size + 1]? = some (.cells #[.int .i64 kd, .string (str tx), .int .i64 vv, .int .i64 a] 34 (0, 0))) := Lib.hid (by
        have := heap_new (wr.alloc (.cells #[.int .i64 kd, .string (str tx), .int .i64 vv, .int .i64 a] 33)) (.cells #[.int .i64 kd, .string (str tx), .int .i64 vv, .int .i64 a] 34)
        rwa [show (wr.alloc (.cells #[.int .i64 kd, .string (str tx), .int .i64 vv, .int .i64 a] 33)).heap.size = wr.heap.size + 1 by simp] at this)
      have X2 := Lib.hid (X1.keep (below_new _ (.cells #[.int .i64 kd, .string (str tx), .int .i64 vv, .int .i64 a] 34)))
      have hg := HX.out.lt
      have hl1 : us.length ≤ 200 := by have := TK.out.2; omega
      have LT := Lib.hid (fun g hg => (World.ownsRow.lt O2.out g hg).1)
      go_wp2_with fail
      go_region_law (refine step_append_lies _ (by rfl) _ _ _ (by rfl) (w.heap.size + 1) 34 i0 _ 4 40 Try.underlying27 hi hz0 hz1 hz2 rfl (by omega) (.slice A' n' c') us.length (cellsTs us) (by rfl) (World.ownsRow.drew O2.out) ⟨wr.heap.size + 1, 0, none⟩ 1 1 (cellsT ⟨kd, tx, vv, a⟩) (by rfl) (by rfl) (World.news_of_block (cs := #[.int .i64 kd, .string (str tx), .int .i64 vv, .int .i64 a]) (t := 34) (fr := (0, 0)) NB.out) (cellsT_one _) (by omega) (by unfold maxLen; omega) (by omega) (by simp; omega) (wr.heap.size + 2) (by simp) ?_; intro gg cp w2 hown' hgrow hat hlt'; have hg2 : some w.heap.size ≠ Value.ownBlock (.slice A' n' c') := (fun e => absurd (LT.out _ e.symm) (by omega)); have q0 : w2.cell? ⟨w.heap.size, 0, none⟩ = some (.slice A' n' c') := (hgrow.cell (a := ⟨w.heap.size, 0, none⟩) X2.out.c0 hg2); have q1 : w2.frozen? ⟨w.heap.size, 0, none⟩ = false := (World.frozen?_of_block (hgrow.block w.heap.size (Nat.lt_of_lt_of_le X2.out.lt (by simp)) hg2)).trans X2.out.f0)
      all_goals
        have G1 := Lib.hid (XS.next (v' := .slice (some ⟨gg, 0, none⟩) (us.length + 1) cp) (t := ⟨kd, tx, vv, a⟩) (show XS (((wr.alloc (.cells #[.int .i64 kd, .string (str tx), .int .i64 vv, .int .i64 a] 33)).alloc (.cells #[.int .i64 kd, .string (str tx), .int .i64 vv, .int .i64 a] 34)).drew) w.heap.size (.slice A' n' c') us from ⟨X2.out.blk, X2.out.own.drew⟩) hown' hgrow)
        have G2 := Lib.hid (HB.out.trans (((below_new wr (.cells #[.int .i64 kd, .string (str tx), .int .i64 vv, .int .i64 a] 33)).trans ((below_new _ (.cells #[.int .i64 kd, .string (str tx), .int .i64 vv, .int .i64 a] 34)).mono (below_new wr (.cells #[.int .i64 kd, .string (str tx), .int .i64 vv, .int .i64 a] 33)).size)).mono HB.out.size |>.drew.trans (XS.below (v' := .slice (some ⟨gg, 0, none⟩) (us.length + 1) cp) (show XS (((wr.alloc (.cells #[.int .i64 kd, .string (str tx), .int .i64 vv, .int .i64 a] 33)).alloc (.cells #[.int .i64 kd, .string (str tx), .int .i64 vv, .int .i64 a] 34)).drew) w.heap.size (.slice A' n' c') us from ⟨X2.out.blk, X2.out.own.drew⟩) hgrow)))
        clear hown' hgrow hat hlt' q0 q1 hg2
        go_wp2_with fail
        go_roundw
        case rel => exact ⟨j + 1, _, _, _, by omega, by go_num, by rw [TK.out.1]; exact G1, G2⟩
        case measure => simp [intOf]; omega
    · have e0 : ts.take j = ts := List.take_of_length_le (by rw [HL.out]; omega)
      have HX1 := HX.out
      rw [e0] at HX1
      obtain ⟨A1, c1, hv, htk, hfar⟩ := HX1.own.form2 (by rw [HL.out]; omega)
      injection hv with v1 v2 v3
      subst v1; subst v2; subst v3
      have RB := Lib.hid HX1.blk
      have RT := Lib.hid htk
      have RF := Lib.hid hfar
      have hgr := HX1.lt
      have i1 := Lib.hid (info_parts infoTok)
      obtain ⟨j0, hj1, hz3, hz4, hz5⟩ := i1.out
      have O9 : Hid ((wr.alloc (.cells #[] 33)).ownsRow wr.heap.size 33 4 (.slice (some ⟨wr.heap.size, 0, none⟩) 0 0) 0 []) := Lib.hid (World.ownsRow_made wr #[] 0 (Nat.le_refl _) (Nat.zero_le _) rfl)
      have U1 := Lib.hid (U0.out.keep HB.out)
      have U2 := Lib.hid (U1.out.keep (below_new wr (.cells #[] 33)))
      clear HX HX1 e0 htk hfar i1
      go_wp2_with (at_builtin; refine wpList_append_opt _ rfl _ _ 23 rfl wr.heap.size 33 j0 (.agg #[.int .i64 0, .string ⟨#[]⟩, .int .i64 0, .int .i64 0]) 4 40 Try.underlying23 hj1 hz3 hz4 hz5 rfl (by decide) _ _ _ rfl O9.out A len cap (cellsTs ts) rfl hN.out ?c0 ?c1 ?c2 ?c3 ?c4 ?c5 ?_)
      case c0 => rw [cellsTs_length, HL.out]
      case c1 =>
        intro ad hA j u hu
        have hp : 0 < len := by
          rcases Nat.eq_zero_or_pos len with h0 | h0
          · have : ts = [] := List.eq_nil_of_length_eq_zero (by rw [HL.out]; exact h0)
            subst this; simp [cellsTs] at hu
          · exact h0
        obtain ⟨ad', ea, _, hc'⟩ := U2.out.reads.2 hp
        rw [hA] at ea; injection ea with ea
        subst ea
        exact hc' j u hu
      case c2 =>
        intro u hu
        simp only [cellsTs, List.mem_flatMap] at hu
        obtain ⟨t, _, ht⟩ := hu
        exact cellsT_one t u ht
      case c3 => unfold maxLen; omega
      case c4 => omega
      case c5 => simp
      intro v' w2 hown' hgrow
      have O2 : OwnT 33 w2 wr.heap.size v' ts := by
        unfold OwnT
        rw [HL.out, ← Nat.zero_add len]
        simpa using hown'
      obtain ⟨W8, c8, hv, ht8, hf8⟩ := O2.form2 (by rw [HL.out]; omega)
      rw [HL.out] at hv ht8
      have B2 := (below_new wr (.cells #[] 33)).grown hgrow (by simp) (fun k hk => (World.ownsRow.lt O9.out k hk).1)
      have T8 := Lib.hid ht8
      have F8 := Lib.hid hf8
      have U3 := Lib.hid (U1.out.keep B2)
      have HB2 := Lib.hid (HB.out.trans (B2.mono HB.out.size))
      have BB2 := Lib.hid B2
      subst hv
      clear ht8 hf8 hown' hgrow O2 O9 U1 U2 HB B2
      go_wp2_with fail
      refine (new_any _ _ _ _ _ U3.out).mono ?_
      rintro e w3 ⟨gp, A4, n4, c4, rfl, hblk, ht4, hf4, hg4, hb4⟩
      have hs2 := BB2.out.size
      have hs3 := hb4.size
      have P0 : Hid (Loop w gp W8 len c8 ts sl (.int .i64 (0 : Nat)) w3) := Lib.hid ⟨0, ts, 0, Nat.zero_le _, rfl, Lib.hid
        { sp := ⟨A4, n4, c4, ⟨hblk, ht4, (fun ad ha => by have := hf4 ad ha; omega), .inr rfl⟩, fun k => absurd rfl k⟩
          sr := ⟨A', _, c', ts, ⟨(hb4.block w.heap.size (by omega)).trans ((BB2.out.block w.heap.size hgr).trans RB.out), (RT.out.keep BB2.out).keep hb4, (fun ad ha => by have := RF.out ad ha; omega), .inl rfl⟩, fun _ => rfl, fun k => absurd rfl k⟩
          was := T8.out.keep hb4
          wfar := fun ad ha => by have := F8.out ad ha; omega
          below := HB2.out.trans (hb4.mono HB2.out.size)
          fine := hfn.out
          inv := fun k => absurd rfl k
          ne_ := by omega
          lo := ⟨Nat.le_refl _, by omega⟩ }⟩
      clear hblk ht4 hf4 hg4 hb4 RB RT RF T8 F8 U3 HB2 BB2 hs2 hs3 hgr
      go_wp2_with fail
      go_loopw [48] (fun i wr => Loop w gp W8 len c8 ts sl i wr) (fun i _ => sl - (intOf i).toNat)
      case atStart => exact P0.out
      case round =>
        rename_i wr
        clear P0
        obtain ⟨k, us, er, hk, rfl, PL⟩ := hrel
        by_cases hlt : k < sl
        · obtain ⟨ad, kd, m, nn, rfl, m0, m1, m2, hn0, hn1⟩ := HS.out.el k hlt
          have E0 := (PL.out.below.cell (World.block_lt_of_cell? w _ m0)).trans m0
          have E1 := (PL.out.below.cell (World.block_lt_of_cell? w _ m1)).trans m1
          have E2 := (PL.out.below.cell (World.block_lt_of_cell? w _ m2)).trans m2
          clear m0 m1 m2
          have PV0 := PL.out.keep (below_new wr (.cells #[.int .i64 kd, .string m, .int .i64 nn] 45))
          have bx0 := CB.new wr 45 (.int .i64 kd) (.string m) (.int .i64 nn)
          have sz0 : gp ≠ wr.heap.size ∧ w.heap.size ≠ wr.heap.size := by
            have h1 := PL.out.sp.lt
            have h2 : w.heap.size < wr.heap.size := Nat.lt_of_le_of_lt PL.out.lo.2 h1
            omega
          clear PL
          go_upto_block 4 with (fail)
          have PV := Lib.hid PV0
          have BXH := Lib.hid bx0
          have szr := Lib.hid sz0
          clear PV0 bx0 sz0 E0 E1 E2
          generalize wr.alloc (.cells #[.int .i64 kd, .string m, .int .i64 nn] 45) = wv at *
          generalize wr.heap.size = q at *
          obtain ⟨k0, k1, k2⟩ := BXH.out.cells
          go_cut [12] (fun s wx => s = .bool true ∧ ∃ us er, Hid (Play w.heap.size gp w.heap.size W8 len c8 ts w us er wx))
          case first =>
            by_cases hk0 : kd = 0
            · subst hk0
              have PLF := PV.out.fine
              have PLI := PV.out.inv
              obtain ⟨t, hft, hB⟩ := peek_both us er PLI PLF
              have C1 := Lib.hid (hB.1 _ _ gp PV.out.sp)
              have C2 := Lib.hid (fun w1 h => hB.2 (fun k => k = w.heap.size ∨ k = gp) w1 w.heap.size h)
              have FF := Lib.hid PLF
              have FI := Lib.hid PLI
              clear hB PLF PLI
              have EQ := tok_eql_same t hft
              clear hft
              obtain ⟨kd2, tx2, vv2, a2⟩ := t
              unfold aggT at EQ
              go_wp2_with fail
              refine C1.out.mono ?_
              rintro e w1 ⟨rfl, s1, g1⟩
              have S1 := Lib.hid s1
              have G1 := Lib.hid g1
              have M1 := Lib.hid (PV.out.mid g1)
              have BX1 := Lib.hid (BXH.out.other g1 (Ne.symm szr.out.1))
              obtain ⟨y0, y1, y2⟩ := BX1.out.cells
              clear s1 g1 C1 k0 k1 k2
              unfold aggT
              go_wp2_with fail
              refine (C2.out _ M1.out).mono ?_
              rintro e w2 ⟨rfl, s2, g2⟩
              have P2 := Lib.hid (PV.out.both G1.out S1.out g2 s2 FF.out FI.out)
              clear s2 g2 S1 G1 M1 BX1 BXH C2 FF FI PV szr y0 y1 y2
              unfold aggT
              go_wp2_with fail
              go_meet
              case rel => exact ⟨rfl, _, _, P2⟩
            · have nk0 : ((kd : Int) == 0) = false := beq_eq_false_iff_ne.2 hk0
              by_cases hk1 : kd = 1
              · subst hk1
                have PLF := PV.out.fine
                have PLI := PV.out.inv
                obtain ⟨t, us2, hft, hf2, hi2, hB⟩ := next_both us er PLI PLF
                have C1 := Lib.hid (hB.1 _ _ gp PV.out.sp)
                have C2 := Lib.hid (fun w1 h => hB.2 (fun k => k = w.heap.size ∨ k = gp) w1 w.heap.size h)
                have FF := Lib.hid hf2
                have FI := Lib.hid hi2
                clear hB PLF PLI hf2 hi2
                have EQ := tok_eql_same t hft
                clear hft
                obtain ⟨kd2, tx2, vv2, a2⟩ := t
                unfold aggT at EQ
                go_wp2_with fail
                refine C1.out.mono ?_
                rintro e w1 ⟨rfl, s1, g1⟩
                have S1 := Lib.hid s1
                have G1 := Lib.hid g1
                have M1 := Lib.hid (PV.out.mid g1)
                have BX1 := Lib.hid (BXH.out.other g1 (Ne.symm szr.out.1))
                obtain ⟨y0, y1, y2⟩ := BX1.out.cells
                clear s1 g1 C1 k0 k1 k2
                unfold aggT
                go_wp2_with fail
                refine (C2.out _ M1.out).mono ?_
                rintro e w2 ⟨rfl, s2, g2⟩
                have P2 := Lib.hid (PV.out.both G1.out S1.out g2 s2 FF.out FI.out)
                clear s2 g2 S1 G1 M1 BX1 BXH C2 FF FI PV szr y0 y1 y2
                unfold aggT
                go_wp2_with fail
                go_meet
                case rel => exact ⟨rfl, _, _, P2⟩
              · have nk1 : ((kd : Int) == 1) = false := beq_eq_false_iff_ne.2 hk1
                by_cases hk2 : kd = 2
                · subst hk2
                  have PLF := PV.out.fine
                  have PLI := PV.out.inv
                  obtain ⟨b, us2, hf2, hi2, hB⟩ := accept_both m us er PLI PLF
                  have PVd := Lib.hid (PV.out.keep (below_drawn wv))
                  have BXd : Hid (CB wv.drew q 45 _ _ _) := Lib.hid BXH.out
                  have C1d := Lib.hid (hB.1 _ _ gp PVd.out.sp)
                  have C2 := Lib.hid (fun w1 h => hB.2 (fun k => k = w.heap.size ∨ k = gp) w1 w.heap.size h)
                  have FF := Lib.hid hf2
                  have FI := Lib.hid hi2
                  clear hB PLF PLI hf2 hi2
                  go_wp2_with fail
                  have C1' : Hid (Calls Try.prog 21 #[.pointer (some ⟨gp, 0, none⟩), .string m] wv.drew (Did (fun w' => SP (fun k => k = w.heap.size ∨ k = gp) w' gp us2 er) gp (.bool b) wv.drew)) := C1d
                  go_region_held3 (fun w' => w'.cell? ⟨q, 1, none⟩ = some (.string m)) (go_keep) (first | (go_at_call 21; (with_reducible refine (C1'.out).mono ?_); rintro e w1 ⟨rfl, s1, g1⟩; have S1 := Lib.hid s1; have G1 := Lib.hid g1; have M1 := Lib.hid (PVd.out.mid g1); have BX1 := Lib.hid (BXd.out.other g1 (Ne.symm szr.out.1)); obtain ⟨y0, y1, y2⟩ := BX1.out.cells; clear s1 g1) | (go_at_call 22; (with_reducible refine (C2.out _ M1.out).mono ?_); rintro e w2 ⟨rfl, s2, g2⟩; have S2 := Lib.hid s2; have G2 := Lib.hid g2; have BX2 := Lib.hid (BX1.out.other g2 (Ne.symm szr.out.2)); obtain ⟨z0, z1, z2⟩ := BX2.out.cells; clear s2 g2))
                  have P2 := Lib.hid (PVd.out.both G1.out S1.out G2.out S2.out FF.out FI.out)
                  go_wp2_with fail
                  go_meet
                  case rel => exact ⟨rfl, _, _, P2⟩
                · have nk2 : ((kd : Int) == 2) = false := beq_eq_false_iff_ne.2 hk2
                  by_cases hk3 : kd = 3
                  · subst hk3
                    have PLF := PV.out.fine
                    have PLI := PV.out.inv
                    obtain ⟨us2, er2, hf2, hi2, hB⟩ := expect_both m us er PLI PLF
                    have C1 := Lib.hid (hB.1 _ _ gp PV.out.sp)
                    have C2 := Lib.hid (fun w1 h => hB.2 (fun k => k = w.heap.size ∨ k = gp) w1 w.heap.size h)
                    have FF := Lib.hid hf2
                    have FI := Lib.hid hi2
                    clear hB PLF PLI hf2 hi2
                    go_wp2_with fail
                    refine C1.out.mono ?_
                    rintro e w1 ⟨rfl, s1, g1⟩
                    have S1 := Lib.hid s1
                    have G1 := Lib.hid g1
                    have M1 := Lib.hid (PV.out.mid g1)
                    have BX1 := Lib.hid (BXH.out.other g1 (Ne.symm szr.out.1))
                    obtain ⟨y0, y1, y2⟩ := BX1.out.cells
                    clear s1 g1 C1 k0 k1 k2
                    go_wp2_with fail
                    refine (C2.out _ M1.out).mono ?_
                    rintro e w2 ⟨rfl, s2, g2⟩
                    have P2 := Lib.hid (PV.out.both G1.out S1.out g2 s2 FF.out FI.out)
                    clear s2 g2 S1 G1 M1 BX1 BXH C2 FF FI PV szr y0 y1 y2
                    go_wp2_with fail
                    go_meet
                    case rel => exact ⟨rfl, _, _, P2⟩
                  · have nk3 : ((kd : Int) == 3) = false := beq_eq_false_iff_ne.2 hk3
                    by_cases hk4 : kd = 4
                    · subst hk4
                      have PLF := PV.out.fine
                      have PLI := PV.out.inv
                      obtain ⟨x, us2, er2, hf2, hi2, hB⟩ := name_both us er PLI PLF
                      have C1 := Lib.hid (hB.1 _ _ gp PV.out.sp)
                      have C2 := Lib.hid (fun w1 h => hB.2 (fun k => k = w.heap.size ∨ k = gp) w1 w.heap.size h)
                      have FF := Lib.hid hf2
                      have FI := Lib.hid hi2
                      clear hB PLF PLI hf2 hi2
                      have hq : (x.toList == x.toList) = true := beq_self_eq_true _
                      go_wp2_with fail
                      refine C1.out.mono ?_
                      rintro e w1 ⟨rfl, s1, g1⟩
                      have S1 := Lib.hid s1
                      have G1 := Lib.hid g1
                      have M1 := Lib.hid (PV.out.mid g1)
                      have BX1 := Lib.hid (BXH.out.other g1 (Ne.symm szr.out.1))
                      obtain ⟨y0, y1, y2⟩ := BX1.out.cells
                      clear s1 g1 C1 k0 k1 k2
                      go_wp2_with fail
                      refine (C2.out _ M1.out).mono ?_
                      rintro e w2 ⟨rfl, s2, g2⟩
                      have P2 := Lib.hid (PV.out.both G1.out S1.out g2 s2 FF.out FI.out)
                      clear s2 g2 S1 G1 M1 BX1 BXH C2 FF FI PV szr y0 y1 y2
                      go_wp2_with fail
                      go_meet
                      case rel => exact ⟨rfl, _, _, P2⟩
                    · have nk4 : ((kd : Int) == 4) = false := beq_eq_false_iff_ne.2 hk4
                      by_cases hk5 : kd = 5
                      · subst hk5
                        have PLF := PV.out.fine
                        have PLI := PV.out.inv
                        obtain ⟨z5, us2, er2, hf2, hi2, hB⟩ := amount_both nn us er PLI PLF
                        have PVd := Lib.hid (PV.out.keep (below_drawn wv))
                        have BXd : Hid (CB wv.drew q 45 _ _ _) := Lib.hid BXH.out
                        have C1d := Lib.hid (hB.1 _ _ gp PVd.out.sp)
                        have C2 := Lib.hid (fun w1 h => hB.2 (fun k => k = w.heap.size ∨ k = gp) w1 w.heap.size h)
                        have FF := Lib.hid hf2
                        have FI := Lib.hid hi2
                        clear hB PLF PLI hf2 hi2
                        have hq : ((z5 : Int) == z5) = true := beq_self_eq_true _
                        go_wp2_with fail
                        have C1' : Hid (Calls Try.prog 27 #[.pointer (some ⟨gp, 0, none⟩), .int .i64 nn] wv.drew (Did (fun w' => SP (fun k => k = w.heap.size ∨ k = gp) w' gp us2 er2) gp (.int .i64 z5) wv.drew)) := C1d
                        go_region_held3 (fun w' => w'.cell? ⟨q, 2, none⟩ = some (.int .i64 nn)) (go_keep) (first | (go_at_call 27; (with_reducible refine (C1'.out).mono ?_); rintro e w1 ⟨rfl, s1, g1⟩; have S1 := Lib.hid s1; have G1 := Lib.hid g1; have M1 := Lib.hid (PVd.out.mid g1); have BX1 := Lib.hid (BXd.out.other g1 (Ne.symm szr.out.1)); obtain ⟨y0, y1, y2⟩ := BX1.out.cells; clear s1 g1) | (go_at_call 28; (with_reducible refine (C2.out _ M1.out).mono ?_); rintro e w2 ⟨rfl, s2, g2⟩; have S2 := Lib.hid s2; have G2 := Lib.hid g2; have BX2 := Lib.hid (BX1.out.other g2 (Ne.symm szr.out.2)); obtain ⟨z0, z1, z2⟩ := BX2.out.cells; clear s2 g2))
                        have P2 := Lib.hid (PVd.out.both G1.out S1.out G2.out S2.out FF.out FI.out)
                        go_wp2_with fail
                        go_meet
                        case rel => exact ⟨rfl, _, _, P2⟩
                      · have nk5 : ((kd : Int) == 5) = false := beq_eq_false_iff_ne.2 hk5
                        by_cases hk6 : kd = 6
                        · subst hk6
                          have PLF := PV.out.fine
                          have PLI := PV.out.inv
                          obtain ⟨us2, er2, hf2, hi2, hB⟩ := fail_both nn us er PLI PLF
                          have C1 := Lib.hid (hB.1 _ _ gp PV.out.sp)
                          have C2 := Lib.hid (fun w1 h => hB.2 (fun k => k = w.heap.size ∨ k = gp) w1 w.heap.size h)
                          have FF := Lib.hid hf2
                          have FI := Lib.hid hi2
                          clear hB PLF PLI hf2 hi2
                          go_wp2_with fail
                          refine C1.out.mono ?_
                          rintro e w1 ⟨rfl, s1, g1⟩
                          have S1 := Lib.hid s1
                          have G1 := Lib.hid g1
                          have M1 := Lib.hid (PV.out.mid g1)
                          have BX1 := Lib.hid (BXH.out.other g1 (Ne.symm szr.out.1))
                          obtain ⟨y0, y1, y2⟩ := BX1.out.cells
                          clear s1 g1 C1 k0 k1 k2
                          go_wp2_with fail
                          refine (C2.out _ M1.out).mono ?_
                          rintro e w2 ⟨rfl, s2, g2⟩
                          have P2 := Lib.hid (PV.out.both G1.out S1.out g2 s2 FF.out FI.out)
                          clear s2 g2 S1 G1 M1 BX1 BXH C2 FF FI PV szr y0 y1 y2
                          go_wp2_with fail
                          go_meet
                          case rel => exact ⟨rfl, _, _, P2⟩
                        · have nk6 : ((kd : Int) == 6) = false := beq_eq_false_iff_ne.2 hk6
                          clear hk0 hk1 hk2 hk3 hk4 hk5 hk6 k1 k2
                          go_wp2_with fail
                          go_meet
                          case rel => exact ⟨rfl, _, _, PV⟩
          case rest =>
            obtain ⟨rfl, us2, er2, P2⟩ := hcut
            clear PV BXH szr k0 k1 k2
            generalize wc = w2 at *
            obtain ⟨Ap, np, cp, sp, _⟩ := P2.out.sp
            obtain ⟨Ar, nr, cr, Lr, sr, _⟩ := P2.out.sr
            have EP : Hid (∀ q, Calls Try.prog 31 #[.pointer (some ⟨gp, 0, none⟩)] (w2.drewN q) fun e w' => e = .returned (.int .i64 er2) ∧ w2.drewN q = w') := Lib.hid fun q => err_any (sp.keep (below_drewN (Below.refl _ _) q))
            have xe := sr.c1
            obtain ⟨z, z1, z2⟩ := end_both us2 er2 P2.out.inv
            have NP : Hid (∀ q, Calls Try.prog 32 #[.pointer (some ⟨gp, 0, none⟩)] (w2.drewN q) fun e w' => e = .returned (.int .i64 z) ∧ w2.drewN q = w') := Lib.hid fun q => z1 _ _ gp (P2.out.sp.keep (below_drewN (Below.refl _ _) q))
            have NR : Hid (∀ q, Calls Try.prog 33 #[.pointer (some ⟨w.heap.size, 0, none⟩)] (w2.drewN q) fun e w' => e = .returned (.int .i64 z) ∧ w2.drewN q = w') := Lib.hid fun q => z2 _ _ w.heap.size (P2.out.sr.keep (below_drewN (Below.refl _ _) q))
            have hq1 : ((er2 : Int) != er2) = false := bne_eq_false_iff_eq.2 rfl
            have hq2 : ((z : Int) != z) = false := bne_eq_false_iff_eq.2 rfl
            clear sp sr z1 z2
            go_wp2_with fail
            go_quiet ((first | (go_at_call 31; exact quiet_left (EP.out _)) | (go_at_call 32; exact quiet_left (NP.out _)) | (go_at_call 33; exact quiet_left (NR.out _))))
            go_wp2_with fail
            go_roundw
            case rel => exact ⟨k + 1, us2, er2, by omega, by go_num, Lib.hid (P2.out.keep (below_drewN (Below.refl _ _) _))⟩
            case measure => simp [intOf]; omega
        · have U9 := Lib.hid (U0.out.keep PL.out.below)
          have B9 := Lib.hid PL.out.below
          have W9 := Lib.hid PL.out.was
          clear PL
          go_wp2_with fail
          refine (equal_yes _ _ _ _ _ _ _ _ U9.out W9.out hfn.out).mono ?_
          rintro e w5 ⟨rfl, hb⟩
          have B10 := Lib.hid (B9.out.trans (hb.mono B9.out.size))
          clear hb U9 W9 B9
          go_wp2_with fail
          refine (AW.out _).mono ?_
          rintro e w6 ⟨rfl, hb⟩
          have B11 := Lib.hid (B10.out.trans (hb.mono B10.out.size))
          clear hb B10
          go_wp2
          go_ret
          exact ⟨rfl, B11.out⟩
set_option maxRecDepth 100000 in
set_option maxHeartbeats 2000000 in
theorem scans_walk (A : Option Addr) (len cap : Nat) (ts : List Tk) (sA : Option Addr) (sl sc : Nat) (w : World) (h : ToksIn w A len cap ts) (hs : StepsIn w sA sl sc) :
    Calls Try.prog 7 #[.slice A len cap, .slice sA sl sc] w (Gives (.bool true) w) := by
  by_cases h1 : 200 < len
  · have AW := Lib.hid (fun w' => awake6 w')
    have hd : decide ((200 : Int) < (len : Int)) = true := decide_eq_true (by omega)
    clear h hs
    go_enter Try.func7, Try.ntmps7
    go_wp2_with fail
    refine (AW.out _).mono ?_
    rintro e w1 ⟨rfl, hb⟩
    have B1 := Lib.hid hb
    clear hb
    go_wp2
    go_ret
    exact ⟨rfl, B1.out⟩
  · by_cases h2 : 200 < sl
    · have AW := Lib.hid (fun w' => awake6 w')
      have hd : decide ((200 : Int) < (len : Int)) = false := decide_eq_false (by omega)
      have hd2 : decide ((200 : Int) < (sl : Int)) = true := decide_eq_true (by omega)
      clear h hs
      go_enter Try.func7, Try.ntmps7
      go_wp2_with fail
      refine (AW.out _).mono ?_
      rintro e w1 ⟨rfl, hb⟩
      have B1 := Lib.hid hb
      clear hb
      go_wp2
      go_ret
      exact ⟨rfl, B1.out⟩
    · exact scans_main A len cap ts sA sl sc w h h1 hs h2
end Go.Proofs.Ytdgflkkdcejadaa
