/- The program's Format: no claim of its own. -/
import Derived.Test.YtigfgeanofccgaaGreatDoorJPf
import Derived.Deep.RegionHeld3
namespace Go.Proofs.YtigfgeanofccgaaGreatDoor
open Go.RowKit
open MU (Su Cp As)
def fmtV (s : Su) : Value := .tuple #[.string (str (MU.fmtS s).1), .int .i64 (MU.fmtS s).2]
theorem ret_fmt {s : Su} {t : List UInt8} {e : Int} (h : MU.fmtS s = (t, e)) : Ending.returned (.tuple #[.string (str t), .int .i64 e]) = .returned (fmtV s) := by unfold fmtV; rw [h]
set_option maxRecDepth 100000 in
set_option maxHeartbeats 16000000 in
theorem pformat_any (A1 : Option Addr) (n1 c1 : Nat) (A2 : Option Addr) (n2 c2 : Nat) (A3 : Option Addr) (n3 c3 : Nat) (A4 : Option Addr) (n4 c4 : Nat) (s : Su) (w : World) (h : SuAt w A1 n1 c1 A2 n2 c2 A3 n3 c3 A4 n4 c4 s) (ht : Tab w) :
    Calls Tryz.prog 8 #[.agg #[.slice A1 n1 c1, .slice A2 n2 c2, .slice A3 n3 c3, .slice A4 n4 c4]] w (Gives (fmtV s) w) := by
  have hn1 := h.ps.few
  have hn2 := h.bs.few
  have hn3 := h.cs.few
  have hn4 := h.as_.few
  have hc1 := h.ps.cap
  have hc2 := h.bs.cap
  have hc3 := h.cs.cap
  have hc4 := h.as_.cap
  have HL1 := Lib.hid h.ps.len
  have HL2 := Lib.hid h.bs.len
  have HL3 := Lib.hid h.cs.len
  have HL4 := Lib.hid h.as_.len
  have CK := Lib.hid (fun w' (hb : Below w.heap.size w w') => pcheck_any A1 n1 c1 A2 n2 c2 A3 n3 c3 A4 n4 c4 s w' (h.keep hb))
  have DI := Lib.hid (fun (v : Int) (W : World) (hb : Below w.heap.size w W) h0 h1 => digI_any v h0 h1 W (ht.keep hb))
  have DL := Lib.hid (fun (v : Int) (W : World) (hb : Below w.heap.size w W) h0 h1 => digL_any v h0 h1 W (ht.keep hb))
  have H := Lib.hid h
  clear h ht
  have T0 := Lib.hid (TB.new w 27 (.slice A1 n1 c1) (.slice A2 n2 c2) (.slice A3 n3 c3) (.slice A4 n4 c4))
  have B0 := Lib.hid (below_new w (.cells #[.slice A1 n1 c1, .slice A2 n2 c2, .slice A3 n3 c3, .slice A4 n4 c4] 27))
  obtain ⟨er, her⟩ : ∃ er, MU.chkS s = er := ⟨_, rfl⟩
  have HE := Lib.hid her
  rw [her] at CK
  clear her
  go_enter Tryz.func8, Tryz.ntmps8
  go_upto_region 1 with (fail)
  generalize w.alloc (.cells #[.slice A1 n1 c1, .slice A2 n2 c2, .slice A3 n3 c3, .slice A4 n4 c4] 27) = W0 at *
  obtain ⟨x0, x1, x2, x3⟩ := T0.out.cells
  go_wp2_with fail
  refine (CK.out _ B0.out).mono ?_
  rintro ev w1 ⟨rfl, hb⟩
  have T1 := Lib.hid (T0.out.keep hb)
  have B1 := Lib.hid (B0.out.trans (hb.mono B0.out.size))
  clear hb CK T0 B0 x0 x1 x2 x3
  by_cases h1 : er = 0
  · subst h1
    have GS := Lib.hid (MU.chkS_good HE.out)
    have HLEN := MU.text_len GS.out
    rw [MU.textS_lines] at HLEN
    unfold MU.wordsS at HLEN
    rw [MU.linesT_append, MU.linesT_append, MU.linesT_append] at HLEN
    obtain ⟨P1, hP1⟩ : ∃ P, [] ++ MU.linesT (s.ps.map MU.prW) = P := ⟨_, rfl⟩
    obtain ⟨P2, hP2⟩ : ∃ P, P1 ++ MU.linesT (s.bs.map MU.bdW) = P := ⟨_, rfl⟩
    obtain ⟨P3, hP3⟩ : ∃ P, P2 ++ MU.linesT (s.cs.map (MU.cpW s)) = P := ⟨_, rfl⟩
    obtain ⟨P4, hP4⟩ : ∃ P, P3 ++ MU.linesT (s.as_.map (MU.asW s)) = P := ⟨_, rfl⟩
    have HT4 : Hid (P4 = MU.textS s) := Lib.hid (by
      rw [← hP4, ← hP3, ← hP2, ← hP1, MU.textS_lines]
      unfold MU.wordsS
      rw [MU.linesT_append, MU.linesT_append, MU.linesT_append]
      simp)
    have L4 : P4.length ≤ 2000 := by rw [HT4.out]; have := MU.text_len GS.out; omega
    have L3 : P3.length ≤ 2000 := by have := congrArg List.length hP4; rw [List.length_append] at this; omega
    have L2 : P2.length ≤ 2000 := by have := congrArg List.length hP3; rw [List.length_append] at this; omega
    have L1 : P1.length ≤ 2000 := by have := congrArg List.length hP2; rw [List.length_append] at this; omega
    have HP1 := Lib.hid hP1
    have HP2 := Lib.hid hP2
    have HP3 := Lib.hid hP3
    have HP4 := Lib.hid hP4
    have G4 := Lib.hid (ret_fmt (s := s) (t := P4) (e := 0) (by unfold MU.fmtS; rw [if_neg (by rw [HE.out]; simp), HT4.out]))
    clear hP1 hP2 hP3 hP4 HLEN HT4
    have F0 := Lib.hid (show Fr w (.slice A1 n1 c1) (.slice A2 n2 c2) (.slice A3 n3 c3) (.slice A4 n4 c4) w1.heap.size [] (w1.alloc (.cells #[.pointer none, .slice none 0 0] 50)) from ⟨T1.out.keep (below_new _ _), Bld.new w1, B1.out.trans ((below_new _ _).mono B1.out.size), T1.out.lt⟩)
    clear T1 B1
    go_upto_region 5 with (fail)
    generalize w1.alloc (.cells #[.pointer none, .slice none 0 0] 50) = W2 at *
    generalize w1.heap.size = Bb at *
    obtain ⟨x0, x1, x2, x3⟩ := F0.out.box.cells
    go_wp2
    go_loopw [25] (fun i wr => ∃ k : Nat, k ≤ n1 ∧ i = .int .i64 k ∧ Hid (Fr w (.slice A1 n1 c1) (.slice A2 n2 c2) (.slice A3 n3 c3) (.slice A4 n4 c4) Bb (MU.TX [] MU.prW s.ps k) wr)) (fun i _ => n1 - (intOf i).toNat)
    case atStart => exact ⟨0, Nat.zero_le _, rfl, Lib.hid (by rw [MU.TX_zero]; exact F0.out)⟩
    case round =>
      obtain ⟨k, hk, rfl, HF⟩ := hrel
      clear F0 x0 x1 x2 x3
      obtain ⟨x0, x1, x2, x3⟩ := HF.out.box.cells
      by_cases hlt : k < n1
      · obtain ⟨ad, p, rfl, q1, hbk, y0, y1, y2, y3, y4⟩ := (H.out.ps.keep HF.out.below).at_ hlt
        have hgd := (MC.chk_good GS.out.ps).each k p q1
        have ST := Lib.hid (MU.TX_step (pre := []) (f := MU.prW) q1)
        have LE := Lib.hid (MU.TX_le (pre := []) (f := MU.prW) q1)
        rw [HP1.out] at LE
        have FW0 := Lib.hid (show Fw w (.slice (some ad) n1 c1) (.slice A2 n2 c2) (.slice A3 n3 c3) (.slice A4 n4 c4) Bb (MU.TX [] MU.prW s.ps k) wr.heap.size (.cells #[.string (str p.name), .int .i64 p.supply, .int .i64 p.reserve, .int .i64 p.points, .int .i64 p.group] 60 (0, 0)) (wr.alloc (.cells #[.string (str p.name), .int .i64 p.supply, .int .i64 p.reserve, .int .i64 p.points, .int .i64 p.group] 60)) from ⟨HF.out.keep (below_new _ _), heap_new _ _, HF.out.bld.lt⟩)
        clear q1 hbk HF
        obtain ⟨h2, h3, h4, h5, h6⟩ := hgd
        obtain ⟨pn, ps, pr, pp, pg⟩ := p
        simp only at *
        have Dps := Lib.hid (fun W hb => DI.out ps W hb (by omega) (by omega))
        have Dpr := Lib.hid (fun W hb => DL.out pr W hb (by omega) (by omega))
        have Dpp := Lib.hid (fun W hb => DI.out pp W hb (by omega) (by omega))
        have Dpg := Lib.hid (fun W hb => DI.out pg W hb (by omega) (by omega))
        clear h2 h3 h4 h5 h6
        go_upto_region 9 with (fail)
        obtain ⟨X, hX⟩ : ∃ X, X = wr.alloc (.cells #[.string (str pn), .int .i64 ps, .int .i64 pr, .int .i64 pp, .int .i64 pg] 60) := ⟨_, rfl⟩
        rw [← hX] at FW0 ⊢
        generalize hbp : wr.heap.size = bp at *
        clear hX hbp x0 x1 x2 x3 y0 y1 y2 y3 y4
        have FWc := Lib.hid (FW0.out.keep (below_drawn X))
        clear FW0
        refine wp_region_held_drew (S := fun w' => ∃ t, Fw w (.slice (some ad) n1 c1) (.slice A2 n2 c2) (.slice A3 n3 c3) (.slice A4 n4 c4) Bb t bp (.cells #[.string (str pn), .int .i64 ps, .int .i64 pr, .int .i64 pp, .int .i64 pg] 60 (0, 0)) w') (by kernel_rfl) ⟨_, FWc.out⟩ (fun hHeld => ?_)
        refine wpAnyH_take (i := 0) (oi := { dst := some 29, op := Op.move (Operand.tmp 6), type := 58, pos := "text.go:32", after := #[], guard := none }) (v := ?_) rfl (by kernel_rfl) (by kernel_rfl) (by kernel_rfl) (fun _ _ _ h => h) (Or.inl ⟨by rfl, ?_⟩) (by assumption) ?_
        rotate_left
        · intro w hSw; (try dsimp only at hSw); have q0 : w.cell? ⟨bp, 0, none⟩ = some (.string (str pn)) := (by rw [cell_of_row _ _ _ _ _ _ hSw.choose_spec.el]; try rfl); have q1 : w.cell? ⟨bp, 1, none⟩ = some (.int .i64 ps) := (by rw [cell_of_row _ _ _ _ _ _ hSw.choose_spec.el]; try rfl); have q2 : w.cell? ⟨bp, 2, none⟩ = some (.int .i64 pr) := (by rw [cell_of_row _ _ _ _ _ _ hSw.choose_spec.el]; try rfl); have q3 : w.cell? ⟨bp, 3, none⟩ = some (.int .i64 pp) := (by rw [cell_of_row _ _ _ _ _ _ hSw.choose_spec.el]; try rfl); have q4 : w.cell? ⟨bp, 4, none⟩ = some (.int .i64 pg) := (by rw [cell_of_row _ _ _ _ _ _ hSw.choose_spec.el]; try rfl); go_simp; try with_reducible rfl
        (try simp only [Act.put, List.setIfInBounds_toArray, List.set_cons_zero, List.set_cons_succ])
        refine wpAnyH_take (i := 1) (oi := { dst := some 30, op := Op.fieldAddr 60 (Operand.tmp 8) 0, type := 0, pos := "text.go:32", after := #[], guard := none }) (v := ?_) rfl (by kernel_rfl) (by kernel_rfl) (by kernel_rfl) (fun _ _ _ h => h) (Or.inl ⟨by rfl, ?_⟩) (by assumption) ?_
        rotate_left
        · intro w hSw; (try dsimp only at hSw); have q0 : w.cell? ⟨bp, 0, none⟩ = some (.string (str pn)) := (by rw [cell_of_row _ _ _ _ _ _ hSw.choose_spec.el]; try rfl); have q1 : w.cell? ⟨bp, 1, none⟩ = some (.int .i64 ps) := (by rw [cell_of_row _ _ _ _ _ _ hSw.choose_spec.el]; try rfl); have q2 : w.cell? ⟨bp, 2, none⟩ = some (.int .i64 pr) := (by rw [cell_of_row _ _ _ _ _ _ hSw.choose_spec.el]; try rfl); have q3 : w.cell? ⟨bp, 3, none⟩ = some (.int .i64 pp) := (by rw [cell_of_row _ _ _ _ _ _ hSw.choose_spec.el]; try rfl); have q4 : w.cell? ⟨bp, 4, none⟩ = some (.int .i64 pg) := (by rw [cell_of_row _ _ _ _ _ _ hSw.choose_spec.el]; try rfl); go_simp; try with_reducible rfl
        (try simp only [Act.put, List.setIfInBounds_toArray, List.set_cons_zero, List.set_cons_succ])
        refine wpAnyH_take (i := 2) (oi := { dst := some 31, op := Op.load 9 (Operand.tmp 30), type := 9, pos := "text.go:32", after := #[{ on := 1, ground := Ground.data }], guard := none }) (v := ?_) rfl (by kernel_rfl) (by kernel_rfl) (by kernel_rfl) (fun _ _ _ h => h) (Or.inl ⟨by rfl, ?_⟩) (by assumption) ?_
        rotate_left
        · intro w hSw; (try dsimp only at hSw); have q0 : w.cell? ⟨bp, 0, none⟩ = some (.string (str pn)) := (by rw [cell_of_row _ _ _ _ _ _ hSw.choose_spec.el]; try rfl); have q1 : w.cell? ⟨bp, 1, none⟩ = some (.int .i64 ps) := (by rw [cell_of_row _ _ _ _ _ _ hSw.choose_spec.el]; try rfl); have q2 : w.cell? ⟨bp, 2, none⟩ = some (.int .i64 pr) := (by rw [cell_of_row _ _ _ _ _ _ hSw.choose_spec.el]; try rfl); have q3 : w.cell? ⟨bp, 3, none⟩ = some (.int .i64 pp) := (by rw [cell_of_row _ _ _ _ _ _ hSw.choose_spec.el]; try rfl); have q4 : w.cell? ⟨bp, 4, none⟩ = some (.int .i64 pg) := (by rw [cell_of_row _ _ _ _ _ _ hSw.choose_spec.el]; try rfl); go_simp; try with_reducible rfl
        (try simp only [Act.put, List.setIfInBounds_toArray, List.set_cons_zero, List.set_cons_succ])
        refine wpAnyH_take (i := 3) (oi := { dst := some 32, op := Op.fieldAddr 60 (Operand.tmp 8) 1, type := 0, pos := "text.go:32", after := #[], guard := none }) (v := ?_) rfl (by kernel_rfl) (by kernel_rfl) (by kernel_rfl) (fun _ _ _ h => h) (Or.inl ⟨by rfl, ?_⟩) (by assumption) ?_
        rotate_left
        · intro w hSw; (try dsimp only at hSw); have q0 : w.cell? ⟨bp, 0, none⟩ = some (.string (str pn)) := (by rw [cell_of_row _ _ _ _ _ _ hSw.choose_spec.el]; try rfl); have q1 : w.cell? ⟨bp, 1, none⟩ = some (.int .i64 ps) := (by rw [cell_of_row _ _ _ _ _ _ hSw.choose_spec.el]; try rfl); have q2 : w.cell? ⟨bp, 2, none⟩ = some (.int .i64 pr) := (by rw [cell_of_row _ _ _ _ _ _ hSw.choose_spec.el]; try rfl); have q3 : w.cell? ⟨bp, 3, none⟩ = some (.int .i64 pp) := (by rw [cell_of_row _ _ _ _ _ _ hSw.choose_spec.el]; try rfl); have q4 : w.cell? ⟨bp, 4, none⟩ = some (.int .i64 pg) := (by rw [cell_of_row _ _ _ _ _ _ hSw.choose_spec.el]; try rfl); go_simp; try with_reducible rfl
        (try simp only [Act.put, List.setIfInBounds_toArray, List.set_cons_zero, List.set_cons_succ])
        refine wpAnyH_take (i := 4) (oi := { dst := some 33, op := Op.load 3 (Operand.tmp 32), type := 3, pos := "text.go:32", after := #[{ on := 3, ground := Ground.data }], guard := none }) (v := ?_) rfl (by kernel_rfl) (by kernel_rfl) (by kernel_rfl) (fun _ _ _ h => h) (Or.inl ⟨by rfl, ?_⟩) (by assumption) ?_
        rotate_left
        · intro w hSw; (try dsimp only at hSw); have q0 : w.cell? ⟨bp, 0, none⟩ = some (.string (str pn)) := (by rw [cell_of_row _ _ _ _ _ _ hSw.choose_spec.el]; try rfl); have q1 : w.cell? ⟨bp, 1, none⟩ = some (.int .i64 ps) := (by rw [cell_of_row _ _ _ _ _ _ hSw.choose_spec.el]; try rfl); have q2 : w.cell? ⟨bp, 2, none⟩ = some (.int .i64 pr) := (by rw [cell_of_row _ _ _ _ _ _ hSw.choose_spec.el]; try rfl); have q3 : w.cell? ⟨bp, 3, none⟩ = some (.int .i64 pp) := (by rw [cell_of_row _ _ _ _ _ _ hSw.choose_spec.el]; try rfl); have q4 : w.cell? ⟨bp, 4, none⟩ = some (.int .i64 pg) := (by rw [cell_of_row _ _ _ _ _ _ hSw.choose_spec.el]; try rfl); go_simp; try with_reducible rfl
        (try simp only [Act.put, List.setIfInBounds_toArray, List.set_cons_zero, List.set_cons_succ])
        refine wpAnyH_take (i := 6) (oi := { dst := some 35, op := Op.fieldAddr 60 (Operand.tmp 8) 2, type := 0, pos := "text.go:32", after := #[], guard := none }) (v := ?_) rfl (by kernel_rfl) (by kernel_rfl) (by kernel_rfl) (fun _ _ _ h => h) (Or.inl ⟨by rfl, ?_⟩) (by assumption) ?_
        rotate_left
        · intro w hSw; (try dsimp only at hSw); have q0 : w.cell? ⟨bp, 0, none⟩ = some (.string (str pn)) := (by rw [cell_of_row _ _ _ _ _ _ hSw.choose_spec.el]; try rfl); have q1 : w.cell? ⟨bp, 1, none⟩ = some (.int .i64 ps) := (by rw [cell_of_row _ _ _ _ _ _ hSw.choose_spec.el]; try rfl); have q2 : w.cell? ⟨bp, 2, none⟩ = some (.int .i64 pr) := (by rw [cell_of_row _ _ _ _ _ _ hSw.choose_spec.el]; try rfl); have q3 : w.cell? ⟨bp, 3, none⟩ = some (.int .i64 pp) := (by rw [cell_of_row _ _ _ _ _ _ hSw.choose_spec.el]; try rfl); have q4 : w.cell? ⟨bp, 4, none⟩ = some (.int .i64 pg) := (by rw [cell_of_row _ _ _ _ _ _ hSw.choose_spec.el]; try rfl); go_simp; try with_reducible rfl
        (try simp only [Act.put, List.setIfInBounds_toArray, List.set_cons_zero, List.set_cons_succ])
        refine wpAnyH_take (i := 7) (oi := { dst := some 36, op := Op.load 2 (Operand.tmp 35), type := 2, pos := "text.go:32", after := #[{ on := 6, ground := Ground.data }], guard := none }) (v := ?_) rfl (by kernel_rfl) (by kernel_rfl) (by kernel_rfl) (fun _ _ _ h => h) (Or.inl ⟨by rfl, ?_⟩) (by assumption) ?_
        rotate_left
        · intro w hSw; (try dsimp only at hSw); have q0 : w.cell? ⟨bp, 0, none⟩ = some (.string (str pn)) := (by rw [cell_of_row _ _ _ _ _ _ hSw.choose_spec.el]; try rfl); have q1 : w.cell? ⟨bp, 1, none⟩ = some (.int .i64 ps) := (by rw [cell_of_row _ _ _ _ _ _ hSw.choose_spec.el]; try rfl); have q2 : w.cell? ⟨bp, 2, none⟩ = some (.int .i64 pr) := (by rw [cell_of_row _ _ _ _ _ _ hSw.choose_spec.el]; try rfl); have q3 : w.cell? ⟨bp, 3, none⟩ = some (.int .i64 pp) := (by rw [cell_of_row _ _ _ _ _ _ hSw.choose_spec.el]; try rfl); have q4 : w.cell? ⟨bp, 4, none⟩ = some (.int .i64 pg) := (by rw [cell_of_row _ _ _ _ _ _ hSw.choose_spec.el]; try rfl); go_simp; try with_reducible rfl
        (try simp only [Act.put, List.setIfInBounds_toArray, List.set_cons_zero, List.set_cons_succ])
        refine wpAnyH_take (i := 9) (oi := { dst := some 38, op := Op.fieldAddr 60 (Operand.tmp 8) 3, type := 0, pos := "text.go:32", after := #[], guard := none }) (v := ?_) rfl (by kernel_rfl) (by kernel_rfl) (by kernel_rfl) (fun _ _ _ h => h) (Or.inl ⟨by rfl, ?_⟩) (by assumption) ?_
        rotate_left
        · intro w hSw; (try dsimp only at hSw); have q0 : w.cell? ⟨bp, 0, none⟩ = some (.string (str pn)) := (by rw [cell_of_row _ _ _ _ _ _ hSw.choose_spec.el]; try rfl); have q1 : w.cell? ⟨bp, 1, none⟩ = some (.int .i64 ps) := (by rw [cell_of_row _ _ _ _ _ _ hSw.choose_spec.el]; try rfl); have q2 : w.cell? ⟨bp, 2, none⟩ = some (.int .i64 pr) := (by rw [cell_of_row _ _ _ _ _ _ hSw.choose_spec.el]; try rfl); have q3 : w.cell? ⟨bp, 3, none⟩ = some (.int .i64 pp) := (by rw [cell_of_row _ _ _ _ _ _ hSw.choose_spec.el]; try rfl); have q4 : w.cell? ⟨bp, 4, none⟩ = some (.int .i64 pg) := (by rw [cell_of_row _ _ _ _ _ _ hSw.choose_spec.el]; try rfl); go_simp; try with_reducible rfl
        (try simp only [Act.put, List.setIfInBounds_toArray, List.set_cons_zero, List.set_cons_succ])
        refine wpAnyH_take (i := 10) (oi := { dst := some 39, op := Op.load 3 (Operand.tmp 38), type := 3, pos := "text.go:32", after := #[{ on := 9, ground := Ground.data }], guard := none }) (v := ?_) rfl (by kernel_rfl) (by kernel_rfl) (by kernel_rfl) (fun _ _ _ h => h) (Or.inl ⟨by rfl, ?_⟩) (by assumption) ?_
        rotate_left
        · intro w hSw; (try dsimp only at hSw); have q0 : w.cell? ⟨bp, 0, none⟩ = some (.string (str pn)) := (by rw [cell_of_row _ _ _ _ _ _ hSw.choose_spec.el]; try rfl); have q1 : w.cell? ⟨bp, 1, none⟩ = some (.int .i64 ps) := (by rw [cell_of_row _ _ _ _ _ _ hSw.choose_spec.el]; try rfl); have q2 : w.cell? ⟨bp, 2, none⟩ = some (.int .i64 pr) := (by rw [cell_of_row _ _ _ _ _ _ hSw.choose_spec.el]; try rfl); have q3 : w.cell? ⟨bp, 3, none⟩ = some (.int .i64 pp) := (by rw [cell_of_row _ _ _ _ _ _ hSw.choose_spec.el]; try rfl); have q4 : w.cell? ⟨bp, 4, none⟩ = some (.int .i64 pg) := (by rw [cell_of_row _ _ _ _ _ _ hSw.choose_spec.el]; try rfl); go_simp; try with_reducible rfl
        (try simp only [Act.put, List.setIfInBounds_toArray, List.set_cons_zero, List.set_cons_succ])
        refine wpAnyH_take (i := 12) (oi := { dst := some 41, op := Op.fieldAddr 60 (Operand.tmp 8) 4, type := 0, pos := "text.go:32", after := #[], guard := none }) (v := ?_) rfl (by kernel_rfl) (by kernel_rfl) (by kernel_rfl) (fun _ _ _ h => h) (Or.inl ⟨by rfl, ?_⟩) (by assumption) ?_
        rotate_left
        · intro w hSw; (try dsimp only at hSw); have q0 : w.cell? ⟨bp, 0, none⟩ = some (.string (str pn)) := (by rw [cell_of_row _ _ _ _ _ _ hSw.choose_spec.el]; try rfl); have q1 : w.cell? ⟨bp, 1, none⟩ = some (.int .i64 ps) := (by rw [cell_of_row _ _ _ _ _ _ hSw.choose_spec.el]; try rfl); have q2 : w.cell? ⟨bp, 2, none⟩ = some (.int .i64 pr) := (by rw [cell_of_row _ _ _ _ _ _ hSw.choose_spec.el]; try rfl); have q3 : w.cell? ⟨bp, 3, none⟩ = some (.int .i64 pp) := (by rw [cell_of_row _ _ _ _ _ _ hSw.choose_spec.el]; try rfl); have q4 : w.cell? ⟨bp, 4, none⟩ = some (.int .i64 pg) := (by rw [cell_of_row _ _ _ _ _ _ hSw.choose_spec.el]; try rfl); go_simp; try with_reducible rfl
        (try simp only [Act.put, List.setIfInBounds_toArray, List.set_cons_zero, List.set_cons_succ])
        refine wpAnyH_take (i := 13) (oi := { dst := some 42, op := Op.load 3 (Operand.tmp 41), type := 3, pos := "text.go:32", after := #[{ on := 12, ground := Ground.data }], guard := none }) (v := ?_) rfl (by kernel_rfl) (by kernel_rfl) (by kernel_rfl) (fun _ _ _ h => h) (Or.inl ⟨by rfl, ?_⟩) (by assumption) ?_
        rotate_left
        · intro w hSw; (try dsimp only at hSw); have q0 : w.cell? ⟨bp, 0, none⟩ = some (.string (str pn)) := (by rw [cell_of_row _ _ _ _ _ _ hSw.choose_spec.el]; try rfl); have q1 : w.cell? ⟨bp, 1, none⟩ = some (.int .i64 ps) := (by rw [cell_of_row _ _ _ _ _ _ hSw.choose_spec.el]; try rfl); have q2 : w.cell? ⟨bp, 2, none⟩ = some (.int .i64 pr) := (by rw [cell_of_row _ _ _ _ _ _ hSw.choose_spec.el]; try rfl); have q3 : w.cell? ⟨bp, 3, none⟩ = some (.int .i64 pp) := (by rw [cell_of_row _ _ _ _ _ _ hSw.choose_spec.el]; try rfl); have q4 : w.cell? ⟨bp, 4, none⟩ = some (.int .i64 pg) := (by rw [cell_of_row _ _ _ _ _ _ hSw.choose_spec.el]; try rfl); go_simp; try with_reducible rfl
        (try simp only [Act.put, List.setIfInBounds_toArray, List.set_cons_zero, List.set_cons_succ])
        refine wpAnyH_ready (rs := [5]) (by kernel_rfl) (by simp) ?_
        refine AllReadyH.cons (o := { dst := some 34, op := Op.call { callee := Callee.value (Operand.func 24), args := #[Operand.tmp 33], argTypes := #[3] }, type := 9, pos := "text.go:32", after := #[{ on := 4, ground := Ground.data }], guard := none }) rfl (fun K hK => ?_) AllReadyH.nil
        go_simp
        refine (Dps.out _ FWc.out.fr.below).mono ?_
        rintro e5 w5 ⟨rfl, hb⟩
        replace FWc := Lib.hid (FWc.out.keep hb)
        clear hb
        refine hK.out _ _ ?_ (fun hHeld => ?_)
        · exact ⟨_, FWc.out⟩
        clear hK K
        (try simp only [Act.put, List.setIfInBounds_toArray, List.set_cons_zero, List.set_cons_succ])
        refine wpAnyH_ready (rs := [8]) (by kernel_rfl) (by simp) ?_
        refine AllReadyH.cons (o := { dst := some 37, op := Op.call { callee := Callee.value (Operand.func 25), args := #[Operand.tmp 36], argTypes := #[2] }, type := 9, pos := "text.go:32", after := #[{ on := 7, ground := Ground.data }, { on := 5, ground := Ground.chain }], guard := none }) rfl (fun K hK => ?_) AllReadyH.nil
        go_simp
        refine (Dpr.out _ FWc.out.fr.below).mono ?_
        rintro e5 w5 ⟨rfl, hb⟩
        replace FWc := Lib.hid (FWc.out.keep hb)
        clear hb
        refine hK.out _ _ ?_ (fun hHeld => ?_)
        · exact ⟨_, FWc.out⟩
        clear hK K
        (try simp only [Act.put, List.setIfInBounds_toArray, List.set_cons_zero, List.set_cons_succ])
        refine wpAnyH_ready (rs := [11]) (by kernel_rfl) (by simp) ?_
        refine AllReadyH.cons (o := { dst := some 40, op := Op.call { callee := Callee.value (Operand.func 24), args := #[Operand.tmp 39], argTypes := #[3] }, type := 9, pos := "text.go:32", after := #[{ on := 10, ground := Ground.data }, { on := 8, ground := Ground.chain }], guard := none }) rfl (fun K hK => ?_) AllReadyH.nil
        go_simp
        refine (Dpp.out _ FWc.out.fr.below).mono ?_
        rintro e5 w5 ⟨rfl, hb⟩
        replace FWc := Lib.hid (FWc.out.keep hb)
        clear hb
        refine hK.out _ _ ?_ (fun hHeld => ?_)
        · exact ⟨_, FWc.out⟩
        clear hK K
        (try simp only [Act.put, List.setIfInBounds_toArray, List.set_cons_zero, List.set_cons_succ])
        refine wpAnyH_ready (rs := [14]) (by kernel_rfl) (by simp) ?_
        refine AllReadyH.cons (o := { dst := some 43, op := Op.call { callee := Callee.value (Operand.func 24), args := #[Operand.tmp 42], argTypes := #[3] }, type := 9, pos := "text.go:32", after := #[{ on := 13, ground := Ground.data }, { on := 11, ground := Ground.chain }], guard := none }) rfl (fun K hK => ?_) AllReadyH.nil
        go_simp
        refine (Dpg.out _ FWc.out.fr.below).mono ?_
        rintro e5 w5 ⟨rfl, hb⟩
        replace FWc := Lib.hid (FWc.out.keep hb)
        clear hb
        refine hK.out _ _ ?_ (fun hHeld => ?_)
        · exact ⟨_, FWc.out⟩
        clear hK K
        (try simp only [Act.put, List.setIfInBounds_toArray, List.set_cons_zero, List.set_cons_succ])
        refine wpAnyH_ready (rs := [15]) (by kernel_rfl) (by simp) ?_
        refine AllReadyH.cons (o := { dst := some 44, op := Op.buildSlice 51 6 #[(0, Operand.const (Value.string { data := #[112, 114, 111, 100, 117, 99, 116] })), (1, Operand.tmp 31), (2, Operand.tmp 34), (3, Operand.tmp 37), (4, Operand.tmp 40), (5, Operand.tmp 43)], type := 51, pos := "text.go:32", after := #[{ on := 2, ground := Ground.data }, { on := 5, ground := Ground.data }, { on := 8, ground := Ground.data }, { on := 11, ground := Ground.data }, { on := 14, ground := Ground.data }], guard := none }) rfl (fun K hK => ?_) AllReadyH.nil
        go_simp
        refine hK.out _ _ ?_ (fun hHeld => ?_)
        · exact ⟨_, FWc.out.alloc _⟩
        clear hK K
        (try simp only [Act.put, List.setIfInBounds_toArray, List.set_cons_zero, List.set_cons_succ])
        refine wpAnyH_ready (rs := [16]) (by kernel_rfl) (by simp) ?_
        refine AllReadyH.cons (o := { dst := some 45, op := Op.call { callee := Callee.value (Operand.tmp 29), args := #[Operand.tmp 44], argTypes := #[51] }, type := 0, pos := "text.go:32", after := #[{ on := 0, ground := Ground.data }, { on := 15, ground := Ground.data }, { on := 14, ground := Ground.chain }], guard := none }) rfl (fun K hK => ?_) AllReadyH.nil
        go_simp
        refine (write_any Bb _ 6 _ (MU.prW ⟨pn, ps, pr, pp, pg⟩) _ (FWc.out.alloc _).fr.bld (heap_new _ _) rfl (by decide) (Nat.le_trans LE.out (by omega))).mono ?_
        rintro e7 w7 ⟨rfl, hbl, hon⟩
        rw [ST.out] at hbl
        have FWe := (FWc.out.alloc _).wrote hbl hon (fun c fz e => by injection e with _ e2 _; revert e2; decide)
        have HR := Lib.hid FWe.fr
        clear hbl hon
        refine hK.out _ _ ?_ (fun hHeld => ?_)
        · exact ⟨_, FWe⟩
        clear FWe
        clear hK K
        (try simp only [Act.put, List.setIfInBounds_toArray, List.set_cons_zero, List.set_cons_succ])
        refine wpAnyH_done (by kernel_rfl) ?_ _
        clear FWc hHeld
        go_wp2
        go_roundw
        case rel => exact ⟨k + 1, by omega, by go_num, HR⟩
        case measure => simp [intOf]; omega
      · obtain rfl : n1 = k := by omega
        have F1 := Lib.hid (show Fr w (.slice A1 n1 c1) (.slice A2 n2 c2) (.slice A3 n3 c3) (.slice A4 n4 c4) Bb P1 wr by have := HF.out; rwa [MU.TX_end (by rw [HL1.out]; exact Nat.le_refl _), HP1.out] at this)
        clear HF x0 x1 x2 x3
        obtain ⟨wq0, hwq⟩ : ∃ wq : World, wq = wr := ⟨_, rfl⟩
        rw [← hwq] at F1 ⊢
        clear hwq
        obtain ⟨x0, x1, x2, x3⟩ := F1.out.box.cells
        go_wp2
        go_loopw [50] (fun i wr => ∃ k : Nat, k ≤ n2 ∧ i = .int .i64 k ∧ Hid (Fr w (.slice A1 n1 c1) (.slice A2 n2 c2) (.slice A3 n3 c3) (.slice A4 n4 c4) Bb (MU.TX P1 MU.bdW s.bs k) wr)) (fun i _ => n2 - (intOf i).toNat)
        case atStart => exact ⟨0, Nat.zero_le _, rfl, Lib.hid (by rw [MU.TX_zero]; exact F1.out)⟩
        case round =>
          obtain ⟨k, hk, rfl, HF⟩ := hrel
          clear F1 x0 x1 x2 x3
          obtain ⟨x0, x1, x2, x3⟩ := HF.out.box.cells
          by_cases hlt : k < n2
          · obtain ⟨ad, p, rfl, q1, hfi, hbk, y0, y1, y2, y3⟩ := bd_at (H.out.bs.keep HF.out.below) hlt
            have hgd := (MR.chk_good GS.out.bs).each k p q1
            have ST := Lib.hid (MU.TX_step (pre := P1) (f := MU.bdW) q1)
            have LE := Lib.hid (MU.TX_le (pre := P1) (f := MU.bdW) q1)
            rw [HP2.out] at LE
            have FW0 := Lib.hid (show Fw w (.slice A1 n1 c1) (.slice (some ad) n2 c2) (.slice A3 n3 c3) (.slice A4 n4 c4) Bb (MU.TX P1 MU.bdW s.bs k) wr.heap.size (.cells #[.string (str p.name), .int .i64 p.cls, .int .i64 p.budget, .int .i64 p.points] 64 (0, 0)) (wr.alloc (.cells #[.string (str p.name), .int .i64 p.cls, .int .i64 p.budget, .int .i64 p.points] 64)) from ⟨HF.out.keep (below_new _ _), heap_new _ _, HF.out.bld.lt⟩)
            clear q1 hbk HF hfi
            obtain ⟨h2, h3, h4, h5⟩ := hgd
            obtain ⟨pn, ps, pr, pp⟩ := p
            simp only at *
            have Dps := Lib.hid (fun W hb => DI.out ps W hb (by omega) (by omega))
            have Dpr := Lib.hid (fun W hb => DL.out pr W hb (by omega) (by omega))
            have Dpp := Lib.hid (fun W hb => DI.out pp W hb (by omega) (by omega))
            clear h2 h3 h4 h5
            go_upto_region 14 with (fail)
            obtain ⟨X, hX⟩ : ∃ X, X = wr.alloc (.cells #[.string (str pn), .int .i64 ps, .int .i64 pr, .int .i64 pp] 64) := ⟨_, rfl⟩
            rw [← hX] at FW0 ⊢
            generalize hbp : wr.heap.size = bp at *
            clear hX hbp x0 x1 x2 x3 y0 y1 y2 y3
            have FWc := Lib.hid (FW0.out.keep (below_drawn X))
            clear FW0
            refine wp_region_held_drew (S := fun w' => ∃ t, Fw w (.slice A1 n1 c1) (.slice (some ad) n2 c2) (.slice A3 n3 c3) (.slice A4 n4 c4) Bb t bp (.cells #[.string (str pn), .int .i64 ps, .int .i64 pr, .int .i64 pp] 64 (0, 0)) w') (by kernel_rfl) ⟨_, FWc.out⟩ (fun hHeld => ?_)
            refine wpAnyH_take (i := 0) (oi := { dst := some 54, op := Op.move (Operand.tmp 6), type := 58, pos := "text.go:35", after := #[], guard := none }) (v := ?_) rfl (by kernel_rfl) (by kernel_rfl) (by kernel_rfl) (fun _ _ _ h => h) (Or.inl ⟨by rfl, ?_⟩) (by assumption) ?_
            rotate_left
            · intro w hSw; (try dsimp only at hSw); have q0 : w.cell? ⟨bp, 0, none⟩ = some (.string (str pn)) := (by rw [cell_of_row _ _ _ _ _ _ hSw.choose_spec.el]; try rfl); have q1 : w.cell? ⟨bp, 1, none⟩ = some (.int .i64 ps) := (by rw [cell_of_row _ _ _ _ _ _ hSw.choose_spec.el]; try rfl); have q2 : w.cell? ⟨bp, 2, none⟩ = some (.int .i64 pr) := (by rw [cell_of_row _ _ _ _ _ _ hSw.choose_spec.el]; try rfl); have q3 : w.cell? ⟨bp, 3, none⟩ = some (.int .i64 pp) := (by rw [cell_of_row _ _ _ _ _ _ hSw.choose_spec.el]; try rfl); go_simp; try with_reducible rfl
            (try simp only [Act.put, List.setIfInBounds_toArray, List.set_cons_zero, List.set_cons_succ])
            refine wpAnyH_take (i := 1) (oi := { dst := some 55, op := Op.fieldAddr 64 (Operand.tmp 10) 0, type := 0, pos := "text.go:35", after := #[], guard := none }) (v := ?_) rfl (by kernel_rfl) (by kernel_rfl) (by kernel_rfl) (fun _ _ _ h => h) (Or.inl ⟨by rfl, ?_⟩) (by assumption) ?_
            rotate_left
            · intro w hSw; (try dsimp only at hSw); have q0 : w.cell? ⟨bp, 0, none⟩ = some (.string (str pn)) := (by rw [cell_of_row _ _ _ _ _ _ hSw.choose_spec.el]; try rfl); have q1 : w.cell? ⟨bp, 1, none⟩ = some (.int .i64 ps) := (by rw [cell_of_row _ _ _ _ _ _ hSw.choose_spec.el]; try rfl); have q2 : w.cell? ⟨bp, 2, none⟩ = some (.int .i64 pr) := (by rw [cell_of_row _ _ _ _ _ _ hSw.choose_spec.el]; try rfl); have q3 : w.cell? ⟨bp, 3, none⟩ = some (.int .i64 pp) := (by rw [cell_of_row _ _ _ _ _ _ hSw.choose_spec.el]; try rfl); go_simp; try with_reducible rfl
            (try simp only [Act.put, List.setIfInBounds_toArray, List.set_cons_zero, List.set_cons_succ])
            refine wpAnyH_take (i := 2) (oi := { dst := some 56, op := Op.load 9 (Operand.tmp 55), type := 9, pos := "text.go:35", after := #[{ on := 1, ground := Ground.data }], guard := none }) (v := ?_) rfl (by kernel_rfl) (by kernel_rfl) (by kernel_rfl) (fun _ _ _ h => h) (Or.inl ⟨by rfl, ?_⟩) (by assumption) ?_
            rotate_left
            · intro w hSw; (try dsimp only at hSw); have q0 : w.cell? ⟨bp, 0, none⟩ = some (.string (str pn)) := (by rw [cell_of_row _ _ _ _ _ _ hSw.choose_spec.el]; try rfl); have q1 : w.cell? ⟨bp, 1, none⟩ = some (.int .i64 ps) := (by rw [cell_of_row _ _ _ _ _ _ hSw.choose_spec.el]; try rfl); have q2 : w.cell? ⟨bp, 2, none⟩ = some (.int .i64 pr) := (by rw [cell_of_row _ _ _ _ _ _ hSw.choose_spec.el]; try rfl); have q3 : w.cell? ⟨bp, 3, none⟩ = some (.int .i64 pp) := (by rw [cell_of_row _ _ _ _ _ _ hSw.choose_spec.el]; try rfl); go_simp; try with_reducible rfl
            (try simp only [Act.put, List.setIfInBounds_toArray, List.set_cons_zero, List.set_cons_succ])
            refine wpAnyH_take (i := 3) (oi := { dst := some 57, op := Op.fieldAddr 64 (Operand.tmp 10) 1, type := 0, pos := "text.go:35", after := #[], guard := none }) (v := ?_) rfl (by kernel_rfl) (by kernel_rfl) (by kernel_rfl) (fun _ _ _ h => h) (Or.inl ⟨by rfl, ?_⟩) (by assumption) ?_
            rotate_left
            · intro w hSw; (try dsimp only at hSw); have q0 : w.cell? ⟨bp, 0, none⟩ = some (.string (str pn)) := (by rw [cell_of_row _ _ _ _ _ _ hSw.choose_spec.el]; try rfl); have q1 : w.cell? ⟨bp, 1, none⟩ = some (.int .i64 ps) := (by rw [cell_of_row _ _ _ _ _ _ hSw.choose_spec.el]; try rfl); have q2 : w.cell? ⟨bp, 2, none⟩ = some (.int .i64 pr) := (by rw [cell_of_row _ _ _ _ _ _ hSw.choose_spec.el]; try rfl); have q3 : w.cell? ⟨bp, 3, none⟩ = some (.int .i64 pp) := (by rw [cell_of_row _ _ _ _ _ _ hSw.choose_spec.el]; try rfl); go_simp; try with_reducible rfl
            (try simp only [Act.put, List.setIfInBounds_toArray, List.set_cons_zero, List.set_cons_succ])
            refine wpAnyH_take (i := 4) (oi := { dst := some 58, op := Op.load 3 (Operand.tmp 57), type := 3, pos := "text.go:35", after := #[{ on := 3, ground := Ground.data }], guard := none }) (v := ?_) rfl (by kernel_rfl) (by kernel_rfl) (by kernel_rfl) (fun _ _ _ h => h) (Or.inl ⟨by rfl, ?_⟩) (by assumption) ?_
            rotate_left
            · intro w hSw; (try dsimp only at hSw); have q0 : w.cell? ⟨bp, 0, none⟩ = some (.string (str pn)) := (by rw [cell_of_row _ _ _ _ _ _ hSw.choose_spec.el]; try rfl); have q1 : w.cell? ⟨bp, 1, none⟩ = some (.int .i64 ps) := (by rw [cell_of_row _ _ _ _ _ _ hSw.choose_spec.el]; try rfl); have q2 : w.cell? ⟨bp, 2, none⟩ = some (.int .i64 pr) := (by rw [cell_of_row _ _ _ _ _ _ hSw.choose_spec.el]; try rfl); have q3 : w.cell? ⟨bp, 3, none⟩ = some (.int .i64 pp) := (by rw [cell_of_row _ _ _ _ _ _ hSw.choose_spec.el]; try rfl); go_simp; try with_reducible rfl
            (try simp only [Act.put, List.setIfInBounds_toArray, List.set_cons_zero, List.set_cons_succ])
            refine wpAnyH_take (i := 6) (oi := { dst := some 60, op := Op.fieldAddr 64 (Operand.tmp 10) 2, type := 0, pos := "text.go:35", after := #[], guard := none }) (v := ?_) rfl (by kernel_rfl) (by kernel_rfl) (by kernel_rfl) (fun _ _ _ h => h) (Or.inl ⟨by rfl, ?_⟩) (by assumption) ?_
            rotate_left
            · intro w hSw; (try dsimp only at hSw); have q0 : w.cell? ⟨bp, 0, none⟩ = some (.string (str pn)) := (by rw [cell_of_row _ _ _ _ _ _ hSw.choose_spec.el]; try rfl); have q1 : w.cell? ⟨bp, 1, none⟩ = some (.int .i64 ps) := (by rw [cell_of_row _ _ _ _ _ _ hSw.choose_spec.el]; try rfl); have q2 : w.cell? ⟨bp, 2, none⟩ = some (.int .i64 pr) := (by rw [cell_of_row _ _ _ _ _ _ hSw.choose_spec.el]; try rfl); have q3 : w.cell? ⟨bp, 3, none⟩ = some (.int .i64 pp) := (by rw [cell_of_row _ _ _ _ _ _ hSw.choose_spec.el]; try rfl); go_simp; try with_reducible rfl
            (try simp only [Act.put, List.setIfInBounds_toArray, List.set_cons_zero, List.set_cons_succ])
            refine wpAnyH_take (i := 7) (oi := { dst := some 61, op := Op.load 2 (Operand.tmp 60), type := 2, pos := "text.go:35", after := #[{ on := 6, ground := Ground.data }], guard := none }) (v := ?_) rfl (by kernel_rfl) (by kernel_rfl) (by kernel_rfl) (fun _ _ _ h => h) (Or.inl ⟨by rfl, ?_⟩) (by assumption) ?_
            rotate_left
            · intro w hSw; (try dsimp only at hSw); have q0 : w.cell? ⟨bp, 0, none⟩ = some (.string (str pn)) := (by rw [cell_of_row _ _ _ _ _ _ hSw.choose_spec.el]; try rfl); have q1 : w.cell? ⟨bp, 1, none⟩ = some (.int .i64 ps) := (by rw [cell_of_row _ _ _ _ _ _ hSw.choose_spec.el]; try rfl); have q2 : w.cell? ⟨bp, 2, none⟩ = some (.int .i64 pr) := (by rw [cell_of_row _ _ _ _ _ _ hSw.choose_spec.el]; try rfl); have q3 : w.cell? ⟨bp, 3, none⟩ = some (.int .i64 pp) := (by rw [cell_of_row _ _ _ _ _ _ hSw.choose_spec.el]; try rfl); go_simp; try with_reducible rfl
            (try simp only [Act.put, List.setIfInBounds_toArray, List.set_cons_zero, List.set_cons_succ])
            refine wpAnyH_take (i := 9) (oi := { dst := some 63, op := Op.fieldAddr 64 (Operand.tmp 10) 3, type := 0, pos := "text.go:35", after := #[], guard := none }) (v := ?_) rfl (by kernel_rfl) (by kernel_rfl) (by kernel_rfl) (fun _ _ _ h => h) (Or.inl ⟨by rfl, ?_⟩) (by assumption) ?_
            rotate_left
            · intro w hSw; (try dsimp only at hSw); have q0 : w.cell? ⟨bp, 0, none⟩ = some (.string (str pn)) := (by rw [cell_of_row _ _ _ _ _ _ hSw.choose_spec.el]; try rfl); have q1 : w.cell? ⟨bp, 1, none⟩ = some (.int .i64 ps) := (by rw [cell_of_row _ _ _ _ _ _ hSw.choose_spec.el]; try rfl); have q2 : w.cell? ⟨bp, 2, none⟩ = some (.int .i64 pr) := (by rw [cell_of_row _ _ _ _ _ _ hSw.choose_spec.el]; try rfl); have q3 : w.cell? ⟨bp, 3, none⟩ = some (.int .i64 pp) := (by rw [cell_of_row _ _ _ _ _ _ hSw.choose_spec.el]; try rfl); go_simp; try with_reducible rfl
            (try simp only [Act.put, List.setIfInBounds_toArray, List.set_cons_zero, List.set_cons_succ])
            refine wpAnyH_take (i := 10) (oi := { dst := some 64, op := Op.load 3 (Operand.tmp 63), type := 3, pos := "text.go:35", after := #[{ on := 9, ground := Ground.data }], guard := none }) (v := ?_) rfl (by kernel_rfl) (by kernel_rfl) (by kernel_rfl) (fun _ _ _ h => h) (Or.inl ⟨by rfl, ?_⟩) (by assumption) ?_
            rotate_left
            · intro w hSw; (try dsimp only at hSw); have q0 : w.cell? ⟨bp, 0, none⟩ = some (.string (str pn)) := (by rw [cell_of_row _ _ _ _ _ _ hSw.choose_spec.el]; try rfl); have q1 : w.cell? ⟨bp, 1, none⟩ = some (.int .i64 ps) := (by rw [cell_of_row _ _ _ _ _ _ hSw.choose_spec.el]; try rfl); have q2 : w.cell? ⟨bp, 2, none⟩ = some (.int .i64 pr) := (by rw [cell_of_row _ _ _ _ _ _ hSw.choose_spec.el]; try rfl); have q3 : w.cell? ⟨bp, 3, none⟩ = some (.int .i64 pp) := (by rw [cell_of_row _ _ _ _ _ _ hSw.choose_spec.el]; try rfl); go_simp; try with_reducible rfl
            (try simp only [Act.put, List.setIfInBounds_toArray, List.set_cons_zero, List.set_cons_succ])
            refine wpAnyH_ready (rs := [5]) (by kernel_rfl) (by simp) ?_
            refine AllReadyH.cons (o := { dst := some 59, op := Op.call { callee := Callee.value (Operand.func 24), args := #[Operand.tmp 58], argTypes := #[3] }, type := 9, pos := "text.go:35", after := #[{ on := 4, ground := Ground.data }], guard := none }) rfl (fun K hK => ?_) AllReadyH.nil
            go_simp
            refine (Dps.out _ FWc.out.fr.below).mono ?_
            rintro e5 w5 ⟨rfl, hb⟩
            replace FWc := Lib.hid (FWc.out.keep hb)
            clear hb
            refine hK.out _ _ ?_ (fun hHeld => ?_)
            · exact ⟨_, FWc.out⟩
            clear hK K
            (try simp only [Act.put, List.setIfInBounds_toArray, List.set_cons_zero, List.set_cons_succ])
            refine wpAnyH_ready (rs := [8]) (by kernel_rfl) (by simp) ?_
            refine AllReadyH.cons (o := { dst := some 62, op := Op.call { callee := Callee.value (Operand.func 25), args := #[Operand.tmp 61], argTypes := #[2] }, type := 9, pos := "text.go:35", after := #[{ on := 7, ground := Ground.data }, { on := 5, ground := Ground.chain }], guard := none }) rfl (fun K hK => ?_) AllReadyH.nil
            go_simp
            refine (Dpr.out _ FWc.out.fr.below).mono ?_
            rintro e5 w5 ⟨rfl, hb⟩
            replace FWc := Lib.hid (FWc.out.keep hb)
            clear hb
            refine hK.out _ _ ?_ (fun hHeld => ?_)
            · exact ⟨_, FWc.out⟩
            clear hK K
            (try simp only [Act.put, List.setIfInBounds_toArray, List.set_cons_zero, List.set_cons_succ])
            refine wpAnyH_ready (rs := [11]) (by kernel_rfl) (by simp) ?_
            refine AllReadyH.cons (o := { dst := some 65, op := Op.call { callee := Callee.value (Operand.func 24), args := #[Operand.tmp 64], argTypes := #[3] }, type := 9, pos := "text.go:35", after := #[{ on := 10, ground := Ground.data }, { on := 8, ground := Ground.chain }], guard := none }) rfl (fun K hK => ?_) AllReadyH.nil
            go_simp
            refine (Dpp.out _ FWc.out.fr.below).mono ?_
            rintro e5 w5 ⟨rfl, hb⟩
            replace FWc := Lib.hid (FWc.out.keep hb)
            clear hb
            refine hK.out _ _ ?_ (fun hHeld => ?_)
            · exact ⟨_, FWc.out⟩
            clear hK K
            (try simp only [Act.put, List.setIfInBounds_toArray, List.set_cons_zero, List.set_cons_succ])
            refine wpAnyH_ready (rs := [12]) (by kernel_rfl) (by simp) ?_
            refine AllReadyH.cons (o := { dst := some 66, op := Op.buildSlice 51 5 #[(0, Operand.const (Value.string { data := #[98, 105, 100, 100, 101, 114] })), (1, Operand.tmp 56), (2, Operand.tmp 59), (3, Operand.tmp 62), (4, Operand.tmp 65)], type := 51, pos := "text.go:35", after := #[{ on := 2, ground := Ground.data }, { on := 5, ground := Ground.data }, { on := 8, ground := Ground.data }, { on := 11, ground := Ground.data }], guard := none }) rfl (fun K hK => ?_) AllReadyH.nil
            go_simp
            refine hK.out _ _ ?_ (fun hHeld => ?_)
            · exact ⟨_, FWc.out.alloc _⟩
            clear hK K
            (try simp only [Act.put, List.setIfInBounds_toArray, List.set_cons_zero, List.set_cons_succ])
            refine wpAnyH_ready (rs := [13]) (by kernel_rfl) (by simp) ?_
            refine AllReadyH.cons (o := { dst := some 67, op := Op.call { callee := Callee.value (Operand.tmp 54), args := #[Operand.tmp 66], argTypes := #[51] }, type := 0, pos := "text.go:35", after := #[{ on := 0, ground := Ground.data }, { on := 12, ground := Ground.data }, { on := 11, ground := Ground.chain }], guard := none }) rfl (fun K hK => ?_) AllReadyH.nil
            go_simp
            refine (write_any Bb _ 5 _ (MU.bdW ⟨pn, ps, pr, pp⟩) _ (FWc.out.alloc _).fr.bld (heap_new _ _) rfl (by decide) (Nat.le_trans LE.out (by omega))).mono ?_
            rintro e7 w7 ⟨rfl, hbl, hon⟩
            rw [ST.out] at hbl
            have FWe := (FWc.out.alloc _).wrote hbl hon (fun c fz e => by injection e with _ e2 _; revert e2; decide)
            have HR := Lib.hid FWe.fr
            clear hbl hon
            refine hK.out _ _ ?_ (fun hHeld => ?_)
            · exact ⟨_, FWe⟩
            clear FWe
            clear hK K
            (try simp only [Act.put, List.setIfInBounds_toArray, List.set_cons_zero, List.set_cons_succ])
            refine wpAnyH_done (by kernel_rfl) ?_ _
            clear FWc hHeld
            go_wp2
            go_roundw
            case rel => exact ⟨k + 1, by omega, by go_num, HR⟩
            case measure => simp [intOf]; omega
          · obtain rfl : n2 = k := by omega
            have F2 := Lib.hid (show Fr w (.slice A1 n1 c1) (.slice A2 n2 c2) (.slice A3 n3 c3) (.slice A4 n4 c4) Bb P2 wr by have := HF.out; rwa [MU.TX_end (by rw [HL2.out]; exact Nat.le_refl _), HP2.out] at this)
            clear HF x0 x1 x2 x3
            obtain ⟨wq1, hwq⟩ : ∃ wq : World, wq = wr := ⟨_, rfl⟩
            rw [← hwq] at F2 ⊢
            clear hwq
            obtain ⟨x0, x1, x2, x3⟩ := F2.out.box.cells
            go_wp2
            go_loopw [72] (fun i wr => ∃ k : Nat, k ≤ n3 ∧ i = .int .i64 k ∧ Hid (Fr w (.slice A1 n1 c1) (.slice A2 n2 c2) (.slice A3 n3 c3) (.slice A4 n4 c4) Bb (MU.TX P2 (MU.cpW s) s.cs k) wr)) (fun i _ => n3 - (intOf i).toNat)
            case atStart => exact ⟨0, Nat.zero_le _, rfl, Lib.hid (by rw [MU.TX_zero]; exact F2.out)⟩
            case round =>
              obtain ⟨k, hk, rfl, HF⟩ := hrel
              clear F2 x0 x1 x2 x3
              obtain ⟨x0, x1, x2, x3⟩ := HF.out.box.cells
              by_cases hlt : k < n3
              · obtain ⟨ad, p, rfl, q1, hfi, hbk, y0, y1, y2⟩ := cp_at (H.out.cs.keep HF.out.below) hlt
                have hgd := GS.out.caps k p q1
                have ST := Lib.hid (MU.TX_step (pre := P2) (f := MU.cpW s) q1)
                have LE := Lib.hid (MU.TX_le (pre := P2) (f := MU.cpW s) q1)
                rw [HP3.out] at LE
                have FW0 := Lib.hid (show Fw w (.slice A1 n1 c1) (.slice A2 n2 c2) (.slice (some ad) n3 c3) (.slice A4 n4 c4) Bb (MU.TX P2 (MU.cpW s) s.cs k) wr.heap.size (.cells #[.int .i64 p.bidder, .int .i64 p.group, .int .i64 p.units] 66 (0, 0)) (wr.alloc (.cells #[.int .i64 p.bidder, .int .i64 p.group, .int .i64 p.units] 66)) from ⟨HF.out.keep (below_new _ _), heap_new _ _, HF.out.bld.lt⟩)
                clear q1 hbk hfi HF
                obtain ⟨h2, h3⟩ := hgd
                obtain ⟨pb, pg, pu⟩ := p
                simp only at *
                have Dpg := Lib.hid (fun W hb => DI.out pg W hb (by omega) (by omega))
                have Dpu := Lib.hid (fun W hb => DI.out pu W hb (by omega) (by omega))
                clear h3
                go_upto_region 19 with (fail)
                obtain ⟨X, hX⟩ : ∃ X, X = wr.alloc (.cells #[.int .i64 pb, .int .i64 pg, .int .i64 pu] 66) := ⟨_, rfl⟩
                rw [← hX] at FW0 ⊢
                generalize hbp : wr.heap.size = bp at *
                clear hX hbp x0 x1 x2 x3 y0 y1 y2
                obtain ⟨x0, x1, x2, x3⟩ := FW0.out.fr.box.cells
                have y0 : X.cell? ⟨bp, 0, none⟩ = some (.int .i64 pb) := by rw [cell_of_row _ _ _ _ _ _ FW0.out.el]; try rfl
                by_cases hm1 : pb = -1
                · have e1 : (pb != -1) = false := by rw [hm1]; rfl
                  have HW : MU.cpW s ⟨pb, pg, pu⟩ = [MU.wCap, [42], MU.num pg, MU.num pu] := by
                    unfold MU.cpW MU.cpName
                    rw [if_neg (by show ¬ (0 : Int) ≤ pb; omega)]
                  rw [HW] at ST LE
                  clear hm1 HW h2
                  go_wp2
                  have FWc := Lib.hid (FW0.out.keep (below_drawn X))
                  clear FW0 x0 x1 x2 x3 y0
                  refine wp_region_held_drew (S := fun w' => ∃ t, Fw w (.slice A1 n1 c1) (.slice A2 n2 c2) (.slice (some ad) n3 c3) (.slice A4 n4 c4) Bb t bp (.cells #[.int .i64 pb, .int .i64 pg, .int .i64 pu] 66 (0, 0)) w') (by kernel_rfl) ⟨_, FWc.out⟩ (fun hHeld => ?_)
                  refine wpAnyH_take (i := 0) (oi := { dst := some 86, op := Op.move (Operand.tmp 6), type := 58, pos := "text.go:42", after := #[], guard := none }) (v := ?_) rfl (by kernel_rfl) (by kernel_rfl) (by kernel_rfl) (fun _ _ _ h => h) (Or.inl ⟨by rfl, ?_⟩) (by assumption) ?_
                  rotate_left
                  · intro w hSw; (try dsimp only at hSw); have q0 : w.cell? ⟨bp, 0, none⟩ = some (.int .i64 pb) := (by rw [cell_of_row _ _ _ _ _ _ hSw.choose_spec.el]; try rfl); have q1 : w.cell? ⟨bp, 1, none⟩ = some (.int .i64 pg) := (by rw [cell_of_row _ _ _ _ _ _ hSw.choose_spec.el]; try rfl); have q2 : w.cell? ⟨bp, 2, none⟩ = some (.int .i64 pu) := (by rw [cell_of_row _ _ _ _ _ _ hSw.choose_spec.el]; try rfl); go_simp; try with_reducible rfl
                  (try simp only [Act.put, List.setIfInBounds_toArray, List.set_cons_zero, List.set_cons_succ])
                  refine wpAnyH_take (i := 1) (oi := { dst := some 87, op := Op.move (Operand.tmp 13), type := 9, pos := "text.go:42", after := #[], guard := none }) (v := ?_) rfl (by kernel_rfl) (by kernel_rfl) (by kernel_rfl) (fun _ _ _ h => h) (Or.inl ⟨by rfl, ?_⟩) (by assumption) ?_
                  rotate_left
                  · intro w hSw; (try dsimp only at hSw); have q0 : w.cell? ⟨bp, 0, none⟩ = some (.int .i64 pb) := (by rw [cell_of_row _ _ _ _ _ _ hSw.choose_spec.el]; try rfl); have q1 : w.cell? ⟨bp, 1, none⟩ = some (.int .i64 pg) := (by rw [cell_of_row _ _ _ _ _ _ hSw.choose_spec.el]; try rfl); have q2 : w.cell? ⟨bp, 2, none⟩ = some (.int .i64 pu) := (by rw [cell_of_row _ _ _ _ _ _ hSw.choose_spec.el]; try rfl); go_simp; try with_reducible rfl
                  (try simp only [Act.put, List.setIfInBounds_toArray, List.set_cons_zero, List.set_cons_succ])
                  refine wpAnyH_take (i := 2) (oi := { dst := some 88, op := Op.fieldAddr 66 (Operand.tmp 12) 1, type := 0, pos := "text.go:42", after := #[], guard := none }) (v := ?_) rfl (by kernel_rfl) (by kernel_rfl) (by kernel_rfl) (fun _ _ _ h => h) (Or.inl ⟨by rfl, ?_⟩) (by assumption) ?_
                  rotate_left
                  · intro w hSw; (try dsimp only at hSw); have q0 : w.cell? ⟨bp, 0, none⟩ = some (.int .i64 pb) := (by rw [cell_of_row _ _ _ _ _ _ hSw.choose_spec.el]; try rfl); have q1 : w.cell? ⟨bp, 1, none⟩ = some (.int .i64 pg) := (by rw [cell_of_row _ _ _ _ _ _ hSw.choose_spec.el]; try rfl); have q2 : w.cell? ⟨bp, 2, none⟩ = some (.int .i64 pu) := (by rw [cell_of_row _ _ _ _ _ _ hSw.choose_spec.el]; try rfl); go_simp; try with_reducible rfl
                  (try simp only [Act.put, List.setIfInBounds_toArray, List.set_cons_zero, List.set_cons_succ])
                  refine wpAnyH_take (i := 3) (oi := { dst := some 89, op := Op.load 3 (Operand.tmp 88), type := 3, pos := "text.go:42", after := #[{ on := 2, ground := Ground.data }], guard := none }) (v := ?_) rfl (by kernel_rfl) (by kernel_rfl) (by kernel_rfl) (fun _ _ _ h => h) (Or.inl ⟨by rfl, ?_⟩) (by assumption) ?_
                  rotate_left
                  · intro w hSw; (try dsimp only at hSw); have q0 : w.cell? ⟨bp, 0, none⟩ = some (.int .i64 pb) := (by rw [cell_of_row _ _ _ _ _ _ hSw.choose_spec.el]; try rfl); have q1 : w.cell? ⟨bp, 1, none⟩ = some (.int .i64 pg) := (by rw [cell_of_row _ _ _ _ _ _ hSw.choose_spec.el]; try rfl); have q2 : w.cell? ⟨bp, 2, none⟩ = some (.int .i64 pu) := (by rw [cell_of_row _ _ _ _ _ _ hSw.choose_spec.el]; try rfl); go_simp; try with_reducible rfl
                  (try simp only [Act.put, List.setIfInBounds_toArray, List.set_cons_zero, List.set_cons_succ])
                  refine wpAnyH_take (i := 5) (oi := { dst := some 91, op := Op.fieldAddr 66 (Operand.tmp 12) 2, type := 0, pos := "text.go:42", after := #[], guard := none }) (v := ?_) rfl (by kernel_rfl) (by kernel_rfl) (by kernel_rfl) (fun _ _ _ h => h) (Or.inl ⟨by rfl, ?_⟩) (by assumption) ?_
                  rotate_left
                  · intro w hSw; (try dsimp only at hSw); have q0 : w.cell? ⟨bp, 0, none⟩ = some (.int .i64 pb) := (by rw [cell_of_row _ _ _ _ _ _ hSw.choose_spec.el]; try rfl); have q1 : w.cell? ⟨bp, 1, none⟩ = some (.int .i64 pg) := (by rw [cell_of_row _ _ _ _ _ _ hSw.choose_spec.el]; try rfl); have q2 : w.cell? ⟨bp, 2, none⟩ = some (.int .i64 pu) := (by rw [cell_of_row _ _ _ _ _ _ hSw.choose_spec.el]; try rfl); go_simp; try with_reducible rfl
                  (try simp only [Act.put, List.setIfInBounds_toArray, List.set_cons_zero, List.set_cons_succ])
                  refine wpAnyH_take (i := 6) (oi := { dst := some 92, op := Op.load 3 (Operand.tmp 91), type := 3, pos := "text.go:42", after := #[{ on := 5, ground := Ground.data }], guard := none }) (v := ?_) rfl (by kernel_rfl) (by kernel_rfl) (by kernel_rfl) (fun _ _ _ h => h) (Or.inl ⟨by rfl, ?_⟩) (by assumption) ?_
                  rotate_left
                  · intro w hSw; (try dsimp only at hSw); have q0 : w.cell? ⟨bp, 0, none⟩ = some (.int .i64 pb) := (by rw [cell_of_row _ _ _ _ _ _ hSw.choose_spec.el]; try rfl); have q1 : w.cell? ⟨bp, 1, none⟩ = some (.int .i64 pg) := (by rw [cell_of_row _ _ _ _ _ _ hSw.choose_spec.el]; try rfl); have q2 : w.cell? ⟨bp, 2, none⟩ = some (.int .i64 pu) := (by rw [cell_of_row _ _ _ _ _ _ hSw.choose_spec.el]; try rfl); go_simp; try with_reducible rfl
                  (try simp only [Act.put, List.setIfInBounds_toArray, List.set_cons_zero, List.set_cons_succ])
                  refine wpAnyH_ready (rs := [4]) (by kernel_rfl) (by simp) ?_
                  refine AllReadyH.cons (o := { dst := some 90, op := Op.call { callee := Callee.value (Operand.func 24), args := #[Operand.tmp 89], argTypes := #[3] }, type := 9, pos := "text.go:42", after := #[{ on := 3, ground := Ground.data }], guard := none }) rfl (fun K hK => ?_) AllReadyH.nil
                  go_simp
                  refine (Dpg.out _ FWc.out.fr.below).mono ?_
                  rintro e5 w5 ⟨rfl, hb⟩
                  replace FWc := Lib.hid (FWc.out.keep hb)
                  clear hb
                  refine hK.out _ _ ?_ (fun hHeld => ?_)
                  · exact ⟨_, FWc.out⟩
                  clear hK K
                  (try simp only [Act.put, List.setIfInBounds_toArray, List.set_cons_zero, List.set_cons_succ])
                  refine wpAnyH_ready (rs := [7]) (by kernel_rfl) (by simp) ?_
                  refine AllReadyH.cons (o := { dst := some 93, op := Op.call { callee := Callee.value (Operand.func 24), args := #[Operand.tmp 92], argTypes := #[3] }, type := 9, pos := "text.go:42", after := #[{ on := 6, ground := Ground.data }, { on := 4, ground := Ground.chain }], guard := none }) rfl (fun K hK => ?_) AllReadyH.nil
                  go_simp
                  refine (Dpu.out _ FWc.out.fr.below).mono ?_
                  rintro e5 w5 ⟨rfl, hb⟩
                  replace FWc := Lib.hid (FWc.out.keep hb)
                  clear hb
                  refine hK.out _ _ ?_ (fun hHeld => ?_)
                  · exact ⟨_, FWc.out⟩
                  clear hK K
                  (try simp only [Act.put, List.setIfInBounds_toArray, List.set_cons_zero, List.set_cons_succ])
                  refine wpAnyH_ready (rs := [8]) (by kernel_rfl) (by simp) ?_
                  refine AllReadyH.cons (o := { dst := some 94, op := Op.buildSlice 51 4 #[(0, Operand.const (Value.string { data := #[99, 97, 112] })), (1, Operand.tmp 87), (2, Operand.tmp 90), (3, Operand.tmp 93)], type := 51, pos := "text.go:42", after := #[{ on := 1, ground := Ground.data }, { on := 4, ground := Ground.data }, { on := 7, ground := Ground.data }], guard := none }) rfl (fun K hK => ?_) AllReadyH.nil
                  go_simp
                  refine hK.out _ _ ?_ (fun hHeld => ?_)
                  · exact ⟨_, FWc.out.alloc _⟩
                  clear hK K
                  (try simp only [Act.put, List.setIfInBounds_toArray, List.set_cons_zero, List.set_cons_succ])
                  refine wpAnyH_ready (rs := [9]) (by kernel_rfl) (by simp) ?_
                  refine AllReadyH.cons (o := { dst := some 95, op := Op.call { callee := Callee.value (Operand.tmp 86), args := #[Operand.tmp 94], argTypes := #[51] }, type := 0, pos := "text.go:42", after := #[{ on := 0, ground := Ground.data }, { on := 8, ground := Ground.data }, { on := 7, ground := Ground.chain }], guard := none }) rfl (fun K hK => ?_) AllReadyH.nil
                  go_simp
                  refine (write_any Bb _ 4 _ [MU.wCap, [42], MU.num pg, MU.num pu] _ (FWc.out.alloc _).fr.bld (heap_new _ _) rfl (by decide) (Nat.le_trans LE.out (by omega))).mono ?_
                  rintro e7 w7 ⟨rfl, hbl, hon⟩
                  rw [ST.out] at hbl
                  have FWe := (FWc.out.alloc _).wrote hbl hon (fun c fz e => by injection e with _ e2 _; revert e2; decide)
                  have HR := Lib.hid FWe.fr
                  clear hbl hon
                  refine hK.out _ _ ?_ (fun hHeld => ?_)
                  · exact ⟨_, FWe⟩
                  clear FWe
                  clear hK K
                  (try simp only [Act.put, List.setIfInBounds_toArray, List.set_cons_zero, List.set_cons_succ])
                  refine wpAnyH_done (by kernel_rfl) ?_ _
                  clear FWc hHeld
                  go_wp2
                  go_roundw
                  case rel => exact ⟨k + 1, by omega, by go_num, HR⟩
                  case measure => simp [intOf]; omega
                · have e1 : (pb != -1) = true := bne_iff_ne.2 hm1
                  obtain ⟨P, rfl⟩ := Int.eq_ofNat_of_zero_le (show 0 ≤ pb by omega)
                  have hP : P < n2 := by have := h2.2; rw [HL2.out] at this; omega
                  have hP' : (P : Int) < (n2 : Int) := by omega
                  obtain ⟨ad2, pq, rfl, q2, hfi2, hbk2, z0, z1, z2, z3⟩ := bd_at (H.out.bs.keep FW0.out.fr.below) hP
                  have HW : MU.cpW s ⟨(P : Int), pg, pu⟩ = [MU.wCap, pq.name, MU.num pg, MU.num pu] := by
                    unfold MU.cpW MU.cpName
                    rw [if_pos (by show (0 : Int) ≤ (P : Int); omega)]
                    show [MU.wCap, ((s.bs[(P : Int).toNat]?).map (·.name)).getD [], MU.num pg, MU.num pu] = _
                    rw [Int.toNat_natCast, q2]; rfl
                  rw [HW] at ST LE
                  clear hm1 HW h2 q2 hfi2 hbk2 z1 z2 z3
                  obtain ⟨qn, qc, qb, qp⟩ := pq
                  simp only at *
                  go_wp2
                  have FWc := Lib.hid (FW0.out.keep (below_drawn X))
                  clear FW0 x0 x1 x2 x3 y0 z0
                  refine wp_region_held_drew (S := fun w' => ∃ t, Fw w (.slice A1 n1 c1) (.slice (some ad2) n2 c2) (.slice (some ad) n3 c3) (.slice A4 n4 c4) Bb t bp (.cells #[.int .i64 (P : Int), .int .i64 pg, .int .i64 pu] 66 (0, 0)) w') (by kernel_rfl) ⟨_, FWc.out⟩ (fun hHeld => ?_)
                  refine wpAnyH_take (i := 0) (oi := { dst := some 86, op := Op.move (Operand.tmp 6), type := 58, pos := "text.go:42", after := #[], guard := none }) (v := ?_) rfl (by kernel_rfl) (by kernel_rfl) (by kernel_rfl) (fun _ _ _ h => h) (Or.inl ⟨by rfl, ?_⟩) (by assumption) ?_
                  rotate_left
                  · intro w hSw; (try dsimp only at hSw); have q0 : w.cell? ⟨bp, 0, none⟩ = some (.int .i64 (P : Int)) := (by rw [cell_of_row _ _ _ _ _ _ hSw.choose_spec.el]; try rfl); have q1 : w.cell? ⟨bp, 1, none⟩ = some (.int .i64 pg) := (by rw [cell_of_row _ _ _ _ _ _ hSw.choose_spec.el]; try rfl); have q2 : w.cell? ⟨bp, 2, none⟩ = some (.int .i64 pu) := (by rw [cell_of_row _ _ _ _ _ _ hSw.choose_spec.el]; try rfl); go_simp; try with_reducible rfl
                  (try simp only [Act.put, List.setIfInBounds_toArray, List.set_cons_zero, List.set_cons_succ])
                  refine wpAnyH_take (i := 1) (oi := { dst := some 87, op := Op.move (Operand.tmp 13), type := 9, pos := "text.go:42", after := #[], guard := none }) (v := ?_) rfl (by kernel_rfl) (by kernel_rfl) (by kernel_rfl) (fun _ _ _ h => h) (Or.inl ⟨by rfl, ?_⟩) (by assumption) ?_
                  rotate_left
                  · intro w hSw; (try dsimp only at hSw); have q0 : w.cell? ⟨bp, 0, none⟩ = some (.int .i64 (P : Int)) := (by rw [cell_of_row _ _ _ _ _ _ hSw.choose_spec.el]; try rfl); have q1 : w.cell? ⟨bp, 1, none⟩ = some (.int .i64 pg) := (by rw [cell_of_row _ _ _ _ _ _ hSw.choose_spec.el]; try rfl); have q2 : w.cell? ⟨bp, 2, none⟩ = some (.int .i64 pu) := (by rw [cell_of_row _ _ _ _ _ _ hSw.choose_spec.el]; try rfl); go_simp; try with_reducible rfl
                  (try simp only [Act.put, List.setIfInBounds_toArray, List.set_cons_zero, List.set_cons_succ])
                  refine wpAnyH_take (i := 2) (oi := { dst := some 88, op := Op.fieldAddr 66 (Operand.tmp 12) 1, type := 0, pos := "text.go:42", after := #[], guard := none }) (v := ?_) rfl (by kernel_rfl) (by kernel_rfl) (by kernel_rfl) (fun _ _ _ h => h) (Or.inl ⟨by rfl, ?_⟩) (by assumption) ?_
                  rotate_left
                  · intro w hSw; (try dsimp only at hSw); have q0 : w.cell? ⟨bp, 0, none⟩ = some (.int .i64 (P : Int)) := (by rw [cell_of_row _ _ _ _ _ _ hSw.choose_spec.el]; try rfl); have q1 : w.cell? ⟨bp, 1, none⟩ = some (.int .i64 pg) := (by rw [cell_of_row _ _ _ _ _ _ hSw.choose_spec.el]; try rfl); have q2 : w.cell? ⟨bp, 2, none⟩ = some (.int .i64 pu) := (by rw [cell_of_row _ _ _ _ _ _ hSw.choose_spec.el]; try rfl); go_simp; try with_reducible rfl
                  (try simp only [Act.put, List.setIfInBounds_toArray, List.set_cons_zero, List.set_cons_succ])
                  refine wpAnyH_take (i := 3) (oi := { dst := some 89, op := Op.load 3 (Operand.tmp 88), type := 3, pos := "text.go:42", after := #[{ on := 2, ground := Ground.data }], guard := none }) (v := ?_) rfl (by kernel_rfl) (by kernel_rfl) (by kernel_rfl) (fun _ _ _ h => h) (Or.inl ⟨by rfl, ?_⟩) (by assumption) ?_
                  rotate_left
                  · intro w hSw; (try dsimp only at hSw); have q0 : w.cell? ⟨bp, 0, none⟩ = some (.int .i64 (P : Int)) := (by rw [cell_of_row _ _ _ _ _ _ hSw.choose_spec.el]; try rfl); have q1 : w.cell? ⟨bp, 1, none⟩ = some (.int .i64 pg) := (by rw [cell_of_row _ _ _ _ _ _ hSw.choose_spec.el]; try rfl); have q2 : w.cell? ⟨bp, 2, none⟩ = some (.int .i64 pu) := (by rw [cell_of_row _ _ _ _ _ _ hSw.choose_spec.el]; try rfl); go_simp; try with_reducible rfl
                  (try simp only [Act.put, List.setIfInBounds_toArray, List.set_cons_zero, List.set_cons_succ])
                  refine wpAnyH_take (i := 5) (oi := { dst := some 91, op := Op.fieldAddr 66 (Operand.tmp 12) 2, type := 0, pos := "text.go:42", after := #[], guard := none }) (v := ?_) rfl (by kernel_rfl) (by kernel_rfl) (by kernel_rfl) (fun _ _ _ h => h) (Or.inl ⟨by rfl, ?_⟩) (by assumption) ?_
                  rotate_left
                  · intro w hSw; (try dsimp only at hSw); have q0 : w.cell? ⟨bp, 0, none⟩ = some (.int .i64 (P : Int)) := (by rw [cell_of_row _ _ _ _ _ _ hSw.choose_spec.el]; try rfl); have q1 : w.cell? ⟨bp, 1, none⟩ = some (.int .i64 pg) := (by rw [cell_of_row _ _ _ _ _ _ hSw.choose_spec.el]; try rfl); have q2 : w.cell? ⟨bp, 2, none⟩ = some (.int .i64 pu) := (by rw [cell_of_row _ _ _ _ _ _ hSw.choose_spec.el]; try rfl); go_simp; try with_reducible rfl
                  (try simp only [Act.put, List.setIfInBounds_toArray, List.set_cons_zero, List.set_cons_succ])
                  refine wpAnyH_take (i := 6) (oi := { dst := some 92, op := Op.load 3 (Operand.tmp 91), type := 3, pos := "text.go:42", after := #[{ on := 5, ground := Ground.data }], guard := none }) (v := ?_) rfl (by kernel_rfl) (by kernel_rfl) (by kernel_rfl) (fun _ _ _ h => h) (Or.inl ⟨by rfl, ?_⟩) (by assumption) ?_
                  rotate_left
                  · intro w hSw; (try dsimp only at hSw); have q0 : w.cell? ⟨bp, 0, none⟩ = some (.int .i64 (P : Int)) := (by rw [cell_of_row _ _ _ _ _ _ hSw.choose_spec.el]; try rfl); have q1 : w.cell? ⟨bp, 1, none⟩ = some (.int .i64 pg) := (by rw [cell_of_row _ _ _ _ _ _ hSw.choose_spec.el]; try rfl); have q2 : w.cell? ⟨bp, 2, none⟩ = some (.int .i64 pu) := (by rw [cell_of_row _ _ _ _ _ _ hSw.choose_spec.el]; try rfl); go_simp; try with_reducible rfl
                  (try simp only [Act.put, List.setIfInBounds_toArray, List.set_cons_zero, List.set_cons_succ])
                  refine wpAnyH_ready (rs := [4]) (by kernel_rfl) (by simp) ?_
                  refine AllReadyH.cons (o := { dst := some 90, op := Op.call { callee := Callee.value (Operand.func 24), args := #[Operand.tmp 89], argTypes := #[3] }, type := 9, pos := "text.go:42", after := #[{ on := 3, ground := Ground.data }], guard := none }) rfl (fun K hK => ?_) AllReadyH.nil
                  go_simp
                  refine (Dpg.out _ FWc.out.fr.below).mono ?_
                  rintro e5 w5 ⟨rfl, hb⟩
                  replace FWc := Lib.hid (FWc.out.keep hb)
                  clear hb
                  refine hK.out _ _ ?_ (fun hHeld => ?_)
                  · exact ⟨_, FWc.out⟩
                  clear hK K
                  (try simp only [Act.put, List.setIfInBounds_toArray, List.set_cons_zero, List.set_cons_succ])
                  refine wpAnyH_ready (rs := [7]) (by kernel_rfl) (by simp) ?_
                  refine AllReadyH.cons (o := { dst := some 93, op := Op.call { callee := Callee.value (Operand.func 24), args := #[Operand.tmp 92], argTypes := #[3] }, type := 9, pos := "text.go:42", after := #[{ on := 6, ground := Ground.data }, { on := 4, ground := Ground.chain }], guard := none }) rfl (fun K hK => ?_) AllReadyH.nil
                  go_simp
                  refine (Dpu.out _ FWc.out.fr.below).mono ?_
                  rintro e5 w5 ⟨rfl, hb⟩
                  replace FWc := Lib.hid (FWc.out.keep hb)
                  clear hb
                  refine hK.out _ _ ?_ (fun hHeld => ?_)
                  · exact ⟨_, FWc.out⟩
                  clear hK K
                  (try simp only [Act.put, List.setIfInBounds_toArray, List.set_cons_zero, List.set_cons_succ])
                  refine wpAnyH_ready (rs := [8]) (by kernel_rfl) (by simp) ?_
                  refine AllReadyH.cons (o := { dst := some 94, op := Op.buildSlice 51 4 #[(0, Operand.const (Value.string { data := #[99, 97, 112] })), (1, Operand.tmp 87), (2, Operand.tmp 90), (3, Operand.tmp 93)], type := 51, pos := "text.go:42", after := #[{ on := 1, ground := Ground.data }, { on := 4, ground := Ground.data }, { on := 7, ground := Ground.data }], guard := none }) rfl (fun K hK => ?_) AllReadyH.nil
                  go_simp
                  refine hK.out _ _ ?_ (fun hHeld => ?_)
                  · exact ⟨_, FWc.out.alloc _⟩
                  clear hK K
                  (try simp only [Act.put, List.setIfInBounds_toArray, List.set_cons_zero, List.set_cons_succ])
                  refine wpAnyH_ready (rs := [9]) (by kernel_rfl) (by simp) ?_
                  refine AllReadyH.cons (o := { dst := some 95, op := Op.call { callee := Callee.value (Operand.tmp 86), args := #[Operand.tmp 94], argTypes := #[51] }, type := 0, pos := "text.go:42", after := #[{ on := 0, ground := Ground.data }, { on := 8, ground := Ground.data }, { on := 7, ground := Ground.chain }], guard := none }) rfl (fun K hK => ?_) AllReadyH.nil
                  go_simp
                  refine (write_any Bb _ 4 _ [MU.wCap, qn, MU.num pg, MU.num pu] _ (FWc.out.alloc _).fr.bld (heap_new _ _) rfl (by decide) (Nat.le_trans LE.out (by omega))).mono ?_
                  rintro e7 w7 ⟨rfl, hbl, hon⟩
                  rw [ST.out] at hbl
                  have FWe := (FWc.out.alloc _).wrote hbl hon (fun c fz e => by injection e with _ e2 _; revert e2; decide)
                  have HR := Lib.hid FWe.fr
                  clear hbl hon
                  refine hK.out _ _ ?_ (fun hHeld => ?_)
                  · exact ⟨_, FWe⟩
                  clear FWe
                  clear hK K
                  (try simp only [Act.put, List.setIfInBounds_toArray, List.set_cons_zero, List.set_cons_succ])
                  refine wpAnyH_done (by kernel_rfl) ?_ _
                  clear FWc hHeld
                  go_wp2
                  go_roundw
                  case rel => exact ⟨k + 1, by omega, by go_num, HR⟩
                  case measure => simp [intOf]; omega
              · obtain rfl : n3 = k := by omega
                have F3 := Lib.hid (show Fr w (.slice A1 n1 c1) (.slice A2 n2 c2) (.slice A3 n3 c3) (.slice A4 n4 c4) Bb P3 wr by have := HF.out; rwa [MU.TX_end (by rw [HL3.out]; exact Nat.le_refl _), HP3.out] at this)
                clear HF x0 x1 x2 x3
                obtain ⟨wq2, hwq⟩ : ∃ wq : World, wq = wr := ⟨_, rfl⟩
                rw [← hwq] at F3 ⊢
                clear hwq
                obtain ⟨x0, x1, x2, x3⟩ := F3.out.box.cells
                go_wp2
                go_loopw [100] (fun i wr => ∃ k : Nat, k ≤ n4 ∧ i = .int .i64 k ∧ Hid (Fr w (.slice A1 n1 c1) (.slice A2 n2 c2) (.slice A3 n3 c3) (.slice A4 n4 c4) Bb (MU.TX P3 (MU.asW s) s.as_ k) wr)) (fun i _ => n4 - (intOf i).toNat)
                case atStart => exact ⟨0, Nat.zero_le _, rfl, Lib.hid (by rw [MU.TX_zero]; exact F3.out)⟩
                case round =>
                  obtain ⟨k, hk, rfl, HF⟩ := hrel
                  clear F3 x0 x1 x2 x3
                  obtain ⟨x0, x1, x2, x3⟩ := HF.out.box.cells
                  by_cases hlt : k < n4
                  · obtain ⟨ad, p, rfl, q1, hfi, hbk, y0, y1, y2⟩ := asd_at (H.out.as_.keep HF.out.below) hlt
                    have hgd := GS.out.asides k p q1
                    have ST := Lib.hid (MU.TX_step (pre := P3) (f := MU.asW s) q1)
                    have LE := Lib.hid (MU.TX_le (pre := P3) (f := MU.asW s) q1)
                    rw [HP4.out] at LE
                    have h4 : MC.of (·.supply) s.ps p.product.toNat ≤ 4 := MU.sup_le (MC.chk_good GS.out.ps) (by omega)
                    obtain ⟨h2, h3⟩ := hgd
                    obtain ⟨pb, pg, pu⟩ := p
                    simp only at *
                    obtain ⟨P, rfl⟩ := Int.eq_ofNat_of_zero_le (show 0 ≤ pb by omega)
                    have hP : P < n1 := by have := h2.2; rw [HL1.out] at this; omega
                    have hP' : (P : Int) < (n1 : Int) := by omega
                    obtain ⟨ad1, pq, e1, q2, _⟩ := H.out.ps.at_ hP
                    subst e1
                    have HZ := Lib.hid (fun W (hb : Below w.heap.size w W) => (show W.cell? (ad1.add (P * 5)) = some (.string (str pq.name)) by
                      obtain ⟨ad1', pq', e1', q2', hbk', z0, _⟩ := (H.out.ps.keep hb).at_ hP
                      injection e1' with e1'
                      subst e1'
                      rw [q2] at q2'
                      injection q2' with q2'
                      subst q2'
                      exact z0))
                    have HW : MU.asW s ⟨(P : Int), pg, pu⟩ = [MU.wAside, pq.name, MU.num pg, MU.num pu] := by
                      unfold MU.asW MU.asName
                      show [MU.wAside, ((s.ps[(P : Int).toNat]?).map (·.name)).getD [], MU.num pg, MU.num pu] = _
                      rw [Int.toNat_natCast, q2]; rfl
                    rw [HW] at ST LE
                    have FW0 := Lib.hid (show Fw w (.slice (some ad1) n1 c1) (.slice A2 n2 c2) (.slice A3 n3 c3) (.slice (some ad) n4 c4) Bb (MU.TX P3 (MU.asW s) s.as_ k) wr.heap.size (.cells #[.int .i64 (P : Int), .int .i64 pg, .int .i64 pu] 68 (0, 0)) (wr.alloc (.cells #[.int .i64 (P : Int), .int .i64 pg, .int .i64 pu] 68)) from ⟨HF.out.keep (below_new _ _), heap_new _ _, HF.out.bld.lt⟩)
                    clear q1 hbk hfi HF HW q2
                    obtain ⟨qn, qs, qr, qp, qg⟩ := pq
                    simp only at *
                    have Dpg := Lib.hid (fun W hb => DI.out pg W hb (by omega) (by omega))
                    have Dpu := Lib.hid (fun W hb => DI.out pu W hb (by omega) (by omega))
                    clear h3 h2 h4
                    go_upto_region 27 with (fail)
                    obtain ⟨X, hX⟩ : ∃ X, X = wr.alloc (.cells #[.int .i64 (P : Int), .int .i64 pg, .int .i64 pu] 68) := ⟨_, rfl⟩
                    rw [← hX] at FW0 ⊢
                    generalize hbp : wr.heap.size = bp at *
                    clear hX hbp x0 x1 x2 x3 y0 y1 y2
                    have FWc := Lib.hid (FW0.out.keep (below_drawn X))
                    clear FW0
                    refine wp_region_held_drew (S := fun w' => ∃ t, Fw w (.slice (some ad1) n1 c1) (.slice A2 n2 c2) (.slice A3 n3 c3) (.slice (some ad) n4 c4) Bb t bp (.cells #[.int .i64 (P : Int), .int .i64 pg, .int .i64 pu] 68 (0, 0)) w') (by kernel_rfl) ⟨_, FWc.out⟩ (fun hHeld => ?_)
                    refine wpAnyH_take (i := 0) (oi := { dst := some 104, op := Op.move (Operand.tmp 6), type := 58, pos := "text.go:45", after := #[], guard := none }) (v := ?_) rfl (by kernel_rfl) (by kernel_rfl) (by kernel_rfl) (fun _ _ _ h => h) (Or.inl ⟨by rfl, ?_⟩) (by assumption) ?_
                    rotate_left
                    · intro w hSw; (try dsimp only at hSw); have q0 : w.cell? ⟨bp, 0, none⟩ = some (.int .i64 (P : Int)) := (by rw [cell_of_row _ _ _ _ _ _ hSw.choose_spec.el]; try rfl); have q1 : w.cell? ⟨bp, 1, none⟩ = some (.int .i64 pg) := (by rw [cell_of_row _ _ _ _ _ _ hSw.choose_spec.el]; try rfl); have q2 : w.cell? ⟨bp, 2, none⟩ = some (.int .i64 pu) := (by rw [cell_of_row _ _ _ _ _ _ hSw.choose_spec.el]; try rfl); have z1 := HZ.out _ hSw.choose_spec.fr.below; have x0 := (hSw.choose_spec.fr.box.cells).1; go_simp; try with_reducible rfl
                    (try simp only [Act.put, List.setIfInBounds_toArray, List.set_cons_zero, List.set_cons_succ])
                    refine wpAnyH_take (i := 1) (oi := { dst := some 105, op := Op.fieldAddr 27 (Operand.tmp 1) 0, type := 0, pos := "text.go:45", after := #[], guard := none }) (v := ?_) rfl (by kernel_rfl) (by kernel_rfl) (by kernel_rfl) (fun _ _ _ h => h) (Or.inl ⟨by rfl, ?_⟩) (by assumption) ?_
                    rotate_left
                    · intro w hSw; (try dsimp only at hSw); have q0 : w.cell? ⟨bp, 0, none⟩ = some (.int .i64 (P : Int)) := (by rw [cell_of_row _ _ _ _ _ _ hSw.choose_spec.el]; try rfl); have q1 : w.cell? ⟨bp, 1, none⟩ = some (.int .i64 pg) := (by rw [cell_of_row _ _ _ _ _ _ hSw.choose_spec.el]; try rfl); have q2 : w.cell? ⟨bp, 2, none⟩ = some (.int .i64 pu) := (by rw [cell_of_row _ _ _ _ _ _ hSw.choose_spec.el]; try rfl); have z1 := HZ.out _ hSw.choose_spec.fr.below; have x0 := (hSw.choose_spec.fr.box.cells).1; go_simp; try with_reducible rfl
                    (try simp only [Act.put, List.setIfInBounds_toArray, List.set_cons_zero, List.set_cons_succ])
                    refine wpAnyH_take (i := 2) (oi := { dst := some 106, op := Op.load 22 (Operand.tmp 105), type := 22, pos := "text.go:45", after := #[{ on := 1, ground := Ground.data }], guard := none }) (v := ?_) rfl (by kernel_rfl) (by kernel_rfl) (by kernel_rfl) (fun _ _ _ h => h) (Or.inl ⟨by rfl, ?_⟩) (by assumption) ?_
                    rotate_left
                    · intro w hSw; (try dsimp only at hSw); have q0 : w.cell? ⟨bp, 0, none⟩ = some (.int .i64 (P : Int)) := (by rw [cell_of_row _ _ _ _ _ _ hSw.choose_spec.el]; try rfl); have q1 : w.cell? ⟨bp, 1, none⟩ = some (.int .i64 pg) := (by rw [cell_of_row _ _ _ _ _ _ hSw.choose_spec.el]; try rfl); have q2 : w.cell? ⟨bp, 2, none⟩ = some (.int .i64 pu) := (by rw [cell_of_row _ _ _ _ _ _ hSw.choose_spec.el]; try rfl); have z1 := HZ.out _ hSw.choose_spec.fr.below; have x0 := (hSw.choose_spec.fr.box.cells).1; go_simp; try with_reducible rfl
                    (try simp only [Act.put, List.setIfInBounds_toArray, List.set_cons_zero, List.set_cons_succ])
                    refine wpAnyH_take (i := 3) (oi := { dst := some 107, op := Op.fieldAddr 68 (Operand.tmp 15) 0, type := 0, pos := "text.go:45", after := #[], guard := none }) (v := ?_) rfl (by kernel_rfl) (by kernel_rfl) (by kernel_rfl) (fun _ _ _ h => h) (Or.inl ⟨by rfl, ?_⟩) (by assumption) ?_
                    rotate_left
                    · intro w hSw; (try dsimp only at hSw); have q0 : w.cell? ⟨bp, 0, none⟩ = some (.int .i64 (P : Int)) := (by rw [cell_of_row _ _ _ _ _ _ hSw.choose_spec.el]; try rfl); have q1 : w.cell? ⟨bp, 1, none⟩ = some (.int .i64 pg) := (by rw [cell_of_row _ _ _ _ _ _ hSw.choose_spec.el]; try rfl); have q2 : w.cell? ⟨bp, 2, none⟩ = some (.int .i64 pu) := (by rw [cell_of_row _ _ _ _ _ _ hSw.choose_spec.el]; try rfl); have z1 := HZ.out _ hSw.choose_spec.fr.below; have x0 := (hSw.choose_spec.fr.box.cells).1; go_simp; try with_reducible rfl
                    (try simp only [Act.put, List.setIfInBounds_toArray, List.set_cons_zero, List.set_cons_succ])
                    refine wpAnyH_take (i := 4) (oi := { dst := some 108, op := Op.load 3 (Operand.tmp 107), type := 3, pos := "text.go:45", after := #[{ on := 3, ground := Ground.data }], guard := none }) (v := ?_) rfl (by kernel_rfl) (by kernel_rfl) (by kernel_rfl) (fun _ _ _ h => h) (Or.inl ⟨by rfl, ?_⟩) (by assumption) ?_
                    rotate_left
                    · intro w hSw; (try dsimp only at hSw); have q0 : w.cell? ⟨bp, 0, none⟩ = some (.int .i64 (P : Int)) := (by rw [cell_of_row _ _ _ _ _ _ hSw.choose_spec.el]; try rfl); have q1 : w.cell? ⟨bp, 1, none⟩ = some (.int .i64 pg) := (by rw [cell_of_row _ _ _ _ _ _ hSw.choose_spec.el]; try rfl); have q2 : w.cell? ⟨bp, 2, none⟩ = some (.int .i64 pu) := (by rw [cell_of_row _ _ _ _ _ _ hSw.choose_spec.el]; try rfl); have z1 := HZ.out _ hSw.choose_spec.fr.below; have x0 := (hSw.choose_spec.fr.box.cells).1; go_simp; try with_reducible rfl
                    (try simp only [Act.put, List.setIfInBounds_toArray, List.set_cons_zero, List.set_cons_succ])
                    refine wpAnyH_take (i := 5) (oi := { dst := some 109, op := Op.indexAddr 22 (Operand.tmp 106) (Operand.tmp 108), type := 0, pos := "text.go:45", after := #[{ on := 2, ground := Ground.data }, { on := 4, ground := Ground.data }], guard := none }) (v := ?_) rfl (by kernel_rfl) (by kernel_rfl) (by kernel_rfl) (fun _ _ _ h => h) (Or.inl ⟨by rfl, ?_⟩) (by assumption) ?_
                    rotate_left
                    · intro w hSw; (try dsimp only at hSw); have q0 : w.cell? ⟨bp, 0, none⟩ = some (.int .i64 (P : Int)) := (by rw [cell_of_row _ _ _ _ _ _ hSw.choose_spec.el]; try rfl); have q1 : w.cell? ⟨bp, 1, none⟩ = some (.int .i64 pg) := (by rw [cell_of_row _ _ _ _ _ _ hSw.choose_spec.el]; try rfl); have q2 : w.cell? ⟨bp, 2, none⟩ = some (.int .i64 pu) := (by rw [cell_of_row _ _ _ _ _ _ hSw.choose_spec.el]; try rfl); have z1 := HZ.out _ hSw.choose_spec.fr.below; have x0 := (hSw.choose_spec.fr.box.cells).1; go_simp; try with_reducible rfl
                    (try simp only [Act.put, List.setIfInBounds_toArray, List.set_cons_zero, List.set_cons_succ])
                    refine wpAnyH_take (i := 6) (oi := { dst := some 110, op := Op.fieldAddr 60 (Operand.tmp 109) 0, type := 0, pos := "text.go:45", after := #[{ on := 5, ground := Ground.data }], guard := none }) (v := ?_) rfl (by kernel_rfl) (by kernel_rfl) (by kernel_rfl) (fun _ _ _ h => h) (Or.inl ⟨by rfl, ?_⟩) (by assumption) ?_
                    rotate_left
                    · intro w hSw; (try dsimp only at hSw); have q0 : w.cell? ⟨bp, 0, none⟩ = some (.int .i64 (P : Int)) := (by rw [cell_of_row _ _ _ _ _ _ hSw.choose_spec.el]; try rfl); have q1 : w.cell? ⟨bp, 1, none⟩ = some (.int .i64 pg) := (by rw [cell_of_row _ _ _ _ _ _ hSw.choose_spec.el]; try rfl); have q2 : w.cell? ⟨bp, 2, none⟩ = some (.int .i64 pu) := (by rw [cell_of_row _ _ _ _ _ _ hSw.choose_spec.el]; try rfl); have z1 := HZ.out _ hSw.choose_spec.fr.below; have x0 := (hSw.choose_spec.fr.box.cells).1; go_simp; try with_reducible rfl
                    (try simp only [Act.put, List.setIfInBounds_toArray, List.set_cons_zero, List.set_cons_succ])
                    refine wpAnyH_take (i := 7) (oi := { dst := some 111, op := Op.load 9 (Operand.tmp 110), type := 9, pos := "text.go:45", after := #[{ on := 6, ground := Ground.data }], guard := none }) (v := ?_) rfl (by kernel_rfl) (by kernel_rfl) (by kernel_rfl) (fun _ _ _ h => h) (Or.inl ⟨by rfl, ?_⟩) (by assumption) ?_
                    rotate_left
                    · intro w hSw; (try dsimp only at hSw); have q0 : w.cell? ⟨bp, 0, none⟩ = some (.int .i64 (P : Int)) := (by rw [cell_of_row _ _ _ _ _ _ hSw.choose_spec.el]; try rfl); have q1 : w.cell? ⟨bp, 1, none⟩ = some (.int .i64 pg) := (by rw [cell_of_row _ _ _ _ _ _ hSw.choose_spec.el]; try rfl); have q2 : w.cell? ⟨bp, 2, none⟩ = some (.int .i64 pu) := (by rw [cell_of_row _ _ _ _ _ _ hSw.choose_spec.el]; try rfl); have z1 := HZ.out _ hSw.choose_spec.fr.below; have x0 := (hSw.choose_spec.fr.box.cells).1; go_simp; try with_reducible rfl
                    (try simp only [Act.put, List.setIfInBounds_toArray, List.set_cons_zero, List.set_cons_succ])
                    refine wpAnyH_take (i := 8) (oi := { dst := some 112, op := Op.fieldAddr 68 (Operand.tmp 15) 1, type := 0, pos := "text.go:45", after := #[], guard := none }) (v := ?_) rfl (by kernel_rfl) (by kernel_rfl) (by kernel_rfl) (fun _ _ _ h => h) (Or.inl ⟨by rfl, ?_⟩) (by assumption) ?_
                    rotate_left
                    · intro w hSw; (try dsimp only at hSw); have q0 : w.cell? ⟨bp, 0, none⟩ = some (.int .i64 (P : Int)) := (by rw [cell_of_row _ _ _ _ _ _ hSw.choose_spec.el]; try rfl); have q1 : w.cell? ⟨bp, 1, none⟩ = some (.int .i64 pg) := (by rw [cell_of_row _ _ _ _ _ _ hSw.choose_spec.el]; try rfl); have q2 : w.cell? ⟨bp, 2, none⟩ = some (.int .i64 pu) := (by rw [cell_of_row _ _ _ _ _ _ hSw.choose_spec.el]; try rfl); have z1 := HZ.out _ hSw.choose_spec.fr.below; have x0 := (hSw.choose_spec.fr.box.cells).1; go_simp; try with_reducible rfl
                    (try simp only [Act.put, List.setIfInBounds_toArray, List.set_cons_zero, List.set_cons_succ])
                    refine wpAnyH_take (i := 9) (oi := { dst := some 113, op := Op.load 3 (Operand.tmp 112), type := 3, pos := "text.go:45", after := #[{ on := 8, ground := Ground.data }], guard := none }) (v := ?_) rfl (by kernel_rfl) (by kernel_rfl) (by kernel_rfl) (fun _ _ _ h => h) (Or.inl ⟨by rfl, ?_⟩) (by assumption) ?_
                    rotate_left
                    · intro w hSw; (try dsimp only at hSw); have q0 : w.cell? ⟨bp, 0, none⟩ = some (.int .i64 (P : Int)) := (by rw [cell_of_row _ _ _ _ _ _ hSw.choose_spec.el]; try rfl); have q1 : w.cell? ⟨bp, 1, none⟩ = some (.int .i64 pg) := (by rw [cell_of_row _ _ _ _ _ _ hSw.choose_spec.el]; try rfl); have q2 : w.cell? ⟨bp, 2, none⟩ = some (.int .i64 pu) := (by rw [cell_of_row _ _ _ _ _ _ hSw.choose_spec.el]; try rfl); have z1 := HZ.out _ hSw.choose_spec.fr.below; have x0 := (hSw.choose_spec.fr.box.cells).1; go_simp; try with_reducible rfl
                    (try simp only [Act.put, List.setIfInBounds_toArray, List.set_cons_zero, List.set_cons_succ])
                    refine wpAnyH_take (i := 11) (oi := { dst := some 115, op := Op.fieldAddr 68 (Operand.tmp 15) 2, type := 0, pos := "text.go:45", after := #[], guard := none }) (v := ?_) rfl (by kernel_rfl) (by kernel_rfl) (by kernel_rfl) (fun _ _ _ h => h) (Or.inl ⟨by rfl, ?_⟩) (by assumption) ?_
                    rotate_left
                    · intro w hSw; (try dsimp only at hSw); have q0 : w.cell? ⟨bp, 0, none⟩ = some (.int .i64 (P : Int)) := (by rw [cell_of_row _ _ _ _ _ _ hSw.choose_spec.el]; try rfl); have q1 : w.cell? ⟨bp, 1, none⟩ = some (.int .i64 pg) := (by rw [cell_of_row _ _ _ _ _ _ hSw.choose_spec.el]; try rfl); have q2 : w.cell? ⟨bp, 2, none⟩ = some (.int .i64 pu) := (by rw [cell_of_row _ _ _ _ _ _ hSw.choose_spec.el]; try rfl); have z1 := HZ.out _ hSw.choose_spec.fr.below; have x0 := (hSw.choose_spec.fr.box.cells).1; go_simp; try with_reducible rfl
                    (try simp only [Act.put, List.setIfInBounds_toArray, List.set_cons_zero, List.set_cons_succ])
                    refine wpAnyH_take (i := 12) (oi := { dst := some 116, op := Op.load 3 (Operand.tmp 115), type := 3, pos := "text.go:45", after := #[{ on := 11, ground := Ground.data }], guard := none }) (v := ?_) rfl (by kernel_rfl) (by kernel_rfl) (by kernel_rfl) (fun _ _ _ h => h) (Or.inl ⟨by rfl, ?_⟩) (by assumption) ?_
                    rotate_left
                    · intro w hSw; (try dsimp only at hSw); have q0 : w.cell? ⟨bp, 0, none⟩ = some (.int .i64 (P : Int)) := (by rw [cell_of_row _ _ _ _ _ _ hSw.choose_spec.el]; try rfl); have q1 : w.cell? ⟨bp, 1, none⟩ = some (.int .i64 pg) := (by rw [cell_of_row _ _ _ _ _ _ hSw.choose_spec.el]; try rfl); have q2 : w.cell? ⟨bp, 2, none⟩ = some (.int .i64 pu) := (by rw [cell_of_row _ _ _ _ _ _ hSw.choose_spec.el]; try rfl); have z1 := HZ.out _ hSw.choose_spec.fr.below; have x0 := (hSw.choose_spec.fr.box.cells).1; go_simp; try with_reducible rfl
                    (try simp only [Act.put, List.setIfInBounds_toArray, List.set_cons_zero, List.set_cons_succ])
                    refine wpAnyH_ready (rs := [10]) (by kernel_rfl) (by simp) ?_
                    refine AllReadyH.cons (o := { dst := some 114, op := Op.call { callee := Callee.value (Operand.func 24), args := #[Operand.tmp 113], argTypes := #[3] }, type := 9, pos := "text.go:45", after := #[{ on := 9, ground := Ground.data }], guard := none }) rfl (fun K hK => ?_) AllReadyH.nil
                    go_simp
                    refine (Dpg.out _ FWc.out.fr.below).mono ?_
                    rintro e5 w5 ⟨rfl, hb⟩
                    replace FWc := Lib.hid (FWc.out.keep hb)
                    clear hb
                    refine hK.out _ _ ?_ (fun hHeld => ?_)
                    · exact ⟨_, FWc.out⟩
                    clear hK K
                    (try simp only [Act.put, List.setIfInBounds_toArray, List.set_cons_zero, List.set_cons_succ])
                    refine wpAnyH_ready (rs := [13]) (by kernel_rfl) (by simp) ?_
                    refine AllReadyH.cons (o := { dst := some 117, op := Op.call { callee := Callee.value (Operand.func 24), args := #[Operand.tmp 116], argTypes := #[3] }, type := 9, pos := "text.go:45", after := #[{ on := 12, ground := Ground.data }, { on := 10, ground := Ground.chain }], guard := none }) rfl (fun K hK => ?_) AllReadyH.nil
                    go_simp
                    refine (Dpu.out _ FWc.out.fr.below).mono ?_
                    rintro e5 w5 ⟨rfl, hb⟩
                    replace FWc := Lib.hid (FWc.out.keep hb)
                    clear hb
                    refine hK.out _ _ ?_ (fun hHeld => ?_)
                    · exact ⟨_, FWc.out⟩
                    clear hK K
                    (try simp only [Act.put, List.setIfInBounds_toArray, List.set_cons_zero, List.set_cons_succ])
                    refine wpAnyH_ready (rs := [14]) (by kernel_rfl) (by simp) ?_
                    refine AllReadyH.cons (o := { dst := some 118, op := Op.buildSlice 51 4 #[(0, Operand.const (Value.string { data := #[97, 115, 105, 100, 101] })), (1, Operand.tmp 111), (2, Operand.tmp 114), (3, Operand.tmp 117)], type := 51, pos := "text.go:45", after := #[{ on := 7, ground := Ground.data }, { on := 10, ground := Ground.data }, { on := 13, ground := Ground.data }], guard := none }) rfl (fun K hK => ?_) AllReadyH.nil
                    go_simp
                    refine hK.out _ _ ?_ (fun hHeld => ?_)
                    · exact ⟨_, FWc.out.alloc _⟩
                    clear hK K
                    (try simp only [Act.put, List.setIfInBounds_toArray, List.set_cons_zero, List.set_cons_succ])
                    refine wpAnyH_ready (rs := [15]) (by kernel_rfl) (by simp) ?_
                    refine AllReadyH.cons (o := { dst := some 119, op := Op.call { callee := Callee.value (Operand.tmp 104), args := #[Operand.tmp 118], argTypes := #[51] }, type := 0, pos := "text.go:45", after := #[{ on := 0, ground := Ground.data }, { on := 14, ground := Ground.data }, { on := 13, ground := Ground.chain }], guard := none }) rfl (fun K hK => ?_) AllReadyH.nil
                    go_simp
                    refine (write_any Bb _ 4 _ [MU.wAside, qn, MU.num pg, MU.num pu] _ (FWc.out.alloc _).fr.bld (heap_new _ _) rfl (by decide) (Nat.le_trans LE.out (by omega))).mono ?_
                    rintro e7 w7 ⟨rfl, hbl, hon⟩
                    rw [ST.out] at hbl
                    have FWe := (FWc.out.alloc _).wrote hbl hon (fun c fz e => by injection e with _ e2 _; revert e2; decide)
                    have HR := Lib.hid FWe.fr
                    clear hbl hon
                    refine hK.out _ _ ?_ (fun hHeld => ?_)
                    · exact ⟨_, FWe⟩
                    clear FWe
                    clear hK K
                    (try simp only [Act.put, List.setIfInBounds_toArray, List.set_cons_zero, List.set_cons_succ])
                    refine wpAnyH_done (by kernel_rfl) ?_ _
                    clear FWc hHeld
                    go_wp2
                    go_roundw
                    case rel => exact ⟨k + 1, by omega, by go_num, HR⟩
                    case measure => simp [intOf]; omega
                  · obtain rfl : n4 = k := by omega
                    have F4 := Lib.hid (show Fr w (.slice A1 n1 c1) (.slice A2 n2 c2) (.slice A3 n3 c3) (.slice A4 n4 c4) Bb P4 wr by have := HF.out; rwa [MU.TX_end (by rw [HL4.out]; exact Nat.le_refl _), HP4.out] at this)
                    have SA := Lib.hid (string_any Bb P4 wr F4.out.bld (Nat.le_of_lt F4.out.bld.lt))
                    clear HF x0 x1 x2 x3
                    go_wp2_with fail
                    refine SA.out.mono ?_
                    rintro e9 w9 ⟨rfl, hbl, hon⟩
                    have B9 := Lib.hid (F4.out.below.trans (hon.below.mono (Nat.le_of_lt F4.out.sep)))
                    clear hbl hon F4 SA
                    go_wp2
                    exact bodyPost_ret (v := .tuple #[.string (str P4), .int .i64 0]) (by simp [results, Tryz.results8, go_sem]) rfl ⟨G4.out, B9.out⟩
  · have hne : (er != 0) = true := bne_iff_ne.2 h1
    have G := Lib.hid (ret_fmt (s := s) (t := []) (e := er) (by unfold MU.fmtS; rw [if_pos (by rw [HE.out]; exact h1), HE.out]))
    clear DI DL
    go_wp2
    exact bodyPost_ret (v := .tuple #[.string (str []), .int .i64 er]) (by simp [results, Tryz.results8, go_sem]; rfl) rfl ⟨G.out, B1.out⟩
end Go.Proofs.YtigfgeanofccgaaGreatDoor
