/- The law's wants: no claim of its own. -/
import Derived.Test.YtcokplikmjegcaaDoorJQ
namespace Go.Proofs.YtcokplikmjegcaaDoor
open Go.RowKit
open MC (Pr)
open ME (F Nd)
theorem fmt_of_fits {L : List Pr} {b : List Int} (h : MC.Fits L b) : MC.fmtL L b = MC.textL L b := by unfold MC.fmtL; exact if_pos h
set_option maxRecDepth 100000 in
set_option maxHeartbeats 4000000 in
theorem wants_any (A : Option Addr) (n cp : Nat) (L : List Pr) : ∀ (N : Nat) (x : NT), x.size ≤ N → ∀ (w : World) (ok : Nat → Prop), Prs w A n cp L → x.Ok w ok → (∀ z ∈ x.n.pre, MC.Fits L z.b) → Calls Tryd.prog 10 #[.slice A n cp, x.val] w (Gives (.bool true) w) := by
  intro N
  induction N with
  | zero => intro x hx; unfold NT.size at hx; omega
  | succ N ih =>
    intro x hx w ok hp hok hfit
    have IH := Lib.hid ih
    have hsz : x.k.size ≤ N := by unfold NT.size at hx; omega
    clear ih hx
    obtain ⟨o, bb, v, A1, c1, k⟩ := x
    obtain ⟨x0, x1, x2, x3, x4, x5, rfl⟩ := six hok.six
    have hn := hok.kids.few
    have hcap := hok.kids.cap
    dsimp only at hn hcap hsz
    have B0 := Lib.hid (below_new w (.cells #[.int .i64 o, .int .i64 x0, .int .i64 x1, .int .i64 x2, .int .i64 x3, .int .i64 x4, .int .i64 x5, .int .i64 v, .slice A1 k.len c1] 27))
    have X0 : Hid (B9 (w.alloc (.cells #[.int .i64 o, .int .i64 x0, .int .i64 x1, .int .i64 x2, .int .i64 x3, .int .i64 x4, .int .i64 x5, .int .i64 v, .slice A1 k.len c1] 27)) w.heap.size (.int .i64 o) (.int .i64 x0) (.int .i64 x1) (.int .i64 x2) (.int .i64 x3) (.int .i64 x4) (.int .i64 x5) (.int .i64 v) (.slice A1 k.len c1)) := Lib.hid (heap_new _ _)
    have RS0 := Lib.hid ((hok.below B0.out).kids.rest)
    have HF := Lib.hid (fun w' (hb : Below w.heap.size w w') => format_any A n cp L x0 x1 x2 x3 x4 x5 w' (hp.keep hb))
    have HP := Lib.hid hp
    have EQ := Lib.hid (fun z (hz : z ∈ k.f.pre) => hfit z (List.mem_cons_of_mem _ hz))
    have hne : MC.fmtL L [x0, x1, x2, x3, x4, x5] ≠ [] := by
      have hf0 : MC.Fits L [x0, x1, x2, x3, x4, x5] := hfit _ List.mem_cons_self
      rw [show MC.fmtL L [x0, x1, x2, x3, x4, x5] = MC.textL L [x0, x1, x2, x3, x4, x5] from fmt_of_fits hf0]
      exact textL_ne
    rw [NT.val_lit]
    have hst := str_ne hne
    have hst2 : (str (MC.fmtL L [x0, x1, x2, x3, x4, x5])).toList.isEmpty = false := by rw [ByteArray.toList_eq, str_data]; cases h : MC.fmtL L [x0, x1, x2, x3, x4, x5] with | nil => exact absurd h hne | cons a b => rfl
    generalize str (MC.fmtL L [x0, x1, x2, x3, x4, x5]) = stx at *
    clear hne hfit
    clear hok hp
    go_enter Tryd.func10, Tryd.ntmps10
    go_upto_region 1 with (fail)
    obtain ⟨W0, hW0⟩ : ∃ W0, W0 = w.alloc (.cells #[.int .i64 o, .int .i64 x0, .int .i64 x1, .int .i64 x2, .int .i64 x3, .int .i64 x4, .int .i64 x5, .int .i64 v, .slice A1 k.len c1] 27) := ⟨_, rfl⟩
    rw [← hW0] at B0 X0 RS0 ⊢
    clear hW0
    obtain ⟨a0, a1, a2, a3, a4, a5, a6, a7, a8⟩ := X0.out.cells
    go_wp2_with fail
    refine (HF.out _ B0.out).mono ?_
    rintro ev w1 ⟨rfl, hb⟩
    have B1 := Lib.hid (B0.out.trans (hb.mono B0.out.size))
    have X1 := Lib.hid (X0.out.keep hb)
    have RS1 := Lib.hid (RS0.out.below hb)
    clear hb B0 X0 RS0 HF a0 a1 a2 a3 a4 a5 a6 a7 a8
    go_wp2
    go_loopw [5] (fun i wr => ∃ (q : Nat) (rs : FT), q ≤ k.len ∧ rs.size ≤ N ∧ i = .int .i64 q ∧ Hid (Rest wr ok A1 q rs k.len) ∧ Hid (B9 wr w.heap.size (.int .i64 o) (.int .i64 x0) (.int .i64 x1) (.int .i64 x2) (.int .i64 x3) (.int .i64 x4) (.int .i64 x5) (.int .i64 v) (.slice A1 k.len c1)) ∧ Hid (Below w.heap.size w wr) ∧ Hid (∀ z ∈ rs.f.pre, MC.Fits L z.b)) (fun i _ => k.len - (intOf i).toNat)
    case atStart => exact ⟨0, k, Nat.zero_le _, hsz, rfl, RS1, X1, B1, EQ⟩
    case round =>
      clear RS1 X1 B1 EQ hst hst2
      obtain ⟨q, rs, hq, hrs, rfl, RS, XB, HB, HR⟩ := hrel
      obtain ⟨a0, a1, a2, a3, a4, a5, a6, a7, a8⟩ := XB.out.cells
      by_cases hlt : q < k.len
      · have hlt' : (q : Int) < (k.len : Int) := by omega
        obtain ⟨ad, oy, y0, y1, y2, y3, y4, y5, vy, Ay, cy, ky, r', rfl, rfl, hoky, hnx, hbk, _, z0, z1, z2, z3, z4, z5, z6, z7, z8⟩ := RS.out.open_ hlt
        have hs2 : NT.size (⟨oy, [y0, y1, y2, y3, y4, y5], vy, Ay, cy, ky⟩ : NT) ≤ N := by unfold FT.size at hrs; unfold NT.size; show ky.size + 1 ≤ N; omega
        have hr2 : r'.size ≤ N := by unfold FT.size at hrs; omega
        have CW := Lib.hid (IH.out (⟨oy, [y0, y1, y2, y3, y4, y5], vy, Ay, cy, ky⟩ : NT) hs2 wr ok (HP.out.keep HB.out) hoky (fun z hz => HR.out z (by
            rcases List.mem_cons.1 hz with q | q
            · rw [q]; exact List.mem_cons_self
            · exact List.mem_cons_of_mem _ (List.mem_append_left _ q))))
        have HR2 := Lib.hid (fun z (hz : z ∈ r'.f.pre) => HR.out z (List.mem_append_right _ hz |> List.mem_cons_of_mem _))
        have RN := Lib.hid hnx
        rw [NT.val_lit] at CW
        clear hoky hnx HR RS
        go_wp2_with fail
        refine CW.out.mono ?_
        rintro ev w4 ⟨rfl, hb⟩
        have B4 := Lib.hid (HB.out.trans (hb.mono HB.out.size))
        have X4 := Lib.hid (XB.out.keep hb)
        have R4 := Lib.hid (RN.out.below hb)
        clear hb CW HB XB RN a0 a1 a2 a3 a4 a5 a6 a7 a8 z0 z1 z2 z3 z4 z5 z6 z7 z8
        go_wp2
        go_roundw
        case rel => exact ⟨q + 1, r', by omega, hr2, by go_num, R4, X4, B4, HR2⟩
        case measure => simp [intOf]; omega
      · obtain ⟨rfl, _⟩ := RS.out.end_ hlt
        have hlt' : ¬ (q : Int) < (k.len : Int) := by omega
        clear HR RS
        go_wp2
        go_ret
        exact ⟨rfl, HB.out⟩
end Go.Proofs.YtcokplikmjegcaaDoor
