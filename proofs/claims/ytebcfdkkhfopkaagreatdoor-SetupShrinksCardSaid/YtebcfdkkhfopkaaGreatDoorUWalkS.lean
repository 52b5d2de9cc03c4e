/- The walk of SetupShrinks: no claim of its own. -/
import Derived.Test.YtebcfdkkhfopkaaGreatDoorUWalkC
import Derived.Test.YtebcfdkkhfopkaaGreatDoorURFeas
import Derived.Test.YtebcfdkkhfopkaaGreatDoorUSh
import Derived.Test.YtebcfdkkhfopkaaGreatDoorCRSum
namespace Go.Proofs.YtebcfdkkhfopkaaGreatDoor
open Go.RowKit
open MU (Su Cp As)
theorem infoBun : (Tryz.prog.info? 42).map (fun i => (i.zero, i.size, i.bytes)) = some (some (.agg #[.int .i64 0, .int .i64 0, .int .i64 0, .int .i64 0, .int .i64 0, .int .i64 0]), 6, 48) := by kernel_rfl
/-- What lies while the bundles are made smaller. -/
structure Shr (wo : World) (v1 v2 v3 v4 : Value) (g n c : Nat) (l m : List (List Int)) (wr : World) : Prop where
  box : TB wr wo.heap.size 27 v1 v2 v3 v4
  mo : Mo wr g n c m
  less : MU.Less m l
  below : Below wo.heap.size wo wr
  far : wo.heap.size < g
theorem Shr.keep {wo wr wr' : World} {v1 v2 v3 v4 : Value} {g n c : Nat} {l m : List (List Int)} (h : Shr wo v1 v2 v3 v4 g n c l m wr) (hb : Below wr.heap.size wr wr') : Shr wo v1 v2 v3 v4 g n c l m wr' :=
  ⟨h.box.keep hb, h.mo.keep hb, h.less, h.below.trans (hb.mono h.below.size), h.far⟩
theorem Shr.set {wo wr : World} {v1 v2 v3 v4 : Value} {g n c : Nat} {l m : List (List Int)} (h : Shr wo v1 v2 v3 v4 g n c l m wr) {i k : Nat} {x : List Int} {v : Int} (hx : m[i]? = some x) (hk : k < 6) (hv : 0 ≤ v ∧ v ≤ 4) (hl : v < MB.at_ x k) :
    Shr wo v1 v2 v3 v4 g n c l (m.set i (x.set k v)) (wr.setCell ⟨g, 0 + i * 6 + k, none⟩ (.int .i64 v)) := by
  have hf := h.far
  have hi := (List.getElem?_eq_some_iff.1 hx).1
  have hgd : m.getD i [] = x := by rw [List.getD_eq_getElem?_getD, hx]; rfl
  refine ⟨?_, h.mo.set hx hk v, ?_, h.below.setCell (p := ⟨g, 0 + i * 6 + k, none⟩) (by show _ ≤ g; omega) _, h.far⟩
  · exact (Below.heap_setCell wr ⟨g, 0 + i * 6 + k, none⟩ _ _ (by show wo.heap.size ≠ g; omega)).trans h.box
  · have := h.less.set (i := i) (k := k) hi hv (by rw [hgd]; omega) (by rw [hgd, h.mo.fine x (List.mem_of_getElem? hx)]; exact hk)
    rwa [hgd] at this
set_option maxRecDepth 100000 in
set_option maxHeartbeats 16000000 in
theorem setupShrinks_walk (A1 : Option Addr) (n1 c1 : Nat) (A2 : Option Addr) (n2 c2 : Nat) (A3 : Option Addr) (n3 c3 : Nat) (A4 : Option Addr) (n4 c4 : Nat) (s : Su) (A : Option Addr) (n c : Nat) (l : List (List Int)) (Aq : Option Addr) (mq cq : Nat) (q : List (List Int)) (w : World) (h : SuIn w A1 n1 c1 A2 n2 c2 A3 n3 c3 A4 n4 c4 s) (h' : LstIn bunE w A n c l) (h'' : LstIn bunE w Aq mq cq q) (ht : Tab w) :
    Calls Tryz.prog 6 #[.agg #[.slice A1 n1 c1, .slice A2 n2 c2, .slice A3 n3 c3, .slice A4 n4 c4], .slice A n c, .slice Aq mq cq] w (Gives (.bool true) w) := by
  have TB0 := Lib.hid (TB.new w 27 (.slice A1 n1 c1) (.slice A2 n2 c2) (.slice A3 n3 c3) (.slice A4 n4 c4))
  have B0 := Lib.hid (below_new w (.cells #[.slice A1 n1 c1, .slice A2 n2 c2, .slice A3 n3 c3, .slice A4 n4 c4] 27))
  have AW := Lib.hid (fun w' (hb : Below w.heap.size w w') => awake_any w' (ht.keep hb))
  have HH := Lib.hid h
  have HL := Lib.hid h'.lst
  have HQ := Lib.hid h''.lst
  have hcq := h''.lst.cap
  clear ht h h' h''
  obtain ⟨i0, hi, hz0, hz1, hz2⟩ := info_parts infoBun
  obtain ⟨t0, t1, t2, t3⟩ := TB0.out.cells
  go_enter Tryz.func6, Tryz.ntmps6
  go_wp2_with fail
  obtain ⟨W0, hW0⟩ : ∃ W0, W0 = w.alloc (.cells #[.slice A1 n1 c1, .slice A2 n2 c2, .slice A3 n3 c3, .slice A4 n4 c4] 27) := ⟨_, rfl⟩
  rw [← hW0] at TB0 B0 ⊢
  clear hW0 t0 t1 t2 t3
  refine (great_any A1 n1 c1 A2 n2 c2 A3 n3 c3 A4 n4 c4 W0).mono ?_
  rintro e w1 ⟨rfl, hb⟩
  have TB1 := Lib.hid (TB0.out.keep hb)
  have B1 := Lib.hid (B0.out.trans (hb.mono B0.out.size))
  clear hb TB0 B0
  by_cases hg : (decide (50 < n1) || decide (50 < n2) || decide (50 < n3) || decide (50 < n4)) = true
  · rw [hg]
    clear hg HH HL HQ hi hz0 hz1 hz2
    go_wp2_with fail
    refine (AW.out _ B1.out).mono ?_
    rintro e wz ⟨rfl, hb⟩
    have BZ := Lib.hid (B1.out.trans (hb.mono B1.out.size))
    clear hb
    go_wp2
    go_ret
    exact ⟨rfl, BZ.out⟩
  · have hn : n1 ≤ 5000 := by
      simp at hg
      omega
    have HS := Lib.hid (HH.out.at hn)
    have hg' := Bool.eq_false_iff.2 hg
    rw [hg']
    by_cases hl : (50 : Int) < n
    · have hd : decide ((50 : Int) < n) = true := decide_eq_true hl
      clear hg hg' HH HL HS HQ hn hl hi hz0 hz1 hz2
      go_wp2_with fail
      refine (AW.out _ B1.out).mono ?_
      rintro e wz ⟨rfl, hb⟩
      have BZ := Lib.hid (B1.out.trans (hb.mono B1.out.size))
      clear hb
      go_wp2
      go_ret
      exact ⟨rfl, BZ.out⟩
    · have hd : decide ((50 : Int) < n) = false := decide_eq_false hl
      have P1 := Lib.hid (fun w' (hb : Below w.heap.size w w') => pfeas_any A1 n1 c1 A2 n2 c2 A3 n3 c3 A4 n4 c4 s A n c l w' (HS.out.keep hb) (HL.out.keep hb))
      have VA := Lib.hid valid8_any
      obtain ⟨er, her⟩ : ∃ er, MU.feasE s l = er := ⟨_, rfl⟩
      have HE := Lib.hid her
      rw [her] at P1
      clear hg hg' HH hn her
      obtain ⟨t0, t1, t2, t3⟩ := TB1.out.cells
      go_wp2_with fail
      refine (P1.out _ B1.out).mono ?_
      rintro e w2 ⟨rfl, hb⟩
      have TB2 := Lib.hid (TB1.out.keep hb)
      have B2 := Lib.hid (B1.out.trans (hb.mono B1.out.size))
      clear hb TB1 B1 P1 t0 t1 t2 t3
      by_cases h0 : er = 0
      · subst h0
        have GS := Lib.hid (MU.feasE_zero HE.out)
        have hnl := HL.out.len
        have hbs := (MR.chk_good (MU.chkS_good GS.out.1).bs).some_
        have hn0 : 0 < n := by have := GS.out.2.1; omega
        obtain ⟨ad, rfl⟩ : ∃ ad, A = some ad := by obtain ⟨ad, _, _, _, _, _, _, e, _⟩ := bun_at HL.out hn0; exact ⟨ad, e⟩
        have LR := Lib.hid (MU.Less.refl HE.out)
        have OR := Lib.hid (World.ownsRow_made (base := w.heap.size + 1) (e := 42) (size := 6) w2 #[] 0 (by have := B2.out.size; have := TB2.out.lt; omega) (Nat.zero_le _) rfl)
        have HX := Lib.hid (HL.out.keep B2.out)
        have TB3 := Lib.hid (TB2.out.keep (below_new w2 (.cells #[] 42)))
        have B3 := Lib.hid (B2.out.alloc B2.out.size (.cells #[] 42))
        have hsz := TB2.out.lt
        have hsz3 := TB3.out.lt
        go_wp2_with (at_builtin; refine wpList_append_own _ rfl _ _ 38 rfl (w.heap.size + 1) 42 i0 (.agg #[.int .i64 0, .int .i64 0, .int .i64 0, .int .i64 0, .int .i64 0, .int .i64 0]) 6 48 Tryz.underlying38 hi hz0 hz1 hz2 rfl (by decide) _ _ _ rfl OR.out ad n c (bunE.all l) rfl ?c0 ?c1 ?c2 ?c3 ?c4 ?c5 ?_)
        case c0 => rw [El.all_length HL.out.fine, hnl]; rfl
        case c1 =>
          obtain ⟨ad', e, _, hc⟩ := (HL.out.keep B3.out).reads.2 hn0
          injection e with e
          subst e
          exact hc
        case c2 => intro u hu; obtain ⟨x, _, hx⟩ := List.mem_flatMap.1 hu; exact bunE.one x u hx
        case c3 => unfold maxLen; omega
        case c4 => omega
        case c5 => omega
        intro v' w3 hown' hgrow _
        have HM : ∃ g cm, v' = .slice (some ⟨g, 0, none⟩) n cm ∧ Hid (Shr w (.slice A1 n1 c1) (.slice A2 n2 c2) (.slice A3 n3 c3) (.slice A4 n4 c4) g n cm l l w3) ∧ Hid (n ≤ cm ∧ cm ≤ maxLen) := by
          rcases hown'.2 with ⟨_, e⟩ | ⟨g, cm, cur, rfl, hgb, hgh, h1, h2, h3, h4⟩
          · omega
          · refine ⟨g, cm, rfl, Lib.hid ⟨?_, ⟨hnl, h1, by omega, HL.out.fine, cur, _, hgh, fun j u hu => ?_⟩, LR.out, B3.out.grown hgrow (by have := B3.out.size; omega) (fun k hk => ?_), by omega⟩, Lib.hid ⟨h1, h2⟩⟩
            · exact (hgrow.block w.heap.size hsz3 (by simp [Value.ownBlock]; omega)).trans TB3.out
            · rw [← h4, List.getElem?_take] at hu
              split at hu
              · simpa using hu
              · cases hu
            · simp [Value.ownBlock] at hk
              omega
        obtain ⟨g, cm, rfl, HM, HC⟩ := HM
        have hcm := HC.out
        clear HC hown' hgrow OR HX TB2 TB3 B2 B3 hsz hsz3 LR GS hbs hi hz0 hz1 hz2
        go_wp2
        go_loopw [8] (fun i wr => ∃ (k : Nat) (m : List (List Int)), k ≤ n ∧ i = .int .i64 k ∧ Hid (Shr w (.slice A1 n1 c1) (.slice A2 n2 c2) (.slice A3 n3 c3) (.slice A4 n4 c4) g n cm l m wr)) (fun i _ => n - (intOf i).toNat)
        case atStart => exact ⟨0, l, Nat.zero_le _, rfl, HM⟩
        case round =>
          clear HM
          obtain ⟨k, m, hk, rfl, HR⟩ := hrel
          have stop : Hid (∀ w', Below w.heap.size w w' → Lst bunE w' (some ⟨g, 0, none⟩) n cm m → Calls Tryz.prog 15 #[.agg #[.slice A1 n1 c1, .slice A2 n2 c2, .slice A3 n3 c3, .slice A4 n4 c4], .slice (some ⟨g, 0, none⟩) n cm] w' (Gives (.int .i64 0) w')) := Lib.hid (fun w' hb hm => by
            have := pfeas_any A1 n1 c1 A2 n2 c2 A3 n3 c3 A4 n4 c4 s (some ⟨g, 0, none⟩) n cm m w' (HS.out.keep hb) hm
            rwa [MU.shrink HE.out HR.out.less] at this)
          by_cases hlt : k < n ∧ k < mq
          · obtain ⟨h1, h2⟩ := hlt
            have h1' : (k : Int) < n := by omega
            have h2' : (k : Int) < mq := by omega
            have d1 : decide ((k : Int) < n) = true := decide_eq_true h1'
            have d2 : decide ((k : Int) < mq) = true := decide_eq_true h2'
            obtain ⟨aq, x0, x1, x2, x3, x4, x5, rfl, hqx, hbk, y0, y1, y2, y3, y4, y5⟩ := bun_at (HQ.out.keep HR.out.below) h2
            clear stop
            go_wp2_with fail
            refine (VA.out x0 x1 x2 x3 x4 x5 _).mono ?_
            rintro e w4 ⟨rfl, hb⟩
            have R4 := Lib.hid (HR.out.keep hb)
            clear hb HR y0 y1 y2 y3 y4 y5
            cases hv : MB.okB [x0, x1, x2, x3, x4, x5] with
            | false =>
              have RB := Lib.hid R4.out.below
              go_wp2_with fail
              refine (AW.out _ RB.out).mono ?_
              rintro e wz ⟨rfl, hb⟩
              have BZ := Lib.hid (RB.out.trans (hb.mono RB.out.size))
              clear hb
              go_wp2
              exact bodyPost_ret (v := .bool true) (by simp [results, Tryz.results6, go_sem]) rfl ⟨rfl, BZ.out⟩
            | true =>
              have OK := Lib.hid hv
              clear hv
              go_wp2
              go_loopw [9] (fun j wr => ∃ (p : Nat) (m : List (List Int)), p ≤ 6 ∧ j = .int .i64 p ∧ Hid (Shr w (.slice A1 n1 c1) (.slice A2 n2 c2) (.slice A3 n3 c3) (.slice A4 n4 c4) g n cm l m wr)) (fun j _ => 6 - (intOf j).toNat)
              case atStart => exact ⟨0, m, Nat.zero_le _, rfl, R4⟩
              case round =>
                clear R4
                obtain ⟨p, m, hp, rfl, HR⟩ := hrel
                by_cases hp6 : p < 6
                · obtain ⟨aq', xq, e, hx, hx6, _, cq1⟩ := bun_cell (HQ.out.keep HR.out.below) h2 hp6
                  injection e with e
                  subst e
                  rw [hqx] at hx
                  injection hx with hx
                  have HV : 0 ≤ MB.at_ xq p ∧ MB.at_ xq p ≤ 4 := by rw [← hx]; exact MC.okB_at OK.out p
                  obtain ⟨xm, hxm, hxm6, cm0⟩ := HR.out.mo.at_ h1
                  have FX : Hid (∀ W, Below wr.heap.size wr W → W.cell? ((aq.add (k * 6)).add p) = some (.int .i64 (MB.at_ xq p)) ∧ W.cell? ⟨g, k * 6 + p, none⟩ = some (.int .i64 (MB.at_ xm p)) ∧ W.frozen? ⟨g, k * 6 + p, none⟩ = false ∧
                      (MB.at_ xq p < MB.at_ xm p → Shr w (.slice A1 n1 c1) (.slice A2 n2 c2) (.slice A3 n3 c3) (.slice A4 n4 c4) g n cm l (m.set k (xm.set p (MB.at_ xq p))) (W.setCell ⟨g, k * 6 + p, none⟩ (.int .i64 (MB.at_ xq p))))) := Lib.hid (fun W hb => by
                    have K := HR.out.keep hb
                    obtain ⟨a1, y1, e1, f1, _, _, g1⟩ := bun_cell (HQ.out.keep K.below) h2 hp6
                    injection e1 with e1
                    subst e1
                    rw [hqx] at f1
                    injection f1 with f1
                    obtain ⟨xm', hxm', _, cm1⟩ := K.mo.at_ h1
                    rw [hxm] at hxm'
                    injection hxm' with hxm'
                    have fz := K.mo.free (0 + k * 6 + p)
                    have st := fun hlt => K.set (v := MB.at_ xq p) hxm hp6 HV hlt
                    have cm2 := cm1 p hp6
                    rw [Nat.zero_add] at cm2 fz st
                    rw [← hx, f1, hxm']
                    refine ⟨g1, cm2, fz, ?_⟩
                    rw [← hxm', ← f1, hx]
                    exact st)
                  have hp6' : (p : Int) < 6 := by omega
                  clear hx cm0 hxm hxm6 HV hx6 cq1
                  generalize MB.at_ xq p = vq at *
                  generalize MB.at_ xm p = vm at *
                  obtain ⟨cq1, cm1, _, _⟩ := FX.out wr (Below.refl _ _)
                  go_upto_region 12 with (fail)
                  go_quiet (fail)
                  have HR2 := Lib.hid (HR.out.keep (below_drewN (Below.refl _ _) nq))
                  have FX2 := Lib.hid (FX.out _ (below_drewN (Below.refl _ _) nq))
                  clear FX HR cq1 cm1
                  generalize wr.drewN nq = X at *
                  by_cases hvv : vq < vm
                  · have hd1 : decide (vq < vm) = true := decide_eq_true hvv
                    obtain ⟨cq1, cm1, fz, st⟩ := FX2.out
                    have HR3 := Lib.hid (st hvv)
                    clear FX2 st HR2
                    go_upto_region 13 with (fail)
                    go_region
                    have HR4 := Lib.hid (HR3.out.keep (below_drawn _))
                    clear HR3
                    go_wp2
                    go_roundw
                    case rel => exact ⟨p + 1, _, by omega, by go_num, by first | exact HR4 | exact HR3⟩
                    case measure => simp [intOf]; omega
                  · have hd1 : decide (vq < vm) = false := decide_eq_false hvv
                    clear FX2
                    go_wp2
                    go_roundw
                    case rel => exact ⟨p + 1, m, by omega, by go_num, HR2⟩
                    case measure => simp [intOf]; omega
                · obtain rfl : p = 6 := by omega
                  go_wp2
                  go_roundw
                  case rel => exact ⟨k + 1, m, by omega, by go_num, HR⟩
                  case measure => simp [intOf]; omega
          · obtain ⟨t0, t1, t2, t3⟩ := HR.out.box.cells
            have RB := Lib.hid HR.out.below
            have PF := Lib.hid (stop.out _ RB.out HR.out.mo.lst)
            clear stop HR
            by_cases h1 : k < n
            · have d1 : decide ((k : Int) < n) = true := decide_eq_true (by omega)
              have h2 : ¬ k < mq := fun g => hlt ⟨h1, g⟩
              have h2' : ¬ (k : Int) < mq := by omega
              have h1' : (k : Int) < n := by omega
              clear hlt
              go_wp2_with fail
              refine PF.out.mono ?_
              rintro e w4 ⟨rfl, hb⟩
              have B4 := Lib.hid (RB.out.trans (hb.mono RB.out.size))
              clear hb PF RB
              go_wp2_with fail
              refine (AW.out _ B4.out).mono ?_
              rintro e wz ⟨rfl, hb⟩
              have BZ := Lib.hid (B4.out.trans (hb.mono B4.out.size))
              clear hb
              go_wp2
              go_ret
              exact ⟨rfl, BZ.out⟩
            · have h1' : ¬ (k : Int) < n := by omega
              clear hlt
              go_wp2_with fail
              refine PF.out.mono ?_
              rintro e w4 ⟨rfl, hb⟩
              have B4 := Lib.hid (RB.out.trans (hb.mono RB.out.size))
              clear hb PF RB
              go_wp2_with fail
              refine (AW.out _ B4.out).mono ?_
              rintro e wz ⟨rfl, hb⟩
              have BZ := Lib.hid (B4.out.trans (hb.mono B4.out.size))
              clear hb
              go_wp2
              go_ret
              exact ⟨rfl, BZ.out⟩
      · have hb0 : (er != 0) = true := bne_iff_ne.2 h0
        clear HL HS HQ hi hz0 hz1 hz2 hl
        go_wp2_with fail
        refine (AW.out _ B2.out).mono ?_
        rintro e wz ⟨rfl, hb⟩
        have BZ := Lib.hid (B2.out.trans (hb.mono B2.out.size))
        clear hb
        go_wp2
        go_ret
        exact ⟨rfl, BZ.out⟩
end Go.Proofs.YtebcfdkkhfopkaaGreatDoor
