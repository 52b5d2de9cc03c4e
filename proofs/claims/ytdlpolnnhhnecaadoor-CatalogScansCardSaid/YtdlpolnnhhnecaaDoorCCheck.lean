/- Check of the program: no claim of its own. -/
import Derived.Test.YtdlpolnnhhnecaaDoorCSup
import Derived.Lib.QuietBelow
namespace Go.Proofs.YtdlpolnnhhnecaaDoor
open Go.RowKit
open MC (Pr)
theorem cnt_ok {l : List Pr} (ho : ∀ (k : Nat) (p : Pr), l[k]? = some p → p.ok) (h6 : l.length ≤ 6) : cntB (MC.supB l) = if 1024 < MC.many l then 0 else (MC.many l : Int) := by
  unfold cntB
  rw [if_pos (MC.supB_okB ho), MC.supB_P6 h6]
  by_cases h : 1024 < MC.many l
  · rw [if_neg (by omega), if_pos h]
  · rw [if_pos (by omega), if_neg h]
set_option maxRecDepth 100000 in
set_option maxHeartbeats 4000000 in
theorem check_any (A : Option Addr) (n c : Nat) (L : List Pr) (w : World) (h : Prs w A n c L) :
    Calls Tryd.prog 13 #[.slice A n c] w (Gives (.int .i64 (MC.chkL L)) w) := by
  have hn := h.few
  have hc := h.cap
  have HL := Lib.hid h.len
  have H := Lib.hid h
  clear h
  by_cases h0 : n = 0
  · have G := Lib.hid (ret_int (k := .i64) (MC.chk_short (l := L) (by rw [HL.out]; exact h0)).symm)
    subst h0
    go_enter Tryd.func13, Tryd.ntmps13
    go_wp2
    go_ret
    exact ⟨G.out, Below.refl _ _⟩
  by_cases h6 : 6 < n
  · have G := Lib.hid (ret_int (k := .i64) (MC.chk_long (l := L) (by rw [HL.out]; exact h6)).symm)
    go_enter Tryd.func13, Tryd.ntmps13
    go_wp2
    go_ret
    exact ⟨G.out, Below.refl _ _⟩
  have HS := Lib.hid (fun w' (hb : Below w.heap.size w w') => supply_any A n c L w' (H.out.keep hb))
  have hmo : Tryd.prog.follows .mixedOrders = true := by kernel_rfl
  have e0 : ((n : Int) == 0) = false := beq_eq_false_iff_ne.2 (by omega)
  have e6 : decide (6 < (n : Int)) = false := decide_eq_false (by omega)
  go_enter Tryd.func13, Tryd.ntmps13
  go_wp2
  go_loopw [16] (fun i wr => ∃ k : Nat, k ≤ n ∧ i = .int .i64 k ∧ Hid (MC.Upto L k) ∧ Hid (Below w.heap.size w wr)) (fun i _ => n - (intOf i).toNat)
  case atStart => exact ⟨0, Nat.zero_le _, rfl, Lib.hid (MC.Upto.start L), Lib.hid (Below.refl _ _)⟩
  case round =>
    rename_i _ wr
    obtain ⟨k, hk, rfl, HU, HB⟩ := hrel
    by_cases hlt : k < n
    · obtain ⟨ad, p, rfl, q1, hbk, x0, x1, x2, x3, x4⟩ := (H.out.keep HB.out).at_ hlt
      have HQ := Lib.hid q1
      have hfine : p.name.length ≤ 9223372036854775807 := H.out.fine p (List.mem_of_getElem? q1)
      have B1 := Lib.hid (HB.out.trans ((below_new wr (.cells #[.string (str p.name), .int .i64 p.supply, .int .i64 p.reserve, .int .i64 p.points, .int .i64 p.group] 62)).mono HB.out.size))
      have PV := Lib.hid (heap_new wr (.cells #[.string (str p.name), .int .i64 p.supply, .int .i64 p.reserve, .int .i64 p.points, .int .i64 p.group] 62))
      have CP := Lib.hid (fun w' (hb : Below w.heap.size w w') => checkProduct_any (some ad) n c k L p hk hfine w' (H.out.keep hb))
      have HE : Hid (MC.prE (MC.names L k) p = MC.prE (MC.names L k) p) := Lib.hid rfl
      obtain ⟨er, her⟩ : ∃ er, MC.prE (MC.names L k) p = er := ⟨_, rfl⟩
      have HR := Lib.hid her
      rw [her] at CP
      clear her HE q1 hbk hfine
      obtain ⟨pn, ps, pr, pp, pg⟩ := p
      unfold aggP at CP
      simp only at *
      generalize str pn = s at *
      go_wp2_with fail
      obtain ⟨X, hX⟩ : ∃ X, X = wr.alloc (.cells #[.string s, .int .i64 ps, .int .i64 pr, .int .i64 pp, .int .i64 pg] 62) := ⟨_, rfl⟩
      rw [← hX] at B1 PV ⊢
      clear hX x0 x1 x2 x3 x4
      have k0 := cell_regrown (show X.cell? ⟨wr.heap.size, 0, none⟩ = some (.string s) by rw [cell_of_row _ _ _ _ _ _ PV.out]; rfl)
      have k1 := cell_regrown (show X.cell? ⟨wr.heap.size, 1, none⟩ = some (.int .i64 ps) by rw [cell_of_row _ _ _ _ _ _ PV.out]; rfl)
      have k2 := cell_regrown (show X.cell? ⟨wr.heap.size, 2, none⟩ = some (.int .i64 pr) by rw [cell_of_row _ _ _ _ _ _ PV.out]; rfl)
      have k3 := cell_regrown (show X.cell? ⟨wr.heap.size, 3, none⟩ = some (.int .i64 pp) by rw [cell_of_row _ _ _ _ _ _ PV.out]; rfl)
      have k4 := cell_regrown (show X.cell? ⟨wr.heap.size, 4, none⟩ = some (.int .i64 pg) by rw [cell_of_row _ _ _ _ _ _ PV.out]; rfl)
      have cS := fun d os => Calls.regrown_of (CP.out (Go.Sort.grow (redrawn X d) os) (B1.out.trans ((below_regrown X d os).mono B1.out.size)))
      refine wp_region_quiet_below hmo (by kernel_rfl) ?_
      have hkc : k ≤ c := by omega
      have hkc' : (k : Int) ≤ (c : Int) := by omega
      quiet_step (exact cS _ _)
      quiet_step (exact cS _ _)
      quiet_step (exact cS _ _)
      quiet_step (exact cS _ _)
      quiet_step (exact cS _ _)
      quiet_step (exact cS _ _)
      refine wpQuiet_nil ?_
      rintro _ ⟨pz, rfl⟩
      have B2 := Lib.hid (B1.out.trans ((below_regrown X pz.d pz.os).mono B1.out.size))
      clear cS k0 k1 k2 k3 k4 CP
      generalize Go.Sort.grow (redrawn X pz.d) pz.os = V at *
      by_cases he : er = 0
      · subst he
        have G := Lib.hid (HU.out.step HQ.out HR.out)
        go_wp2
        go_roundw
        case rel => exact ⟨k + 1, by omega, by go_num, G, B2⟩
        case measure => simp [intOf]; omega
      · have hb : (er != 0) = true := bne_iff_ne.2 he
        have G := Lib.hid (ret_int (k := .i64) (show er = MC.chkL L by rw [HU.out.stop (by rw [HL.out]; exact h0) (by rw [HL.out]; omega) HQ.out (by rw [HR.out]; exact he), HR.out]))
        go_wp2
        go_ret
        exact ⟨G.out, B2.out⟩
    · obtain rfl : k = n := by omega
      have HU' := HU.out
      rw [← HL.out] at HU'
      have HF := HU'.fin (by rw [HL.out]; exact h0) (by rw [HL.out]; omega)
      have HC := cnt_ok HU'.each (by rw [HL.out]; omega)
      obtain ⟨z0, z1, z2, z3, z4, z5, hz⟩ := six (MC.supB_length L)
      rw [hz] at HC HS
      rw [aggB_lit] at HS
      have hcall : ∀ w', Calls Tryd.prog 37 #[.agg #[.int .i64 z0, .int .i64 z1, .int .i64 z2, .int .i64 z3, .int .i64 z4, .int .i64 z5]] w' (Gives (.int .i64 (cntB [z0, z1, z2, z3, z4, z5])) w') := fun w' => count_any z0 z1 z2 z3 z4 z5 w'
      rw [HC] at hcall
      have CT := Lib.hid hcall
      clear hcall HC HU' HU hz
      by_cases hm : 1024 < MC.many L
      · rw [if_pos hm] at HF CT
        have G := Lib.hid (ret_int (k := .i64) HF.symm)
        clear HF hm
        go_wp2_with fail
        refine (HS.out _ HB.out).mono ?_
        rintro e w1 ⟨rfl, hb⟩
        have B1 := Lib.hid (HB.out.trans (hb.mono HB.out.size))
        clear hb
        go_wp2_with fail
        refine (CT.out _).mono ?_
        rintro e w2 ⟨rfl, hb⟩
        have B2 := Lib.hid (B1.out.trans (hb.mono B1.out.size))
        clear hb
        go_wp2
        go_ret
        exact ⟨G.out, B2.out⟩
      · rw [if_neg hm] at HF CT
        have hp := MC.many_pos L
        have hne : ((MC.many L : Int) == 0) = false := beq_eq_false_iff_ne.2 (by omega)
        have G := Lib.hid (ret_int (k := .i64) HF.symm)
        clear HF hm hp
        generalize (MC.many L : Int) = M at *
        go_wp2_with fail
        refine (HS.out _ HB.out).mono ?_
        rintro e w1 ⟨rfl, hb⟩
        have B1 := Lib.hid (HB.out.trans (hb.mono HB.out.size))
        clear hb
        go_wp2_with fail
        refine (CT.out _).mono ?_
        rintro e w2 ⟨rfl, hb⟩
        have B2 := Lib.hid (B1.out.trans (hb.mono B1.out.size))
        clear hb
        go_wp2
        go_ret
        exact ⟨G.out, B2.out⟩
end Go.Proofs.YtdlpolnnhhnecaaDoor
