/- VRVal, VRTab, joined: no claim of its own. -/
import Derived.Test.YtbnillkihmooeaaVAll
import Derived.Test.YtbnillkihmooeaaJVA
import Derived.Test.YtbnillkihmooeaaVFew
import Derived.Test.YtbnillkihmooeaaERef2
import Derived.Test.YtbnillkihmooeaaMathVE
import Derived.Test.YtbnillkihmooeaaVTable
namespace Go.Proofs.Ytbnillkihmooeaa
open Go.RowKit
attribute [local go_sem] Oper.semAt_some
theorem tab_range (f : List Int → Int) (s : List Int) : VV.tab f s = (List.range (VV.cnt s)).map fun i => f (VV.at6 s i) := by
  apply List.ext_getElem?
  intro i
  by_cases h : i < VV.cnt s
  · rw [VV.tab_at f h]; simp [h]
  · rw [List.getElem?_eq_none (by rw [VV.tab_len]; omega), List.getElem?_eq_none (by simp; omega)]
end Go.Proofs.Ytbnillkihmooeaa
namespace Go.Proofs.Ytbnillkihmooeaa
open Go.RowKit
attribute [local go_sem] Oper.semAt_some
theorem rtup_res {w : World} (tmps : Array Value) (v u : Value) (h4 : tmps.getD 4 undef = v) (h5 : tmps.getD 5 undef = u) : (results Try.f23 tmps).run Try.prog w = .ok (.tuple #[v, u]) w := by
  have h4' : tmps[4]?.getD undef = v := by simpa using h4
  have h5' : tmps[5]?.getD undef = u := by simpa using h5
  simp [results, Try.results23, h4', h5', go_sem]
theorem rtab_ret {tmps : Array Value} {w0 w : World} {A : Option Addr} {n c : Nat} {l : List Int} {u : Int} (h4 : tmps.getD 4 undef = .slice A n c) (h5 : tmps.getD 5 undef = .int .i64 u) (hl : Lst intE w A n c l) (hb : Below w0.heap.size w0 w) :
    bodyPost Try.prog Try.f23 (GivesT (l, u) w0) .ret { tmps, defers := [] } w := bodyPost_ret (v := .tuple #[.slice A n c, .int .i64 u]) (rtup_res tmps _ _ h4 h5) rfl ⟨A, n, c, rfl, hl, hb⟩
set_option maxRecDepth 100000 in
set_option maxHeartbeats 8000000 in
theorem rtable_any (x : NT) (hx : x.size ≤ 1000000) (q0 q1 q2 q3 q4 q5 : Int) (w : World) (ok : Nat → Prop) (hok : x.Ok w ok) : Calls Try.prog 23 #[x.val, .agg #[.int .i64 q0, .int .i64 q1, .int .i64 q2, .int .i64 q3, .int .i64 q4, .int .i64 q5]] w (GivesT (tabE x.n [q0, q1, q2, q3, q4, q5]) w) := by
  have CK := Lib.hid (fun w' (hb : Below w.heap.size w w') => rcheck_any x hx w' ok (hok.below hb))
  have CB := Lib.hid (fun w' => rbcheck_any q0 q1 q2 q3 q4 q5 w')
  have CC := Lib.hid (fun w' => rcount_any q0 q1 q2 q3 q4 q5 w')
  have CA := Lib.hid (fun (h : VV.AllOk x.n) (h2 : MB.okB [q0, q1, q2, q3, q4, q5] = true) w' (hb : Below w.heap.size w w') => rall_any 2000000 x (Nat.le_trans hx (by decide)) (Nat.le_refl _) h q0 q1 q2 q3 q4 q5 w' ok h2 (hok.below hb))
  have HT : Hid (tabE x.n [q0, q1, q2, q3, q4, q5] = if ME.checkE x.n ≠ 0 then ([], ME.checkE x.n) else if chk [q0, q1, q2, q3, q4, q5] ≠ 0 then ([], chk [q0, q1, q2, q3, q4, q5]) else if cntB [q0, q1, q2, q3, q4, q5] = 0 then ([], 3) else (VV.tab (VV.valN x.n) [q0, q1, q2, q3, q4, q5], 0)) := Lib.hid rfl
  obtain ⟨R, hR⟩ : ∃ R, R = tabE x.n [q0, q1, q2, q3, q4, q5] := ⟨_, rfl⟩
  rw [← hR] at HT ⊢
  clear hR
  have AO := Lib.hid (fun (h : ME.checkE x.n = 0) => VV.AllOk.of h)
  have HVN := Lib.hid (fun (h : VV.AllOk x.n) (b : List Int) (hb : VV.Bu b) => (show 0 ≤ VV.valN x.n b ∧ VV.valN x.n b ≤ 1000000 from ⟨h.mono.pos b hb, VV.valN_max x.n b⟩))
  obtain ⟨o, bb, v, A, cc, k⟩ := x
  obtain ⟨x0, x1, x2, x3, x4, x5, rfl⟩ := six hok.six
  rw [NT.val_lit] at CK CA ⊢
  obtain ⟨N, hN⟩ : ∃ N, N = NT.n ⟨o, [x0, x1, x2, x3, x4, x5], v, A, cc, k⟩ := ⟨_, rfl⟩
  rw [← hN] at CK CA HT AO HVN
  clear hok hx hN
  generalize ME.checkE N = ck at *
  have HB := Lib.hid (below_two w (.cells #[.int .i64 o, .int .i64 x0, .int .i64 x1, .int .i64 x2, .int .i64 x3, .int .i64 x4, .int .i64 x5, .int .i64 v, .slice A k.len cc] 26) (.cells #[.int .i64 q0, .int .i64 q1, .int .i64 q2, .int .i64 q3, .int .i64 q4, .int .i64 q5] 23))
  have X0 := Lib.hid (below_new (w.alloc (.cells #[.int .i64 o, .int .i64 x0, .int .i64 x1, .int .i64 x2, .int .i64 x3, .int .i64 x4, .int .i64 x5, .int .i64 v, .slice A k.len cc] 26)) (.cells #[.int .i64 q0, .int .i64 q1, .int .i64 q2, .int .i64 q3, .int .i64 q4, .int .i64 q5] 23))
  have E0 := Lib.hid (show B9 ((w.alloc (.cells #[.int .i64 o, .int .i64 x0, .int .i64 x1, .int .i64 x2, .int .i64 x3, .int .i64 x4, .int .i64 x5, .int .i64 v, .slice A k.len cc] 26)).alloc (.cells #[.int .i64 q0, .int .i64 q1, .int .i64 q2, .int .i64 q3, .int .i64 q4, .int .i64 q5] 23)) w.heap.size (.int .i64 o) (.int .i64 x0) (.int .i64 x1) (.int .i64 x2) (.int .i64 x3) (.int .i64 x4) (.int .i64 x5) (.int .i64 v) (.slice A k.len cc) from (X0.out.block w.heap.size (by simp)).trans (heap_new w _))
  have S0 := Lib.hid (show BB ((w.alloc (.cells #[.int .i64 o, .int .i64 x0, .int .i64 x1, .int .i64 x2, .int .i64 x3, .int .i64 x4, .int .i64 x5, .int .i64 v, .slice A k.len cc] 26)).alloc (.cells #[.int .i64 q0, .int .i64 q1, .int .i64 q2, .int .i64 q3, .int .i64 q4, .int .i64 q5] 23)) (w.heap.size + 1) 23 [q0, q1, q2, q3, q4, q5] from by
    have := BB.new (w.alloc (.cells #[.int .i64 o, .int .i64 x0, .int .i64 x1, .int .i64 x2, .int .i64 x3, .int .i64 x4, .int .i64 x5, .int .i64 v, .slice A k.len cc] 26)) 23 q0 q1 q2 q3 q4 q5
    rwa [World.size_alloc] at this)
  clear X0
  go_enter Try.func23, Try.ntmps23
  go_upto_region 1 with (fail)
  generalize (w.alloc (.cells #[.int .i64 o, .int .i64 x0, .int .i64 x1, .int .i64 x2, .int .i64 x3, .int .i64 x4, .int .i64 x5, .int .i64 v, .slice A k.len cc] 26)).alloc (.cells #[.int .i64 q0, .int .i64 q1, .int .i64 q2, .int .i64 q3, .int .i64 q4, .int .i64 q5] 23) = w1 at *
  obtain ⟨e0, e1, e2, e3, e4, e5, e6, e7, e8⟩ := E0.out.cells
  obtain ⟨r0, r1, r2, r3, r4, r5⟩ := cells6 S0.out
  by_cases hck : ck = 0
  · subst hck
    have AOK := Lib.hid (AO.out rfl)
    have HT1 := Lib.hid (HT.out.trans (if_neg (by omega)))
    clear HT AO
    go_wp2_with fail
    refine (CK.out _ HB.out).mono ?_
    rintro ev w2 ⟨rfl, nb⟩
    have B2 := Lib.hid (HB.out.trans (nb.mono HB.out.size))
    have E2 := Lib.hid (E0.out.keep nb)
    have S2 := Lib.hid (S0.out.keep nb S0.out.lt)
    clear nb HB E0 S0 CK e0 e1 e2 e3 e4 e5 e6 e7 e8 r0 r1 r2 r3 r4 r5
    obtain ⟨e0, e1, e2, e3, e4, e5, e6, e7, e8⟩ := E2.out.cells
    obtain ⟨r0, r1, r2, r3, r4, r5⟩ := cells6 S2.out
    by_cases hcb : chk [q0, q1, q2, q3, q4, q5] = 0
    · have HT2 := Lib.hid (HT1.out.trans (if_neg (by omega)))
      have HOQ := Lib.hid (VV.ok_of_chk (b := [q0, q1, q2, q3, q4, q5]) hcb)
      rw [hcb] at CB
      clear HT1 hcb
      go_wp2_with fail
      refine (CB.out _).mono ?_
      rintro ev w3 ⟨rfl, nb⟩
      have B3 := Lib.hid (B2.out.trans (nb.mono B2.out.size))
      have E3 := Lib.hid (E2.out.keep nb)
      have S3 := Lib.hid (S2.out.keep nb S2.out.lt)
      clear nb B2 E2 S2 CB e0 e1 e2 e3 e4 e5 e6 e7 e8 r0 r1 r2 r3 r4 r5
      obtain ⟨e0, e1, e2, e3, e4, e5, e6, e7, e8⟩ := E3.out.cells
      obtain ⟨r0, r1, r2, r3, r4, r5⟩ := cells6 S3.out
      by_cases hcn : cntB [q0, q1, q2, q3, q4, q5] = 0
      · have HE := Lib.hid (HT2.out.trans (if_pos hcn))
        rw [hcn] at CC
        clear hcn HT2
        go_wp2_with fail
        refine (CC.out _).mono ?_
        rintro ev w4 ⟨rfl, nb⟩
        have B4 := Lib.hid (B3.out.trans (nb.mono B3.out.size))
        clear nb B3 E3 S3 CC e0 e1 e2 e3 e4 e5 e6 e7 e8 r0 r1 r2 r3 r4 r5
        go_wp2
        rw [HE.out]
        exact rtab_ret rfl rfl (Lst.nil _) B4.out
      · have HE := Lib.hid (HT2.out.trans (if_neg hcn))
        have hn3 : (cntB [q0, q1, q2, q3, q4, q5] == 0) = false := beq_eq_false_iff_ne.2 hcn
        have HCA := Lib.hid (CA.out AOK.out HOQ.out)
        have HLE := Lib.hid (P_small HOQ.out rfl (Nat.le_refl 6))
        generalize cntB [q0, q1, q2, q3, q4, q5] = cn at *
        clear HT2 CA
        go_wp2_with fail
        refine (CC.out _).mono ?_
        rintro ev w4 ⟨rfl, nb⟩
        have B4 := Lib.hid (B3.out.trans (nb.mono B3.out.size))
        have E4 := Lib.hid (E3.out.keep nb)
        have S4 := Lib.hid (S3.out.keep nb S3.out.lt)
        clear nb B3 E3 S3 CC e0 e1 e2 e3 e4 e5 e6 e7 e8 r0 r1 r2 r3 r4 r5
        obtain ⟨e0, e1, e2, e3, e4, e5, e6, e7, e8⟩ := E4.out.cells
        obtain ⟨r0, r1, r2, r3, r4, r5⟩ := cells6 S4.out
        go_wp2_with fail
        refine (HCA.out _ B4.out).mono ?_
        rintro ev w5 ⟨Bt, rfl, ht, _, nb⟩
        have B5 := Lib.hid (B4.out.trans (nb.mono B4.out.size))
        have HL : Hid (Lst intE w5 (some ⟨Bt, 0, none⟩) (VV.cnt [q0, q1, q2, q3, q4, q5]) (VV.cnt [q0, q1, q2, q3, q4, q5]) (VV.tab (VV.valN N) [q0, q1, q2, q3, q4, q5])) := Lib.hid (by
          rw [tab_range]
          have h1 := HLE.out
          change VV.cnt [q0, q1, q2, q3, q4, q5] ≤ 15625 at h1
          exact ht.lst (Nat.le_refl _) (by omega) fun i _ => by
            have := HVN.out AOK.out _ (VV.at6_bu (VV.bu_of_ok rfl HOQ.out) i).1
            omega)
        clear nb ht B4 E4 S4 HCA HVN HLE e0 e1 e2 e3 e4 e5 e6 e7 e8 r0 r1 r2 r3 r4 r5
        go_wp2
        rw [HE.out]
        exact rtab_ret rfl rfl HL.out B5.out
    · have HE := Lib.hid (HT1.out.trans (if_pos hcb))
      have hne3 : (chk [q0, q1, q2, q3, q4, q5] == 0) = false := beq_eq_false_iff_ne.2 hcb
      generalize chk [q0, q1, q2, q3, q4, q5] = cb at *
      clear HT1
      go_wp2_with fail
      refine (CB.out _).mono ?_
      rintro ev w3 ⟨rfl, nb⟩
      have B3 := Lib.hid (B2.out.trans (nb.mono B2.out.size))
      clear nb B2 E2 S2 CB e0 e1 e2 e3 e4 e5 e6 e7 e8 r0 r1 r2 r3 r4 r5
      go_wp2
      rw [HE.out]
      exact rtab_ret rfl rfl (Lst.nil _) B3.out
  · have HE := Lib.hid (HT.out.trans (if_pos hck))
    have hne2 : (ck == 0) = false := beq_eq_false_iff_ne.2 hck
    go_wp2_with fail
    refine (CK.out _ HB.out).mono ?_
    rintro ev w2 ⟨rfl, nb⟩
    have B2 := Lib.hid (HB.out.trans (nb.mono HB.out.size))
    clear nb HB E0 S0 CK e0 e1 e2 e3 e4 e5 e6 e7 e8 r0 r1 r2 r3 r4 r5
    go_wp2
    rw [HE.out]
    exact rtab_ret rfl rfl (Lst.nil _) B2.out
end Go.Proofs.Ytbnillkihmooeaa
