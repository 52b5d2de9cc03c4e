/- Monotone of the program. No claim of its own. -/
import Derived.Test.YtgknggighpjcdaaVTable
import Derived.Test.YtgknggighpjcdaaMathVE
namespace Go.Proofs.Ytgknggighpjcdaa
open Go.RowKit
attribute [local go_sem] Oper.semAt_some
theorem mono_res {w : World} {R : Nat} {v : Bool} (tmps : Array Value) (ht : tmps.getD 4 undef = .pointer (some ⟨R, 0, none⟩)) (h : w.cell? ⟨R, 0, none⟩ = some (.bool v)) : (results Try.f27 tmps).run Try.prog w = .ok (.bool v) w := by
  have ht' : tmps[4]?.getD undef = .pointer (some ⟨R, 0, none⟩) := by simpa using ht
  simp [results, Try.results27, ht', asAddr, go_sem, h]
theorem mono_leave0 {tmps : Array Value} {R : Nat} {w0 w : World} {v : Bool} (ht : tmps.getD 4 undef = .pointer (some ⟨R, 0, none⟩)) (hr : Boxed w R 4 (.bool v)) (hb : Below w0.heap.size w0 w) :
    bodyPostM Fence.wide 5 Try.prog Try.f27 (Gives (.bool v) w0) .ret { tmps, defers := [] } w := ⟨_, mono_res tmps ht hr.cell, rfl, hb⟩
theorem mono_leave1 {tmps : Array Value} {D1 R : Nat} {w0 w : World} {v : Bool} (h10 : w0.heap.size ≤ D1) (hne : R ≠ D1) (ht : tmps.getD 4 undef = .pointer (some ⟨R, 0, none⟩))
    (d1 : w.heap[D1]? = some (.deferred (some []))) (hr : Boxed w R 4 (.bool v)) (hb : Below w0.heap.size w0 w) :
    bodyPostM Fence.wide 5 Try.prog Try.f27 (Gives (.bool v) w0) .ret { tmps, defers := [{ target := .collected D1, args := #[] }] } w := by
  refine ⟨by simp, .inl ⟨_, _, rfl, run_takeDeferred d1, ?_⟩⟩
  have hr2 : Boxed (w.putObj D1 (.deferred none)) R 4 (.bool v) := (World.putObj_heap_other hne).trans hr
  refine ⟨_, mono_res tmps ht hr2.cell, rfl, ?_⟩
  refine hb.trans ⟨rfl, rfl, rfl, by simp, fun k hk => ?_⟩
  rw [World.putObj_heap_other (by omega)]
theorem int_getD {w : World} {A : Option Addr} {n c : Nat} {l : List Int} (h : Lst intE w A n c l) {k : Nat} (hk : k < n) : ∃ (ad : Addr), A = some ad ∧ (-9223372036854775808 ≤ l.getD k 0 ∧ l.getD k 0 ≤ 9223372036854775807) ∧ ad.block < w.heap.size ∧ w.cell? (ad.add k) = some (.int .i64 (l.getD k 0)) := by
  obtain ⟨ad, x, rfl, hx, hr, hb, hc⟩ := int_at h hk
  have e : l.getD k 0 = x := by rw [List.getD_eq_getElem?_getD, hx]; rfl
  rw [e]
  exact ⟨ad, rfl, hr, hb, hc⟩
/-- What lies below N is as it was; the rank's variable. -/
structure Mo (N : Nat) (Wo : World) (Bk m : Nat) (X : World) : Prop where
  below : Below N Wo X
  box : Boxed X Bk 3 (.int .i64 m)
  ge : N ≤ Bk
theorem Mo.step {N : Nat} {Wo : World} {Bk m b e : Nat} {X Y : World} (h : Mo N Wo Bk m X) (hs : Stp b e X Y) (h1 : N ≤ b) (h2 : N ≤ X.heap.size) (h3 : Bk < b) : Mo N Wo Bk m Y :=
  ⟨h.below.trans (hs.isBelow h1 h2), (hs.heap h.box.lt (.inl h3)).trans h.box, h.ge⟩
theorem Mo.keep {N : Nat} {Wo : World} {Bk m : Nat} {X Y : World} (h : Mo N Wo Bk m X) (hb : Below X.heap.size X Y) (h2 : N ≤ X.heap.size) : Mo N Wo Bk m Y :=
  ⟨h.below.trans (hb.mono h2), (hb.block _ h.box.lt).trans h.box, h.ge⟩
set_option maxRecDepth 100000 in
set_option maxHeartbeats 8000000 in
theorem monotone_any (A : Option Addr) (n c : Nat) (L : List Int) (q0 q1 q2 q3 q4 q5 : Int) (w : World) (hL : Lst intE w A n c L) : Calls Try.prog 27 #[.slice A n c, .agg #[.int .i64 q0, .int .i64 q1, .int .i64 q2, .int .i64 q3, .int .i64 q4, .int .i64 q5]] w (Gives (.bool (VV.monoB L [q0, q1, q2, q3, q4, q5])) w) := by
  have CC := Lib.hid (fun w' => count_any q0 q1 q2 q3 q4 q5 w')
  have HIt := Lib.hid (fun Bn w h => all_iter q0 q1 q2 q3 q4 q5 Bn w h)
  have HLL := Lib.hid hL.len
  have M1 := Lib.hid (VV.monoB_no1 (L := L) (s := [q0, q1, q2, q3, q4, q5]))
  have M2 := Lib.hid (VV.monoB_no2 (L := L) (s := [q0, q1, q2, q3, q4, q5]))
  have MY := Lib.hid (fun hs h h2 => VV.monoB_good (L := L) (s := [q0, q1, q2, q3, q4, q5]) hs h h2)
  have MN := Lib.hid (fun hs h h2 (i k : Nat) hi hk hb => VV.monoB_bad (L := L) (s := [q0, q1, q2, q3, q4, q5]) hs h h2 (i := i) (k := k) hi hk hb)
  obtain ⟨R, hR⟩ : ∃ R, R = VV.monoB L [q0, q1, q2, q3, q4, q5] := ⟨_, rfl⟩
  rw [← hR] at M1 M2 MY MN ⊢
  clear hR
  have hn63 := hL.few
  have HB := Lib.hid (below_three w (.cells #[.slice A n c] 37) (.cells #[.int .i64 q0, .int .i64 q1, .int .i64 q2, .int .i64 q3, .int .i64 q4, .int .i64 q5] 23) (.cells #[.bool false] 4))
  have G0 := Lib.hid (show Boxed (((w.alloc (.cells #[.slice A n c] 37)).alloc (.cells #[.int .i64 q0, .int .i64 q1, .int .i64 q2, .int .i64 q3, .int .i64 q4, .int .i64 q5] 23)).alloc (.cells #[.bool false] 4)) w.heap.size 37 (.slice A n c) from ((Boxed.new w _ _).alloc _).alloc _)
  have S0 := Lib.hid (show BB (((w.alloc (.cells #[.slice A n c] 37)).alloc (.cells #[.int .i64 q0, .int .i64 q1, .int .i64 q2, .int .i64 q3, .int .i64 q4, .int .i64 q5] 23)).alloc (.cells #[.bool false] 4)) (w.heap.size + 1) 23 [q0, q1, q2, q3, q4, q5] from by
    have := (BB.new (w.alloc (.cells #[.slice A n c] 37)) 23 q0 q1 q2 q3 q4 q5).alloc (.cells #[.bool false] 4)
    rwa [World.size_alloc] at this)
  have R0 := Lib.hid (show Boxed (((w.alloc (.cells #[.slice A n c] 37)).alloc (.cells #[.int .i64 q0, .int .i64 q1, .int .i64 q2, .int .i64 q3, .int .i64 q4, .int .i64 q5] 23)).alloc (.cells #[.bool false] 4)) (w.heap.size + 1 + 1) 4 (.bool false) from by
    have := Boxed.new ((w.alloc (.cells #[.slice A n c] 37)).alloc (.cells #[.int .i64 q0, .int .i64 q1, .int .i64 q2, .int .i64 q3, .int .i64 q4, .int .i64 q5] 23)) 4 (.bool false)
    rwa [World.size_alloc, World.size_alloc] at this)
  have L0 := Lib.hid (hL.keep HB.out)
  clear hL
  refine (callsIn_wide (n := 5)).1 ?_
  refine callsIn_of_wp_marks Try.func27 rfl trivial ?_ rfl
  simp only [Try.ntmps27, List.size_toArray, List.length_cons, List.length_nil, Nat.reduceAdd, Nat.reduceSub, Array.replicate_succ, Array.replicate_zero, List.push_toArray, List.append_toArray, List.nil_append, List.cons_append]
  refine wpIn_wide.2 ?_
  go_upto_region 1 with (fail)
  generalize ((w.alloc (.cells #[.slice A n c] 37)).alloc (.cells #[.int .i64 q0, .int .i64 q1, .int .i64 q2, .int .i64 q3, .int .i64 q4, .int .i64 q5] 23)).alloc (.cells #[.bool false] 4) = w1 at *
  have cg := G0.out.cell
  have cr := R0.out.cell
  have fr := R0.out.frozen
  obtain ⟨r0, r1, r2, r3, r4, r5⟩ := cells6 S0.out
  by_cases hcn : cntB [q0, q1, q2, q3, q4, q5] = 0
  · have HE := Lib.hid (M1.out hcn)
    rw [hcn] at CC
    clear hcn
    go_wp2_with fail
    refine (CC.out _).mono ?_
    rintro ev w2 ⟨rfl, hb2⟩
    have B2 := Lib.hid (HB.out.trans (hb2.mono HB.out.size))
    have R2 := Lib.hid ((hb2.block _ R0.out.lt).trans R0.out)
    clear hb2 cg cr fr r0 r1 r2 r3 r4 r5 HB G0 S0 R0 L0
    have cr := (show Boxed w2 (w.heap.size + 1 + 1) 4 (.bool false) from R2.out).cell
    have fr := (show Boxed w2 (w.heap.size + 1 + 1) 4 (.bool false) from R2.out).frozen
    go_wp2
    rw [HE.out]
    exact mono_leave0 rfl (Boxed.set _ R2.out) (B2.out.setCell (p := ⟨w.heap.size + 1 + 1, 0, none⟩) (by show w.heap.size ≤ w.heap.size + 1 + 1; omega) _)
  · obtain ⟨m, hm, hm0, hm1, hml⟩ : ∃ m : Nat, cntB [q0, q1, q2, q3, q4, q5] = m ∧ 0 < m ∧ m ≤ 1024 ∧ listB [q0, q1, q2, q3, q4, q5] = MB.row [q0, q1, q2, q3, q4, q5] 6 m ∧ m = VV.cnt [q0, q1, q2, q3, q4, q5] ∧ MB.okB [q0, q1, q2, q3, q4, q5] = true := by
      have hy := cnt_yes' hcn
      exact ⟨_, hy.2, MB.P_pos _ _, hy.1.2, list_yes' hy.1, rfl, hy.1.1⟩
    obtain ⟨hml, hmc, hok⟩ := hml
    have HOK := Lib.hid hok
    have HMC := Lib.hid hmc
    have HM := Lib.hid hm
    have HCN := Lib.hid hcn
    have HBU := Lib.hid (VV.bu_of_ok (b := [q0, q1, q2, q3, q4, q5]) rfl hok)
    have HRow := Lib.hid hml
    rw [hm] at CC
    have hne3 : ((m : Int) == 0) = false := beq_eq_false_iff_ne.2 (by omega)
    have hd3 : decide ((m : Int) = 0) = false := decide_eq_false (by omega)
    clear hcn hm hml hmc hok M1
    by_cases hnm : n = m
    · have HNM := Lib.hid hnm
      subst hnm
      clear M2
      go_wp2_with fail
      refine (CC.out _).mono ?_
      rintro ev w2 ⟨rfl, hb2⟩
      have B2 := Lib.hid (HB.out.trans (hb2.mono HB.out.size))
      have G2 := Lib.hid ((hb2.block _ G0.out.lt).trans G0.out)
      have S2 := Lib.hid (S0.out.keep hb2 S0.out.lt)
      have R2 := Lib.hid ((hb2.block _ R0.out.lt).trans R0.out)
      have L2 := Lib.hid (L0.out.keep hb2)
      clear hb2 cg cr fr r0 r1 r2 r3 r4 r5 HB G0 S0 R0 L0
      have hR2 := (show Boxed w2 (w.heap.size + 1 + 1) 4 (.bool false) from R2.out).lt
      have cg := (show Boxed w2 w.heap.size 37 (.slice A n c) from G2.out).cell
      obtain ⟨r0, r1, r2, r3, r4, r5⟩ := cells6 S2.out
      go_upto_region 5 with (fail)
      have nb := below_new w2 (.cells #[.int .i64 0] 3)
      have I3 := Lib.hid (show Mo w2.heap.size w2 w2.heap.size 0 (w2.alloc (.cells #[.int .i64 0] 3)) from ⟨nb, Boxed.new w2 _ _, Nat.le_refl _⟩)
      have S3 := Lib.hid (S2.out.keep nb S2.out.lt)
      have hs3 : w2.heap.size + 1 ≤ (w2.alloc (.cells #[.int .i64 0] 3)).heap.size := by simp
      clear nb cg r0 r1 r2 r3 r4 r5
      generalize w2.alloc (.cells #[.int .i64 0] 3) = w3 at *
      obtain ⟨r0, r1, r2, r3, r4, r5⟩ := cells6 S3.out
      go_wp2_with fail
      refine (all_any q0 q1 q2 q3 q4 q5 w3).mono ?_
      rintro ev w10 ⟨rfl, hw10⟩
      have nb := below_new w3 (.cells #[.int .i64 q0, .int .i64 q1, .int .i64 q2, .int .i64 q3, .int .i64 q4, .int .i64 q5] 23)
      have B10 := Lib.hid (BB.new w3 23 q0 q1 q2 q3 q4 q5)
      have hs10 : w10.heap.size = w3.heap.size + 1 := by rw [hw10]; simp
      rw [← hw10] at nb B10
      have I10 := Lib.hid (I3.out.keep nb (by omega))
      have hle10 : w3.heap.size + 1 ≤ w10.heap.size := by omega
      clear r0 r1 r2 r3 r4 r5 nb hw10 hs10 I3 S3 CC
      go_wp2_with fail
      have HRL : Hid ((listB [q0, q1, q2, q3, q4, q5]).length = n ∧ ∀ pre x, (pre ++ [x]) <+: listB [q0, q1, q2, q3, q4, q5] → pre.length < n ∧ x = VV.at6 [q0, q1, q2, q3, q4, q5] pre.length) := Lib.hid (by
        rw [HRow.out]
        refine ⟨MB.row_length _ _ _, fun pre x hp => ?_⟩
        have hl := hp.length_le
        rw [MB.row_length, List.length_append] at hl
        have hlt : pre.length < n := by simp at hl; omega
        refine ⟨hlt, ?_⟩
        obtain ⟨suf, hsuf⟩ := hp
        have h1 := MB.row_at (s := [q0, q1, q2, q3, q4, q5]) (i := 6) hlt
        rw [← hsuf] at h1
        simp at h1
        exact h1)
      generalize listB [q0, q1, q2, q3, q4, q5] = rs at *
      clear HRow
      refine (wpIn_wide (n := 5)).1 (range_one 21 7 (gf := 91) (lb := #[.pointer (some ⟨w3.heap.size, 0, none⟩)]) (encs := fun x => #[aggB x]) (xs := rs) (Bn := w3.heap.size) rfl (enters_of Try.func91 (by kernel_rfl) rfl)
        (HIt.out w3.heap.size w10 B10.out) (by omega) (fun _ => rfl)
        (fun _ pre X => Mo w2.heap.size w2 w2.heap.size pre.length X ∧ ∀ i, i < pre.length → ∀ k, k < 6 → L.getD (VV.rank [q0, q1, q2, q3, q4, q5] (VV.below (VV.at6 [q0, q1, q2, q3, q4, q5] i) k)) 0 ≤ L.getD i 0)
        (fun c _ pre X => c = .ret ∧ Below w.heap.size w X ∧ Boxed X (w.heap.size + 1 + 1) 4 (.bool false) ∧ R = false)
        ?hI ?hIx ?h0 ?assign ?body ?done ?stop)
      case hI =>
        rintro e pre X Y he heX ⟨ht, ha⟩ hs
        exact ⟨ht.step hs (by omega) (by omega) (by omega), ha⟩
      case hIx =>
        rintro c' e pre X Y he heX ⟨rfl, hb, hr, hf⟩ hs
        exact ⟨rfl, hb.trans (hs.isBelow (by have := B2.out.size; omega) hb.size), (hs.heap hr.lt (.inl (by omega))).trans hr, hf⟩
      case h0 =>
        intro e X he heX hb
        exact ⟨I10.out.keep hb (by omega), fun i hi => absurd hi (Nat.not_lt_zero _)⟩
      case assign =>
        rintro l e pre x X he heX ⟨ht, ha⟩ hpre
        have hx6 : x.length = 6 := by rw [(HRL.out.2 pre x hpre).2]; exact (VV.at6_bu HBU.out _).1.len
        obtain ⟨x0, x1, x2, x3, x4, x5, rfl⟩ := six hx6
        clear hpre hx6
        simp only [aggB_lit, List.setIfInBounds_toArray, List.set_cons_zero, List.set_cons_succ]
        have hT := Lib.hid ht
        have HA := Lib.hid ha
        clear ht ha
        gi_wp2
        exact ⟨Kpt.alloc X _ (by omega) heX, ⟨hT.out.keep (below_new X _) (by omega), HA.out⟩, X.heap.size, heX, BB.new X _ _ _ _ _ _ _, rfl⟩
      case body =>
        rintro l e pre x Bx X he heX ⟨ht, ha⟩ hpre hBx hbx
        obtain ⟨hlt, hxe⟩ := HRL.out.2 pre x hpre
        have hxb := VV.at6_bu HBU.out pre.length
        rw [← hxe] at hxb
        obtain ⟨x0, x1, x2, x3, x4, x5, rfl⟩ := six hxb.1.len
        simp only [aggB_lit, List.setIfInBounds_toArray, List.set_cons_zero, List.set_cons_succ]
        have HXE := Lib.hid hxe
        have HXB := Lib.hid hxb
        have HA := Lib.hid ha
        have hT := Lib.hid ht
        have HX := Lib.hid hbx
        have HPL : Hid ((pre ++ [[x0, x1, x2, x3, x4, x5]]).length = pre.length + 1) := Lib.hid (by simp)
        clear ht ha hbx hpre hxe hxb
        have hmo : Try.prog.follows .mixedOrders = true := by kernel_rfl
        generalize hpl : pre.length = mm at *
        clear hpl
        gi_wp2_with fail
        gi_loopw [22] (fun t wr => ∃ k : Nat, k ≤ 6 ∧ t = .int .i64 k ∧ Mo w2.heap.size w2 w2.heap.size mm wr ∧ BB wr Bx 23 [x0, x1, x2, x3, x4, x5] ∧ Kpt w3.heap.size w10.heap.size e X wr ∧ ∀ k', k' < k → L.getD (VV.rank [q0, q1, q2, q3, q4, q5] (VV.below [x0, x1, x2, x3, x4, x5] k')) 0 ≤ L.getD mm 0) (fun t _ => 6 - (intOf t).toNat)
        case atStart => exact ⟨0, Nat.zero_le _, rfl, hT.out, HX.out, Kpt.refl _ _ _ _, fun k' h => absurd h (Nat.not_lt_zero _)⟩
        case round =>
          obtain ⟨k, hk, rfl, hmo', hbx, hkp, hko⟩ := hrel
          have MT := Lib.hid hmo'
          have XT := Lib.hid hbx
          have KT := Lib.hid hkp
          have HKO := Lib.hid hko
          have hzr := hkp.size
          clear hmo' hbx hkp hko hT HX
          by_cases hk6 : k < 6
          · have hbb := VV.below_bu HXB.out.1 k
            obtain ⟨z0, z1, z2, z3, z4, z5, hz6⟩ := six hbb.1.len
            have hrk := VV.rankB_in HOK.out rfl (by have := HMC.out; show VV.cnt [q0, q1, q2, q3, q4, q5] ≤ 1024; omega) hbb.1 (hbb.2.trans HXB.out.2)
            have hrl := VV.rank_lt HBU.out hbb.1 (hbb.2.trans HXB.out.2)
            rw [← HMC.out] at hrl
            have RB := fun w' => rankBelow_any q0 q1 q2 q3 q4 q5 x0 x1 x2 x3 x4 x5 k hk6 (by
              have h1 := HXB.out.1.pos k hk6
              have h2 := HXB.out.2 k hk6
              have h3 := okB_at HOK.out (k := k) (by simpa using hk6)
              omega) w'
            rw [hrk] at RB
            have HRB := Lib.hid RB
            clear RB hz6 hbb hrk
            obtain ⟨r, hr⟩ : ∃ r, r = VV.rank [q0, q1, q2, q3, q4, q5] (VV.below [x0, x1, x2, x3, x4, x5] k) := ⟨_, rfl⟩
            rw [← hr] at HRB hrl
            have HRR := Lib.hid hr
            clear hr
            have hlr := L2.out.keep (show Below w2.heap.size w2 wr from MT.out.below)
            obtain ⟨ad, had, hxr, hadl, ca⟩ := int_getD hlr hrl
            obtain ⟨ad2, had2, hxm, hadl2, cm⟩ := int_getD hlr hlt
            have hAA : ad2 = ad := by rw [had] at had2; injection had2 with e; exact e.symm
            rw [hAA] at cm
            clear hAA had2 hadl2 hlr ad2
            generalize hX1 : L.getD r 0 = xr at *
            generalize hX2 : L.getD mm 0 = xm at *
            have HX1 := Lib.hid hX1
            have HX2 := Lib.hid hX2
            have HAD := Lib.hid had
            have CA := Lib.hid ca
            have CM := Lib.hid cm
            clear hX1 hX2 ca cm
            have HF2 := Lib.hid (show ∀ (wz : World), Below w2.heap.size w2 wz → Boxed wz w.heap.size 37 (.slice A n c) ∧ BB wz (w.heap.size + 1) 23 [q0, q1, q2, q3, q4, q5] from fun wz hb => ⟨(hb.block _ (by omega)).trans G2.out, S2.out.keep hb (by omega)⟩)
            subst had
            have MY_ := Lib.hid (MT.out.keep (below_drawn wr) (by omega))
            have XY := Lib.hid (XT.out.keep (below_drawn wr) XT.out.lt)
            have KY := Lib.hid (KT.out.trans (Kpt.below (Bn := w3.heap.size) (b := w10.heap.size) (e := e) (below_drawn wr) (by omega) (by omega)))
            have hzY' : wr.heap.size ≤ wr.drew.heap.size := Nat.le_of_eq rfl
            have hadl' : ad.block < wr.drew.heap.size := hadl
            have CA' := Lib.hid (show wr.drew.cell? (ad.add r) = some (.int .i64 xr) from CA.out)
            have CM' := Lib.hid (show wr.drew.cell? (ad.add mm) = some (.int .i64 xm) from CM.out)
            clear MT XT KT CA CM hadl
            have CA := CA'
            have CM := CM'
            have hadl := hadl'
            clear CA' CM' hadl'
            gi_wp2_with fail
            refine region_held_in (S := fun w' => Boxed w' w.heap.size 37 (.slice (some ad) n c) ∧ BB w' (w.heap.size + 1) 23 [q0, q1, q2, q3, q4, q5] ∧ BB w' Bx 23 [x0, x1, x2, x3, x4, x5] ∧ Boxed w' w2.heap.size 3 (.int .i64 mm) ∧ w'.cell? (ad.add r) = some (.int .i64 xr) ∧ w'.cell? (ad.add mm) = some (.int .i64 xm)) hmo (by kernel_rfl) ?_ ⟨(HF2.out _ MY_.out.below).1, (HF2.out _ MY_.out.below).2, XY.out, MY_.out.box, CA.out, CM.out⟩ (fun hHeld => ?_)
            · rintro ⟨_, _, h⟩; exact h
            generalize wr.drew = Y at *
            refine wpAnyH_take (i := 0) (oi := { dst := some 25, op := Op.load 37 (Operand.tmp 2), type := 37, pos := "valuation.go:46", after := #[], guard := none }) (v := ?_) rfl (by kernel_rfl) (by kernel_rfl) (by kernel_rfl) (fun _ _ _ h => h) (Or.inl ⟨by rfl, ?_⟩) (by assumption) ?_
            rotate_left
            · intro w hSw; (try dsimp only at hSw); obtain ⟨hg, hs, hB, hm, ca, cm⟩ := hSw; have d0 := hg.cell; have d1 := hm.cell; obtain ⟨r0, r1, r2, r3, r4, r5⟩ := cells6 hB; obtain ⟨s0, s1, s2, s3, s4, s5⟩ := cells6 hs; go_simp; try with_reducible rfl
            (try simp only [Act.put, List.setIfInBounds_toArray, List.set_cons_zero, List.set_cons_succ])
            refine wpAnyH_take (i := 1) (oi := { dst := some 26, op := Op.load 23 (Operand.tmp 3), type := 23, pos := "valuation.go:46", after := #[], guard := none }) (v := ?_) rfl (by kernel_rfl) (by kernel_rfl) (by kernel_rfl) (fun _ _ _ h => h) (Or.inl ⟨by rfl, ?_⟩) (by assumption) ?_
            rotate_left
            · intro w hSw; (try dsimp only at hSw); obtain ⟨hg, hs, hB, hm, ca, cm⟩ := hSw; have d0 := hg.cell; have d1 := hm.cell; obtain ⟨r0, r1, r2, r3, r4, r5⟩ := cells6 hB; obtain ⟨s0, s1, s2, s3, s4, s5⟩ := cells6 hs; go_simp; try with_reducible rfl
            (try simp only [Act.put, List.setIfInBounds_toArray, List.set_cons_zero, List.set_cons_succ])
            refine wpAnyH_take (i := 2) (oi := { dst := some 27, op := Op.load 23 (Operand.tmp 7), type := 23, pos := "valuation.go:46", after := #[], guard := none }) (v := ?_) rfl (by kernel_rfl) (by kernel_rfl) (by kernel_rfl) (fun _ _ _ h => h) (Or.inl ⟨by rfl, ?_⟩) (by assumption) ?_
            rotate_left
            · intro w hSw; (try dsimp only at hSw); obtain ⟨hg, hs, hB, hm, ca, cm⟩ := hSw; have d0 := hg.cell; have d1 := hm.cell; obtain ⟨r0, r1, r2, r3, r4, r5⟩ := cells6 hB; obtain ⟨s0, s1, s2, s3, s4, s5⟩ := cells6 hs; go_simp; try with_reducible rfl
            (try simp only [Act.put, List.setIfInBounds_toArray, List.set_cons_zero, List.set_cons_succ])
            refine wpAnyH_take (i := 3) (oi := { dst := some 28, op := Op.move (Operand.tmp 8), type := 3, pos := "valuation.go:46", after := #[], guard := none }) (v := ?_) rfl (by kernel_rfl) (by kernel_rfl) (by kernel_rfl) (fun _ _ _ h => h) (Or.inl ⟨by rfl, ?_⟩) (by assumption) ?_
            rotate_left
            · intro w hSw; (try dsimp only at hSw); obtain ⟨hg, hs, hB, hm, ca, cm⟩ := hSw; have d0 := hg.cell; have d1 := hm.cell; obtain ⟨r0, r1, r2, r3, r4, r5⟩ := cells6 hB; obtain ⟨s0, s1, s2, s3, s4, s5⟩ := cells6 hs; go_simp; try with_reducible rfl
            (try simp only [Act.put, List.setIfInBounds_toArray, List.set_cons_zero, List.set_cons_succ])
            refine wpAnyH_take (i := 7) (oi := { dst := some 32, op := Op.load 37 (Operand.tmp 2), type := 37, pos := "valuation.go:46", after := #[], guard := none }) (v := ?_) rfl (by kernel_rfl) (by kernel_rfl) (by kernel_rfl) (fun _ _ _ h => h) (Or.inl ⟨by rfl, ?_⟩) (by assumption) ?_
            rotate_left
            · intro w hSw; (try dsimp only at hSw); obtain ⟨hg, hs, hB, hm, ca, cm⟩ := hSw; have d0 := hg.cell; have d1 := hm.cell; obtain ⟨r0, r1, r2, r3, r4, r5⟩ := cells6 hB; obtain ⟨s0, s1, s2, s3, s4, s5⟩ := cells6 hs; go_simp; try with_reducible rfl
            (try simp only [Act.put, List.setIfInBounds_toArray, List.set_cons_zero, List.set_cons_succ])
            refine wpAnyH_take (i := 8) (oi := { dst := some 33, op := Op.load 3 (Operand.tmp 6), type := 3, pos := "valuation.go:46", after := #[], guard := none }) (v := ?_) rfl (by kernel_rfl) (by kernel_rfl) (by kernel_rfl) (fun _ _ _ h => h) (Or.inl ⟨by rfl, ?_⟩) (by assumption) ?_
            rotate_left
            · intro w hSw; (try dsimp only at hSw); obtain ⟨hg, hs, hB, hm, ca, cm⟩ := hSw; have d0 := hg.cell; have d1 := hm.cell; obtain ⟨r0, r1, r2, r3, r4, r5⟩ := cells6 hB; obtain ⟨s0, s1, s2, s3, s4, s5⟩ := cells6 hs; go_simp; try with_reducible rfl
            (try simp only [Act.put, List.setIfInBounds_toArray, List.set_cons_zero, List.set_cons_succ])
            refine wpAnyH_take (i := 9) (oi := { dst := some 34, op := Op.indexAddr 37 (Operand.tmp 32) (Operand.tmp 33), type := 0, pos := "valuation.go:46", after := #[{ on := 7, ground := Ground.data }, { on := 8, ground := Ground.data }], guard := none }) (v := ?_) rfl (by kernel_rfl) (by kernel_rfl) (by kernel_rfl) (fun _ _ _ h => h) (Or.inl ⟨by rfl, ?_⟩) (by assumption) ?_
            rotate_left
            · intro w hSw; (try dsimp only at hSw); obtain ⟨hg, hs, hB, hm, ca, cm⟩ := hSw; have d0 := hg.cell; have d1 := hm.cell; obtain ⟨r0, r1, r2, r3, r4, r5⟩ := cells6 hB; obtain ⟨s0, s1, s2, s3, s4, s5⟩ := cells6 hs; go_simp; try with_reducible rfl
            (try simp only [Act.put, List.setIfInBounds_toArray, List.set_cons_zero, List.set_cons_succ])
            refine wpAnyH_take (i := 10) (oi := { dst := some 35, op := Op.load 2 (Operand.tmp 34), type := 2, pos := "valuation.go:46", after := #[{ on := 9, ground := Ground.data }], guard := none }) (v := ?_) rfl (by kernel_rfl) (by kernel_rfl) (by kernel_rfl) (fun _ _ _ h => h) (Or.inl ⟨by rfl, ?_⟩) (by assumption) ?_
            rotate_left
            · intro w hSw; (try dsimp only at hSw); obtain ⟨hg, hs, hB, hm, ca, cm⟩ := hSw; have d0 := hg.cell; have d1 := hm.cell; obtain ⟨r0, r1, r2, r3, r4, r5⟩ := cells6 hB; obtain ⟨s0, s1, s2, s3, s4, s5⟩ := cells6 hs; go_simp; try with_reducible rfl
            (try simp only [Act.put, List.setIfInBounds_toArray, List.set_cons_zero, List.set_cons_succ])
            refine wpAnyH_ready (rs := [4]) (by kernel_rfl) (by simp) ?_
            refine AllReadyH.cons (o := { dst := some 29, op := Op.call { callee := Callee.value (Operand.func 55), args := #[Operand.tmp 26, Operand.tmp 27, Operand.tmp 28], argTypes := #[23, 23, 3] }, type := 3, pos := "valuation.go:46", after := #[{ on := 1, ground := Ground.data }, { on := 2, ground := Ground.data }, { on := 3, ground := Ground.data }], guard := none }) rfl (fun K hK => ?_) AllReadyH.nil
            go_simp
            refine (HRB.out _).mono ?_
            rintro ev wz ⟨rfl, hbz⟩
            have hzz := hbz.size
            have MZ := Lib.hid (MY_.out.keep hbz (by omega))
            have XZ := Lib.hid (XY.out.keep hbz XY.out.lt)
            have KZ := Lib.hid (KY.out.trans (Kpt.below hbz (by omega) (by omega)))
            have CZ := Lib.hid (show wz.cell? (ad.add r) = some (.int .i64 xr) ∧ wz.cell? (ad.add mm) = some (.int .i64 xm) from ⟨(hbz.cell (p := ad.add r) (by rw [block_of_add]; exact hadl)).trans CA.out, (hbz.cell (p := ad.add mm) (by rw [block_of_add]; exact hadl)).trans CM.out⟩)
            clear hbz MY_ XY KY CA CM
            refine hK.out _ _ ?_ (fun hHeld => ?_)
            · exact ⟨(HF2.out _ MZ.out.below).1, (HF2.out _ MZ.out.below).2, XZ.out, MZ.out.box, CZ.out.1, CZ.out.2⟩
            clear hK K
            (try simp only [Act.put, List.setIfInBounds_toArray, List.set_cons_zero, List.set_cons_succ])
            refine wpAnyH_take (i := 5) (oi := { dst := some 30, op := Op.indexAddr 37 (Operand.tmp 25) (Operand.tmp 29), type := 0, pos := "valuation.go:46", after := #[{ on := 0, ground := Ground.data }, { on := 4, ground := Ground.data }], guard := none }) (v := ?_) rfl (by kernel_rfl) (by kernel_rfl) (by kernel_rfl) (fun _ _ _ h => h) (Or.inl ⟨by rfl, ?_⟩) (by assumption) ?_
            rotate_left
            · intro w hSw; (try dsimp only at hSw); obtain ⟨hg, hs, hB, hm, ca, cm⟩ := hSw; have d0 := hg.cell; have d1 := hm.cell; obtain ⟨r0, r1, r2, r3, r4, r5⟩ := cells6 hB; obtain ⟨s0, s1, s2, s3, s4, s5⟩ := cells6 hs; go_simp; try with_reducible rfl
            (try simp only [Act.put, List.setIfInBounds_toArray, List.set_cons_zero, List.set_cons_succ])
            refine wpAnyH_take (i := 6) (oi := { dst := some 31, op := Op.load 2 (Operand.tmp 30), type := 2, pos := "valuation.go:46", after := #[{ on := 5, ground := Ground.data }], guard := none }) (v := ?_) rfl (by kernel_rfl) (by kernel_rfl) (by kernel_rfl) (fun _ _ _ h => h) (Or.inl ⟨by rfl, ?_⟩) (by assumption) ?_
            rotate_left
            · intro w hSw; (try dsimp only at hSw); obtain ⟨hg, hs, hB, hm, ca, cm⟩ := hSw; have d0 := hg.cell; have d1 := hm.cell; obtain ⟨r0, r1, r2, r3, r4, r5⟩ := cells6 hB; obtain ⟨s0, s1, s2, s3, s4, s5⟩ := cells6 hs; go_simp; try with_reducible rfl
            (try simp only [Act.put, List.setIfInBounds_toArray, List.set_cons_zero, List.set_cons_succ])
            refine wpAnyH_take (i := 11) (oi := { dst := some 36, op := Op.binOp BinOp.gtr 2 (Operand.tmp 31) (Operand.tmp 35) 2, type := 4, pos := "valuation.go:46", after := #[{ on := 6, ground := Ground.data }, { on := 10, ground := Ground.data }], guard := none }) (v := ?_) rfl (by kernel_rfl) (by kernel_rfl) (by kernel_rfl) (fun _ _ _ h => h) (Or.inl ⟨by rfl, ?_⟩) (by assumption) ?_
            rotate_left
            · intro w hSw; (try dsimp only at hSw); obtain ⟨hg, hs, hB, hm, ca, cm⟩ := hSw; have d0 := hg.cell; have d1 := hm.cell; obtain ⟨r0, r1, r2, r3, r4, r5⟩ := cells6 hB; obtain ⟨s0, s1, s2, s3, s4, s5⟩ := cells6 hs; go_simp; try with_reducible rfl
            (try simp only [Act.put, List.setIfInBounds_toArray, List.set_cons_zero, List.set_cons_succ])
            refine wpAnyH_done (by kernel_rfl) ?_ _
            clear hHeld
            by_cases hgt : xm < xr
            · have hdg : decide (xm < xr) = true := decide_eq_true hgt
              have HFL := Lib.hid (MN.out HBU.out HCN.out (by rw [HLL.out, HM.out]) mm k (by rw [← HMC.out]; exact hlt) hk6 (by rw [← HXE.out, ← HRR.out, HX1.out, HX2.out]; omega))
              have RZ := Lib.hid (show Boxed wz (w.heap.size + 1 + 1) 4 (.bool false) from (MZ.out.below.block _ hR2).trans R2.out)
              have cr := (show Boxed wz (w.heap.size + 1 + 1) 4 (.bool false) from RZ.out).cell
              have fr := (show Boxed wz (w.heap.size + 1 + 1) 4 (.bool false) from RZ.out).frozen
              gi_wp2
              exact ⟨KZ.out.trans (Kpt.setCell _ 0 _ (by omega) (.inl (by omega))), rfl, (B2.out.trans (MZ.out.below.mono B2.out.size)).setCell (p := ⟨w.heap.size + 1 + 1, 0, none⟩) (by show w.heap.size ≤ w.heap.size + 1 + 1; omega) _, Boxed.set _ RZ.out, HFL.out⟩
            · have hdg : decide (xm < xr) = false := decide_eq_false hgt
              gi_wp2
              go_roundw
              case rel => exact ⟨k + 1, hk6, by go_num, MZ.out, XZ.out, KZ.out, fun k' hk' => by
                by_cases ek : k' = k
                · rw [ek, ← HRR.out, HX1.out]; omega
                · exact HKO.out k' (by omega)⟩
              case measure => simp [intOf]; omega
          · obtain rfl : k = 6 := by omega
            have cb := MT.out.box.cell
            have fb := MT.out.box.frozen
            have hmm : (mm : Int) + 1 ≤ 1024 := by omega
            have hz9 : w10.heap.size + 2 ≤ wr.heap.size := by omega
            gi_wp2
            refine ⟨KT.out.trans (Kpt.setCell _ 0 _ (by omega) (.inl (by omega))), ⟨MT.out.below.setCell (p := ⟨w2.heap.size, 0, none⟩) (Nat.le_refl _) _, by rw [HPL.out]; exact Boxed.set _ MT.out.box, Nat.le_refl _⟩, fun i hi k' hk' => ?_⟩
            rw [HPL.out] at hi
            by_cases ei : i = mm
            · rw [ei, ← HXE.out]; exact HKO.out k' hk'
            · exact HA.out i (by omega) k' hk'
      case done =>
        rintro e2 Z he2 heZ ⟨ht, ha⟩ hD
        dsimp only
        have hlm := HRL.out.1
        rw [hlm] at ha
        have HE := Lib.hid (MY.out HBU.out HCN.out (by rw [HLL.out, HM.out]) (by rw [← HMC.out]; exact ha))
        have R3 := Lib.hid (show Boxed Z (w.heap.size + 1 + 1) 4 (.bool false) from (ht.below.block _ hR2).trans R2.out)
        have B3 := Lib.hid (B2.out.trans (ht.below.mono B2.out.size))
        have HD := Lib.hid hD
        clear ht ha hD
        have cr := (show Boxed Z (w.heap.size + 1 + 1) 4 (.bool false) from R3.out).cell
        have fr := (show Boxed Z (w.heap.size + 1 + 1) 4 (.bool false) from R3.out).frozen
        go_wp2
        rw [HE.out]
        exact mono_leave1 (D1 := w10.heap.size) (by have := B2.out.size; omega) (by omega) rfl ((Below.heap_setCell _ _ _ _ (by show w10.heap.size ≠ w.heap.size + 1 + 1; omega)).trans HD.out) (Boxed.set _ R3.out) (B3.out.setCell (p := ⟨w.heap.size + 1 + 1, 0, none⟩) (by show w.heap.size ≤ w.heap.size + 1 + 1; omega) _)
      case stop =>
        rintro c' e2 pre Z he2 heZ hpre ⟨rfl, hb, hr, hf⟩ hD
        dsimp only
        refine (wpIn_wide (n := 5)).2 ?_
        have HE := Lib.hid hf
        have R3 := Lib.hid hr
        have B3 := Lib.hid hb
        have HD := Lib.hid hD
        clear hb hr hf hD
        go_wp2
        rw [HE.out]
        exact mono_leave1 (D1 := w10.heap.size) (by have := B2.out.size; omega) (by omega) rfl HD.out R3.out B3.out
    · have HE := Lib.hid (M2.out (by rw [HLL.out, HM.out]; omega))
      have hne4 : ((n : Int) == (m : Int)) = false := beq_eq_false_iff_ne.2 (by omega)
      clear M2
      go_wp2_with fail
      refine (CC.out _).mono ?_
      rintro ev w2 ⟨rfl, hb2⟩
      have B2 := Lib.hid (HB.out.trans (hb2.mono HB.out.size))
      have G2 := Lib.hid ((hb2.block _ G0.out.lt).trans G0.out)
      have R2 := Lib.hid ((hb2.block _ R0.out.lt).trans R0.out)
      clear hb2 cg cr fr r0 r1 r2 r3 r4 r5 HB G0 S0 R0 L0
      have cr := (show Boxed w2 (w.heap.size + 1 + 1) 4 (.bool false) from R2.out).cell
      have fr := (show Boxed w2 (w.heap.size + 1 + 1) 4 (.bool false) from R2.out).frozen
      have cg := (show Boxed w2 w.heap.size 37 (.slice A n c) from G2.out).cell
      go_wp2
      rw [HE.out]
      exact mono_leave0 rfl (Boxed.set _ R2.out) (B2.out.setCell (p := ⟨w.heap.size + 1 + 1, 0, none⟩) (by show w.heap.size ≤ w.heap.size + 1 + 1; omega) _)
end Go.Proofs.Ytgknggighpjcdaa
