/- Table of the program. No claim of its own. -/
import Derived.Test.YtjjpfpgjpmedmaaJVA
import Derived.Test.YtjjpfpgjpmedmaaVTab
import Derived.Test.YtjjpfpgjpmedmaaJGH
namespace Go.Proofs.Ytjjpfpgjpmedmaa
open Go.RowKit
attribute [local go_sem] Oper.semAt_some
theorem tup_res {w : World} (tmps : Array Value) (v u : Value) (h4 : tmps.getD 4 undef = v) (h5 : tmps.getD 5 undef = u) : (results Try.f55 tmps).run Try.prog w = .ok (.tuple #[v, u]) w := by
  have h4' : tmps[4]?.getD undef = v := by simpa using h4
  have h5' : tmps[5]?.getD undef = u := by simpa using h5
  simp [results, Try.results55, h4', h5', go_sem]
theorem tab_no {tmps : Array Value} {w0 w : World} {u : Int} (h4 : tmps.getD 4 undef = .slice none 0 0) (h5 : tmps.getD 5 undef = .int .i64 u) (hb : Below w0.heap.size w0 w) :
    bodyPostM Fence.wide 5 Try.prog Try.f55 (GivesT ([], u) w0) .ret { tmps, defers := [] } w :=
  ⟨_, tup_res tmps _ _ h4 h5, none, 0, 0, rfl, Lst.nil _, hb⟩
theorem tab_yes {tmps : Array Value} {w0 w : World} {D1 n c : Nat} {A : Option Addr} {l : List Int} (h4 : tmps.getD 4 undef = .slice A n c) (h5 : tmps.getD 5 undef = .int .i64 0) (h10 : w0.heap.size ≤ D1)
    (d1 : w.heap[D1]? = some (.deferred (some []))) (hl : Lst intE w A n c l) (hA : ∀ ad, A = some ad → ad.block ≠ D1) (hb : Below w0.heap.size w0 w) :
    bodyPostM Fence.wide 5 Try.prog Try.f55 (GivesT (l, 0) w0) .ret { tmps, defers := [{ target := .collected D1, args := #[] }] } w := by
  refine ⟨by simp, .inl ⟨_, _, rfl, run_takeDeferred d1, ?_⟩⟩
  refine ⟨_, tup_res tmps _ _ h4 h5, A, n, c, rfl, ⟨⟨hl.reads.1, fun hn => ?_⟩, hl.len, hl.cap, hl.few, hl.fine⟩, ?_⟩
  · obtain ⟨ad, e, h1, h2⟩ := hl.reads.2 hn
    refine ⟨ad, e, by simpa using h1, fun j u hu => ?_⟩
    rw [← h2 j u hu]
    exact cell_same (by rw [block_of_add]; exact World.putObj_heap_other (hA ad e))
  · refine hb.trans ⟨rfl, rfl, rfl, by simp, fun k hk => ?_⟩
    rw [World.putObj_heap_other (by omega)]
theorem cnt_yes' {s : List Int} (h : cntB s ≠ 0) : (MB.okB s = true ∧ MB.P s 6 ≤ 1024) ∧ cntB s = (MB.P s 6 : Nat) := by
  unfold cntB at h ⊢
  by_cases h1 : MB.okB s = true
  · by_cases h2 : MB.P s 6 ≤ 1024
    · exact ⟨⟨h1, h2⟩, by rw [if_pos h1, if_pos h2]⟩
    · rw [if_pos h1, if_neg h2] at h; exact absurd rfl h
  · rw [if_neg h1] at h; exact absurd rfl h
/-- The table so far: its variable, its row; all below N as it was. -/
structure Tb (N : Nat) (Wo : World) (Bt g cap : Nat) (f : List Int → Int) (pre : List (List Int)) (X : World) : Prop where
  below : Below N Wo X
  box : Boxed X Bt 64 (.slice (some ⟨g, 0, none⟩) pre.length cap)
  own : OwnL intE 2 X N (.slice (some ⟨g, 0, none⟩) pre.length cap) (pre.map f)
  ne : Bt ≠ g
  ge : N ≤ Bt
theorem Tb.step {N : Nat} {Wo : World} {Bt g cap b e : Nat} {f : List Int → Int} {pre : List (List Int)} {X Y : World} (h : Tb N Wo Bt g cap f pre X) (hs : Stp b e X Y) (h1 : N ≤ b) (h2 : N ≤ X.heap.size) (h3 : Bt < b) (h4 : g < b) : Tb N Wo Bt g cap f pre Y := by
  refine ⟨h.below.trans (hs.isBelow h1 h2), (hs.heap h.box.lt (.inl h3)).trans h.box, ⟨?_, h.own.2⟩, h.ne, h.ge⟩
  obtain ⟨row, hg, hr⟩ := hs
  refine World.ownsRow.kept (row := row) h.own.1 hg (.inr fun he => ?_)
  have := hr g (by simpa [Value.ownBlock] using he.symm)
  omega
theorem Kpt.grown {Bn b e g : Nat} {X Y : World} (h : X.grownBy Y (some g)) (h1 : Bn < X.heap.size) (h2 : e ≤ X.heap.size) (h3 : g < b) (h4 : Bn ≠ g) : Kpt Bn b e X Y :=
  ⟨h.size, h.block Bn h1 (by simpa using h4), fun k hk1 hk2 => h.block k (by omega) (by simp; omega)⟩
theorem Tb.app {N : Nat} {Wo : World} {Bt g cap : Nat} {f : List Int → Int} {pre : List (List Int)} {V V2 Y : World} {x : List Int} (h : Tb N Wo Bt g cap f pre V) (hN : N ≤ V.heap.size) (hf : -9223372036854775808 ≤ f x ∧ f x ≤ 9223372036854775807) (hb : Below V.heap.size V V2)
    (hown : Y.ownsRow N 2 1 (.slice (some ⟨g, 0, none⟩) (pre.length + 1) cap) (pre.length + 1) (intE.all (pre.map f) ++ [.int .i64 (f x)])) (hg : V2.grownBy Y (some g)) :
    Boxed Y Bt 64 (.slice (some ⟨g, 0, none⟩) pre.length cap) ∧ Tb N Wo Bt g cap f (pre ++ [x]) (Y.setCell ⟨Bt, 0, none⟩ (.slice (some ⟨g, 0, none⟩) (pre.length + 1) cap)) := by
  have hgN := World.ownsRow.lt hown g rfl
  have h2 := hb.size
  have hBt : Boxed Y Bt 64 (.slice (some ⟨g, 0, none⟩) pre.length cap) := (hg.block Bt (Nat.lt_of_lt_of_le h.box.lt h2) (by simpa using h.ne)).trans ((hb.block _ h.box.lt).trans h.box)
  have hB1 : Below N Wo Y := (h.below.trans (hb.mono hN)).grown hg (by have := h.below.size; omega) (fun k hk => by injection hk with hk; omega)
  refine ⟨hBt, ⟨hB1.setCell (p := ⟨Bt, 0, none⟩) (by exact h.ge) _, ?_, ⟨?_, ?_⟩, h.ne, h.ge⟩⟩
  · rw [List.length_append]; exact hBt.set _
  · rw [List.length_append, List.map_append, El.all_append, List.length_append, List.length_map]
    refine World.ownsRow.kept (row := some Bt) hown ?_ (.inr fun e => h.ne (by simpa [Value.ownBlock] using e.symm))
    exact ⟨rfl, rfl, rfl, (KeepsWalks.setCell Y _ _).size, fun k _ hne => Below.heap_setCell _ _ _ k (fun e => hne (by rw [e]))⟩
  · rw [List.map_append]
    exact h.own.2.snoc hf
theorem Tb.keep {N : Nat} {Wo : World} {Bt g cap : Nat} {f : List Int → Int} {pre : List (List Int)} {X Y : World} (h : Tb N Wo Bt g cap f pre X) (hb : Below X.heap.size X Y) (h2 : N ≤ X.heap.size) : Tb N Wo Bt g cap f pre Y :=
  ⟨h.below.trans (hb.mono h2), (hb.block _ h.box.lt).trans h.box, h.own.keep hb, h.ne, h.ge⟩
set_option maxRecDepth 100000 in
set_option maxHeartbeats 8000000 in
theorem table_any (x : NT) (hx : x.size ≤ 2000000) (q0 q1 q2 q3 q4 q5 : Int) (w : World) (ok : Nat → Prop) (hok : x.Ok w ok) : Calls Try.prog 55 #[x.val, .agg #[.int .i64 q0, .int .i64 q1, .int .i64 q2, .int .i64 q3, .int .i64 q4, .int .i64 q5]] w (GivesT (tabE x.n [q0, q1, q2, q3, q4, q5]) w) := by
  have CK := Lib.hid (fun w' (hb : Below w.heap.size w w') => check_any x hx w' ok (hok.below hb))
  have CB := Lib.hid (fun w' => bcheck_any q0 q1 q2 q3 q4 q5 w')
  have CC := Lib.hid (fun w' => count_any q0 q1 q2 q3 q4 q5 w')
  have HIt := Lib.hid (fun Bn w h => all_iter q0 q1 q2 q3 q4 q5 Bn w h)
  have ST := Lib.hid (fun (h : VV.AllOk x.n) (h2 : K4 [q0, q1, q2, q3, q4, q5]) w' (hb : Below w.heap.size w w') => steps_any 2000000 x hx (Nat.le_refl _) h q0 q1 q2 q3 q4 q5 w' ok h2 (hok.below hb))
  have HT : Hid (tabE x.n [q0, q1, q2, q3, q4, q5] = if ME.checkE x.n ≠ 0 then ([], ME.checkE x.n) else if chk [q0, q1, q2, q3, q4, q5] ≠ 0 then ([], chk [q0, q1, q2, q3, q4, q5]) else if cntB [q0, q1, q2, q3, q4, q5] = 0 then ([], 3) else (VV.tab (VV.valN x.n) [q0, q1, q2, q3, q4, q5], 0)) := Lib.hid rfl
  obtain ⟨o, bb, v, A, cc, k⟩ := x
  obtain ⟨x0, x1, x2, x3, x4, x5, rfl⟩ := six hok.six
  rw [NT.val_lit] at CK ST ⊢
  have HB := Lib.hid (below_two w (.cells #[.int .i64 o, .int .i64 x0, .int .i64 x1, .int .i64 x2, .int .i64 x3, .int .i64 x4, .int .i64 x5, .int .i64 v, .slice A k.len cc] 28) (.cells #[.int .i64 q0, .int .i64 q1, .int .i64 q2, .int .i64 q3, .int .i64 q4, .int .i64 q5] 24))
  clear hok hx
  obtain ⟨R, hR⟩ : ∃ R, R = tabE (NT.n ⟨o, [x0, x1, x2, x3, x4, x5], v, A, cc, k⟩) [q0, q1, q2, q3, q4, q5] := ⟨_, rfl⟩
  rw [← hR] at HT ⊢
  clear hR
  obtain ⟨N, hN⟩ : ∃ N, N = NT.n ⟨o, [x0, x1, x2, x3, x4, x5], v, A, cc, k⟩ := ⟨_, rfl⟩
  rw [← hN] at CK ST HT
  clear hN
  have AO : Hid (ME.checkE N = 0 → VV.AllOk N) := Lib.hid VV.AllOk.of
  obtain ⟨f, hf⟩ : ∃ f, f = VV.valN N := ⟨_, rfl⟩
  rw [← hf] at ST HT
  clear hf
  generalize ME.checkE N = ck at *
  have X0 := Lib.hid (below_new (w.alloc (.cells #[.int .i64 o, .int .i64 x0, .int .i64 x1, .int .i64 x2, .int .i64 x3, .int .i64 x4, .int .i64 x5, .int .i64 v, .slice A k.len cc] 28)) (.cells #[.int .i64 q0, .int .i64 q1, .int .i64 q2, .int .i64 q3, .int .i64 q4, .int .i64 q5] 24))
  have E0 := Lib.hid (show B9 ((w.alloc (.cells #[.int .i64 o, .int .i64 x0, .int .i64 x1, .int .i64 x2, .int .i64 x3, .int .i64 x4, .int .i64 x5, .int .i64 v, .slice A k.len cc] 28)).alloc (.cells #[.int .i64 q0, .int .i64 q1, .int .i64 q2, .int .i64 q3, .int .i64 q4, .int .i64 q5] 24)) w.heap.size (.int .i64 o) (.int .i64 x0) (.int .i64 x1) (.int .i64 x2) (.int .i64 x3) (.int .i64 x4) (.int .i64 x5) (.int .i64 v) (.slice A k.len cc) from (X0.out.block w.heap.size (by simp)).trans (heap_new w _))
  have S0 := Lib.hid (show BB ((w.alloc (.cells #[.int .i64 o, .int .i64 x0, .int .i64 x1, .int .i64 x2, .int .i64 x3, .int .i64 x4, .int .i64 x5, .int .i64 v, .slice A k.len cc] 28)).alloc (.cells #[.int .i64 q0, .int .i64 q1, .int .i64 q2, .int .i64 q3, .int .i64 q4, .int .i64 q5] 24)) (w.heap.size + 1) 24 [q0, q1, q2, q3, q4, q5] from by
    have := BB.new (w.alloc (.cells #[.int .i64 o, .int .i64 x0, .int .i64 x1, .int .i64 x2, .int .i64 x3, .int .i64 x4, .int .i64 x5, .int .i64 v, .slice A k.len cc] 28)) 24 q0 q1 q2 q3 q4 q5
    rwa [World.size_alloc] at this)
  clear X0
  obtain ⟨i0, hi, hz0, hz1, hz2⟩ := info_parts infoI64
  refine (callsIn_wide (n := 5)).1 ?_
  refine callsIn_of_wp_marks Try.func55 rfl trivial ?_ rfl
  simp only [Try.ntmps55, List.size_toArray, List.length_cons, List.length_nil, Nat.reduceAdd, Nat.reduceSub, Array.replicate_succ, Array.replicate_zero, List.push_toArray, List.append_toArray, List.nil_append, List.cons_append]
  refine wpIn_wide.2 ?_
  go_upto_region 1 with (fail)
  generalize (w.alloc (.cells #[.int .i64 o, .int .i64 x0, .int .i64 x1, .int .i64 x2, .int .i64 x3, .int .i64 x4, .int .i64 x5, .int .i64 v, .slice A k.len cc] 28)).alloc (.cells #[.int .i64 q0, .int .i64 q1, .int .i64 q2, .int .i64 q3, .int .i64 q4, .int .i64 q5] 24) = w1 at *
  obtain ⟨e0, e1, e2, e3, e4, e5, e6, e7, e8⟩ := E0.out.cells
  obtain ⟨r0, r1, r2, r3, r4, r5⟩ := cells6 S0.out
  by_cases hck : ck = 0
  · have HT1 := Lib.hid (HT.out.trans (if_neg (by omega)))
    have AOK := Lib.hid (AO.out hck)
    subst hck
    clear HT AO
    go_wp2_with fail
    refine (CK.out _ HB.out).mono ?_
    rintro ev w2 ⟨rfl, hb2⟩
    have B2 := Lib.hid (HB.out.trans (hb2.mono HB.out.size))
    have E2 := Lib.hid (E0.out.keep hb2)
    have S2 := Lib.hid (S0.out.keep hb2 S0.out.lt)
    clear e0 e1 e2 e3 e4 e5 e6 e7 e8 r0 r1 r2 r3 r4 r5 HB E0 S0 hb2
    obtain ⟨e0, e1, e2, e3, e4, e5, e6, e7, e8⟩ := E2.out.cells
    obtain ⟨r0, r1, r2, r3, r4, r5⟩ := cells6 S2.out
    by_cases hcb : chk [q0, q1, q2, q3, q4, q5] = 0
    · have HT2 := Lib.hid (HT1.out.trans (if_neg (by omega)))
      have KK := Lib.hid (k4_of rfl hcb)
      rw [hcb] at CB
      clear HT1
      go_wp2_with fail
      refine (CB.out _).mono ?_
      rintro ev w3 ⟨rfl, hb3⟩
      have B3 := Lib.hid (B2.out.trans (hb3.mono B2.out.size))
      have E3 := Lib.hid (E2.out.keep hb3)
      have S3 := Lib.hid (S2.out.keep hb3 S2.out.lt)
      clear e0 e1 e2 e3 e4 e5 e6 e7 e8 r0 r1 r2 r3 r4 r5 B2 E2 S2 hb3 hcb
      obtain ⟨e0, e1, e2, e3, e4, e5, e6, e7, e8⟩ := E3.out.cells
      obtain ⟨r0, r1, r2, r3, r4, r5⟩ := cells6 S3.out
      by_cases hcn : cntB [q0, q1, q2, q3, q4, q5] = 0
      · have HE := Lib.hid (HT2.out.trans (if_pos hcn))
        rw [hcn] at CC
        clear hcn HT2
        go_wp2_with fail
        refine (CC.out _).mono ?_
        rintro ev w4 ⟨rfl, hb4⟩
        have B4 := Lib.hid (B3.out.trans (hb4.mono B3.out.size))
        clear e0 e1 e2 e3 e4 e5 e6 e7 e8 r0 r1 r2 r3 r4 r5 B3 E3 S3 hb4
        go_wp2
        rw [HE.out]
        exact tab_no rfl rfl B4.out
      · have HE := Lib.hid (HT2.out.trans (if_neg hcn))
        obtain ⟨m, hm, hm0, hm1, hml⟩ : ∃ m : Nat, cntB [q0, q1, q2, q3, q4, q5] = m ∧ 0 < m ∧ m ≤ 1024 ∧ listB [q0, q1, q2, q3, q4, q5] = MB.row [q0, q1, q2, q3, q4, q5] 6 m ∧ m = VV.cnt [q0, q1, q2, q3, q4, q5] := by
          have hy := cnt_yes' hcn
          exact ⟨_, hy.2, MB.P_pos _ _, hy.1.2, list_yes' hy.1, rfl⟩
        obtain ⟨hml, hmc⟩ := hml
        have HRow : Hid ((listB [q0, q1, q2, q3, q4, q5]).length = m ∧ VV.all [q0, q1, q2, q3, q4, q5] = listB [q0, q1, q2, q3, q4, q5] ∧ ∀ x ∈ listB [q0, q1, q2, q3, q4, q5], VV.Bu x ∧ VV.Le x [q0, q1, q2, q3, q4, q5]) := Lib.hid (by
          have e : VV.all [q0, q1, q2, q3, q4, q5] = listB [q0, q1, q2, q3, q4, q5] := by unfold VV.all; rw [hml, hmc]
          exact ⟨by rw [hml]; exact MB.row_length _ _ _, e, fun x hx => (VV.all_mem KK.out.bu).1 (e ▸ hx)⟩)
        have SA := Lib.hid (ST.out AOK.out KK.out)
        rw [hm] at CC
        have hne3 : ((m : Int) == 0) = false := beq_eq_false_iff_ne.2 (by omega)
        clear hcn HT2 hm ST AOK hml hmc
        go_wp2_with fail
        refine (CC.out _).mono ?_
        rintro ev w4 ⟨rfl, hb4⟩
        have B4 := Lib.hid (B3.out.trans (hb4.mono B3.out.size))
        have E4 := Lib.hid (E3.out.keep hb4)
        have S4 := Lib.hid (S3.out.keep hb4 S3.out.lt)
        clear e0 e1 e2 e3 e4 e5 e6 e7 e8 r0 r1 r2 r3 r4 r5 B3 E3 S3 hb4
        obtain ⟨e0, e1, e2, e3, e4, e5, e6, e7, e8⟩ := E4.out.cells
        obtain ⟨r0, r1, r2, r3, r4, r5⟩ := cells6 S4.out
        go_wp2_with fail
        refine (SA.out _ B4.out).mono ?_
        rintro ev w5 ⟨A1, n1, c1, S, rfl, hst, hgood, hb5⟩
        have B5 := Lib.hid (B4.out.trans (hb5.mono B4.out.size))
        have S5 := Lib.hid (S4.out.keep hb5 S4.out.lt)
        have T5 := Lib.hid hst
        have GD := Lib.hid hgood
        clear e0 e1 e2 e3 e4 e5 e6 e7 e8 r0 r1 r2 r3 r4 r5 B4 E4 S4 hb5 hst hgood SA
        go_upto_region 10 with (fail)
        have nb := below_new w5 (.cells #[.slice A1 n1 c1] 113)
        have Q6 := Lib.hid (Boxed.new w5 113 (.slice A1 n1 c1))
        have B6 := Lib.hid (B5.out.trans (nb.mono B5.out.size))
        have S6 := Lib.hid (S5.out.keep nb S5.out.lt)
        have T6 := Lib.hid (T5.out.keep nb)
        clear nb B5 S5 T5
        generalize w5.alloc (.cells #[.slice A1 n1 c1] 113) = w6 at *
        generalize w5.heap.size = Bs at *
        obtain ⟨r0, r1, r2, r3, r4, r5⟩ := cells6 S6.out
        go_wp2_with fail
        refine (CC.out _).mono ?_
        rintro ev w7 ⟨rfl, hb7⟩
        have N7 := Lib.hid hb7
        have S7 := Lib.hid (S6.out.keep hb7 S6.out.lt)
        have hs7 := hb7.size
        clear r0 r1 r2 r3 r4 r5 hb7
        go_wp2_with (at_make; refine wpList_make_own _ rfl _ _ 64 rfl w6.heap.size 2 i0 (.int .i64 0) 1 Try.underlying64 hi hz0 hz1 .i64 .i64 _ m rfl rfl rfl ?b2 ?b3 hs7 ?_)
        case b2 => rw [hz2]; omega
        case b3 => unfold maxLen; omega
        intro w8 hrow hg8
        have hg7 : w6.heap.size ≤ w7.heap.size := hs7
        have N8 := Lib.hid (N7.out.grown hg8 hs7 (by simp))
        have S8 := Lib.hid (show BB w8 (w.heap.size + 1) 24 [q0, q1, q2, q3, q4, q5] from ⟨(hg8.block _ S7.out.lt (by simp)).trans S7.out.1, S7.out.2⟩)
        have O8 := Lib.hid (show OwnL intE 2 w8 w6.heap.size (.slice (some ⟨w7.heap.size, 0, none⟩) 0 m) [] from ⟨hrow, El.Fine.nil _⟩)
        have hs8 : w7.heap.size < w8.heap.size := (World.ownsRow.lt hrow w7.heap.size rfl).2
        clear hrow hg8 N7 S7 S6
        go_upto_region 11 with (fail)
        have nb := below_new w8 (.cells #[.slice (some ⟨w7.heap.size, 0, none⟩) 0 m] 64)
        have S9 := Lib.hid (S8.out.keep nb S8.out.lt)
        have I9 := Lib.hid (show Tb w6.heap.size w6 w8.heap.size w7.heap.size m (VV.worth S) [] (w8.alloc (.cells #[.slice (some ⟨w7.heap.size, 0, none⟩) 0 m] 64)) from
          ⟨N8.out.trans (nb.mono N8.out.size), Boxed.new w8 _ _, O8.out.keep nb, by omega, by have := N8.out.size; omega⟩)
        have hs9 : w8.heap.size + 1 ≤ (w8.alloc (.cells #[.slice (some ⟨w7.heap.size, 0, none⟩) 0 m] 64)).heap.size := by simp
        have hN8 := N8.out.size
        clear nb S8 O8 N8
        generalize w8.alloc (.cells #[.slice (some ⟨w7.heap.size, 0, none⟩) 0 m] 64) = w9 at *
        generalize w7.heap.size = g at *
        generalize w8.heap.size = Bt at *
        obtain ⟨r0, r1, r2, r3, r4, r5⟩ := cells6 S9.out
        go_wp2_with fail
        refine (all_any q0 q1 q2 q3 q4 q5 w9).mono ?_
        rintro ev w10 ⟨rfl, hw10⟩
        have nb := below_new w9 (.cells #[.int .i64 q0, .int .i64 q1, .int .i64 q2, .int .i64 q3, .int .i64 q4, .int .i64 q5] 24)
        have B10 := Lib.hid (BB.new w9 24 q0 q1 q2 q3 q4 q5)
        have hs10 : w10.heap.size = w9.heap.size + 1 := by rw [hw10]; simp
        rw [← hw10] at nb B10
        have I10 := Lib.hid (I9.out.keep nb (by omega))
        have HS10 := Lib.hid hs10
        have hle10 : w9.heap.size + 1 ≤ w10.heap.size := by omega
        have hBs : Bs < w6.heap.size := Q6.out.lt
        have HFi := Lib.hid (show ∀ x, VV.Bu x → VV.Le x [q0, q1, q2, q3, q4, q5] → 0 ≤ VV.worth S x ∧ VV.worth S x ≤ 1000000 from fun x _ _ => ⟨VV.worth_nonneg _ _, VV.worth_le (by decide) fun p hp _ => (GD.out.mem p hp).2.2.2⟩)
        clear r0 r1 r2 r3 r4 r5 nb hw10 hs10 I9 S9 CC CB CK
        go_wp2_with fail
        generalize listB [q0, q1, q2, q3, q4, q5] = rs at *
        refine (wpIn_wide (n := 5)).1 (range_one 32 10 (gf := 95) (lb := #[.pointer (some ⟨w9.heap.size, 0, none⟩)]) (encs := fun x => #[aggB x]) (xs := rs) (Bn := w9.heap.size) rfl (enters_of Try.func95 (by kernel_rfl) rfl)
          (HIt.out w9.heap.size w10 B10.out) (by omega) (fun _ => rfl)
          (fun _ pre X => Tb w6.heap.size w6 Bt g m (VV.worth S) pre X)
          (fun _ _ _ _ => False)
          ?hI ?hIx ?h0 ?assign ?body ?done ?stop)
        case hI =>
          intro e pre X Y he heX ht hs
          exact ht.step hs (by omega) (by omega) (by omega) (by omega)
        case hIx => exact fun _ _ _ _ _ _ _ h _ => h
        case h0 =>
          intro e X he heX hb
          exact I10.out.keep hb (by omega)
        case assign =>
          intro l e pre x X he heX ht hpre
          have hx6 : x.length = 6 := (HRow.out.2.2 x (hpre.subset (by simp))).1.len
          obtain ⟨x0, x1, x2, x3, x4, x5, rfl⟩ := six hx6
          clear hpre hx6
          simp only [aggB_lit, List.setIfInBounds_toArray, List.set_cons_zero, List.set_cons_succ]
          have hT := Lib.hid ht
          clear ht
          gi_wp2
          exact ⟨Kpt.alloc X _ (by omega) heX, hT.out.keep (below_new X _) (by omega), X.heap.size, heX, BB.new X _ _ _ _ _ _ _, rfl⟩
        case body =>
          intro l e pre x Bx X he heX ht hpre hBx hbx
          have hxin := HRow.out.2.2 x (hpre.subset (by simp))
          have hlen : pre.length + 1 ≤ m := by have := hpre.length_le; rw [HRow.out.1] at this; simpa using this
          obtain ⟨x0, x1, x2, x3, x4, x5, rfl⟩ := six hxin.1.len
          have hfi := HFi.out _ hxin.1 hxin.2
          simp only [aggB_lit, List.setIfInBounds_toArray, List.set_cons_zero, List.set_cons_succ]
          obtain ⟨c0, c1', c2, c3, c4, c5⟩ := cells6 hbx
          have cb := ht.box.cell
          have cs := (show Boxed X Bs 113 (.slice A1 n1 c1) from (ht.below.block Bs hBs).trans Q6.out).cell
          have hXN : w6.heap.size ≤ X.heap.size := by omega
          have hT := Lib.hid ht
          have HX := Lib.hid hbx
          have HF1 := Lib.hid hfi
          clear ht hbx hpre hxin c0 c1' c2 c3 c4 c5 cb cs hfi
          have hmo : Try.prog.follows .mixedOrders = true := by kernel_rfl
          have TY := Lib.hid (hT.out.keep (below_drawn X) (by omega))
          have XY := Lib.hid (HX.out.keep (below_drawn X) HX.out.lt)
          have KY := Lib.hid (Kpt.below (Bn := w9.heap.size) (b := w10.heap.size) (e := e) (below_drawn X) (by omega) heX)
          have hzY : X.drew.heap.size = X.heap.size := rfl
          have hzY' : X.heap.size ≤ X.drew.heap.size := Nat.le_of_eq hzY.symm
          clear hzY hT HX
          gi_wp2_with fail
          refine region_held_L_in (S := fun w' => Boxed w' Bt 64 (.slice (some ⟨g, 0, none⟩) pre.length m) ∧ Boxed w' Bs 113 (.slice A1 n1 c1) ∧ BB w' Bx 24 [x0, x1, x2, x3, x4, x5]) 6 hmo (by kernel_rfl) ?_ ⟨TY.out.box, (TY.out.below.block Bs hBs).trans Q6.out, XY.out⟩ (fun hHeld => ?_)
          · rintro ⟨_, _, h⟩; exact h
          generalize X.drew = Y at *
          refine wpAnyL_take (i := 0) (oi := { dst := some 33, op := Op.load 64 (Operand.tmp 9), type := 64, pos := "valuation.go:32", after := #[], guard := none }) (v := ?_) rfl (by kernel_rfl) (by kernel_rfl) (by kernel_rfl) (fun _ _ _ h => h) (Or.inl ⟨by rfl, ?_⟩) (by assumption) ?_
          rotate_left
          · intro w hSw; (try dsimp only at hSw); obtain ⟨hb, hs, hB⟩ := hSw; have d0 := hb.cell; have d1 := hs.cell; obtain ⟨r0, r1, r2, r3, r4, r5⟩ := cells6 hB; go_simp; try with_reducible rfl
          (try simp only [Act.put, List.setIfInBounds_toArray, List.set_cons_zero, List.set_cons_succ])
          refine wpAnyL_take (i := 1) (oi := { dst := some 34, op := Op.load 113 (Operand.tmp 8), type := 113, pos := "valuation.go:32", after := #[], guard := none }) (v := ?_) rfl (by kernel_rfl) (by kernel_rfl) (by kernel_rfl) (fun _ _ _ h => h) (Or.inl ⟨by rfl, ?_⟩) (by assumption) ?_
          rotate_left
          · intro w hSw; (try dsimp only at hSw); obtain ⟨hb, hs, hB⟩ := hSw; have d0 := hb.cell; have d1 := hs.cell; obtain ⟨r0, r1, r2, r3, r4, r5⟩ := cells6 hB; go_simp; try with_reducible rfl
          (try simp only [Act.put, List.setIfInBounds_toArray, List.set_cons_zero, List.set_cons_succ])
          refine wpAnyL_take (i := 2) (oi := { dst := some 35, op := Op.load 24 (Operand.tmp 10), type := 24, pos := "valuation.go:32", after := #[], guard := none }) (v := ?_) rfl (by kernel_rfl) (by kernel_rfl) (by kernel_rfl) (fun _ _ _ h => h) (Or.inl ⟨by rfl, ?_⟩) (by assumption) ?_
          rotate_left
          · intro w hSw; (try dsimp only at hSw); obtain ⟨hb, hs, hB⟩ := hSw; have d0 := hb.cell; have d1 := hs.cell; obtain ⟨r0, r1, r2, r3, r4, r5⟩ := cells6 hB; go_simp; try with_reducible rfl
          (try simp only [Act.put, List.setIfInBounds_toArray, List.set_cons_zero, List.set_cons_succ])
          refine wpAnyL_ready (rs := [3]) (by kernel_rfl) (by simp) ?_
          refine AllReadyL.cons (o := { dst := some 36, op := Op.call { callee := Callee.value (Operand.func 83), args := #[Operand.tmp 34, Operand.tmp 35], argTypes := #[113, 24] }, type := 2, pos := "valuation.go:32", after := #[{ on := 1, ground := Ground.data }, { on := 2, ground := Ground.data }], guard := none }) rfl (fun K hK => ?_) AllReadyL.nil
          go_simp
          refine (worth_any S A1 n1 c1 x0 x1 x2 x3 x4 x5 _ (T6.out.keep TY.out.below)).mono ?_
          rintro ev w5' ⟨rfl, hb5⟩
          have hz5 := hb5.size
          have T5' := Lib.hid (TY.out.keep hb5 (by omega))
          have X5' := Lib.hid (XY.out.keep hb5 XY.out.lt)
          have K5' := Lib.hid (KY.out.trans (Kpt.below hb5 (by omega) (by omega)))
          clear hb5 TY XY KY
          refine hK.out _ _ ?_ (fun hHeld => ?_)
          · exact ⟨T5'.out.box, (T5'.out.below.block Bs hBs).trans Q6.out, X5'.out⟩
          clear hK K
          (try simp only [Act.put, List.setIfInBounds_toArray, List.set_cons_zero, List.set_cons_succ])
          refine wpAnyL_ready (rs := [4]) (by kernel_rfl) (by simp) ?_
          refine AllReadyL.cons (o := { dst := some 37, op := Op.buildSlice 64 1 #[(0, Operand.tmp 36)], type := 64, pos := "valuation.go:32", after := #[{ on := 3, ground := Ground.data }], guard := none }) rfl (fun K hK => ?_) AllReadyL.nil
          go_simp
          have nb := below_new w5' (.cells #[.int .i64 (VV.worth S [x0, x1, x2, x3, x4, x5])] 2)
          have N6 := Lib.hid (heap_new w5' (.cells #[.int .i64 (VV.worth S [x0, x1, x2, x3, x4, x5])] 2))
          have NB := Lib.hid nb
          have hz6 := nb.size
          have X6' := Lib.hid (X5'.out.keep nb X5'.out.lt)
          have T6' := Lib.hid (T5'.out.keep nb (by omega))
          have K6' := Lib.hid (K5'.out.trans (Kpt.below nb (by omega) (by omega)))
          clear nb X5' K5'
          refine hK.out _ _ ?_ (fun hHeld => ?_)
          · exact ⟨T6'.out.box, (T6'.out.below.block Bs hBs).trans Q6.out, X6'.out⟩
          clear hK K
          (try simp only [Act.put, List.setIfInBounds_toArray, List.set_cons_zero, List.set_cons_succ])
          refine wpAnyL_ready (rs := [5]) (by kernel_rfl) (by simp) ?_
          refine AllReadyL.cons (o := { dst := some 38, op := Op.call { callee := Callee.builtin Builtin.append, args := #[Operand.tmp 33, Operand.tmp 37], argTypes := #[64, 64] }, type := 64, pos := "valuation.go:32", after := #[{ on := 0, ground := Ground.data }, { on := 4, ground := Ground.data }, { on := 3, ground := Ground.chain }], guard := none }) rfl (fun K hK => ?_) AllReadyL.nil
          generalize w5'.alloc (.cells #[.int .i64 (VV.worth S [x0, x1, x2, x3, x4, x5])] 2) = w6' at *
          refine step_append_fits (by rfl) _ _ 64 (by rfl) w6.heap.size 2 i0 1 Try.underlying64 hi hz1 g pre.length m (intE.all (pre.map (VV.worth S))) (by rfl) (by have := T6'.out.own.1; rwa [List.length_map] at this) ⟨w5'.heap.size, 0, none⟩ 1 1 [.int .i64 (VV.worth S [x0, x1, x2, x3, x4, x5])] (by rfl) rfl (World.news_of_block N6.out) (fun u hu => by rw [List.mem_singleton.1 hu]; rfl) hlen ?_
          intro w7' hown hg7'
          have hz7 := hg7'.size
          have AP := Lib.hid (T5'.out.app (x := [x0, x1, x2, x3, x4, x5]) (by omega) (by have := HF1.out; omega) NB.out hown hg7')
          have X7' := Lib.hid (show BB w7' Bx 24 [x0, x1, x2, x3, x4, x5] from ⟨(hg7'.block Bx X6'.out.lt (by simp; omega)).trans X6'.out.1, X6'.out.2⟩)
          have S7' := Lib.hid (show Boxed w7' Bs 113 (.slice A1 n1 c1) from (hg7'.block Bs (by omega) (by simp; omega)).trans ((T6'.out.below.block Bs hBs).trans Q6.out))
          have K7' := Lib.hid (K6'.out.trans (Kpt.grown hg7' (by omega) (by omega) (by omega) (by omega)))
          clear hown hg7' T6' X6' K6' T5' NB N6
          refine hK.out _ _ ?_ (fun hHeld => ?_)
          · exact ⟨AP.out.1, S7'.out, X7'.out⟩
          clear hK K
          (try simp only [Act.put, List.setIfInBounds_toArray, List.set_cons_zero, List.set_cons_succ])
          refine wpAnyL_ready (rs := [6]) (by kernel_rfl) (by simp) ?_
          refine AllReadyL.last (o := { dst := none, op := Op.store 64 (Operand.tmp 9) (Operand.tmp 38), type := 0, pos := "valuation.go:32", after := #[{ on := 5, ground := Ground.data }, { on := 5, ground := Ground.chain }, { on := 0, ground := Ground.phase }, { on := 1, ground := Ground.phase }, { on := 2, ground := Ground.phase }, { on := 3, ground := Ground.phase }, { on := 4, ground := Ground.phase }, { on := 5, ground := Ground.phase }], guard := none }) rfl (fun K hK => ?_)
          have cb := AP.out.1.cell
          have fb := AP.out.1.frozen
          go_simp
          refine hK.out _ _ trivial (fun _ => ?_)
          clear hK K
          (try simp only [Act.put, List.setIfInBounds_toArray, List.set_cons_zero, List.set_cons_succ])
          refine wpAnyL_done (by kernel_rfl) ?_ _
          gi_wp2
          exact ⟨K7'.out.trans (Kpt.setCell _ 0 _ (by omega) (.inl (by omega))), AP.out.2⟩
        case done =>
          intro e2 Z he2 heZ ht hD
          dsimp only
          have hlm := HRow.out.1
          have cb := ht.box.cell
          have hT := Lib.hid ht
          have HD := Lib.hid hD
          clear ht hD
          go_wp2
          rw [HE.out]
          have ht := hT.out
          have hall : VV.tab f [q0, q1, q2, q3, q4, q5] = rs.map (VV.worth S) := by
            unfold VV.tab
            rw [HRow.out.2.1]
            refine List.map_congr_left fun x hx => ?_
            have := HRow.out.2.2 x hx
            exact (GD.out.val x this.1 this.2).symm
          rw [hall]
          refine tab_yes (D1 := w10.heap.size) rfl rfl ?_ HD.out ⟨Reads.of_own (A := some ⟨g, 0, none⟩) (c := m) (show Z.ownsRow w6.heap.size 2 1 (.slice (some ⟨g, 0, none⟩) m m) m (intE.all (rs.map (VV.worth S))) from by have := ht.own.1; rwa [List.length_map, hlm] at this), by rw [List.length_map]; exact hlm, by omega, by omega, ht.own.2⟩ ?_ ?_
          · have := B6.out.size; omega
          · intro ad had; injection had with had; subst had; show g ≠ w10.heap.size; omega
          · exact B6.out.trans (ht.below.mono B6.out.size)
        case stop => exact fun _ _ _ _ _ _ _ h _ => h.elim
    · have HE := Lib.hid (HT1.out.trans (if_pos hcb))
      have hne3 : (chk [q0, q1, q2, q3, q4, q5] == 0) = false := beq_eq_false_iff_ne.2 hcb
      generalize chk [q0, q1, q2, q3, q4, q5] = cb at *
      clear HT1
      go_wp2_with fail
      refine (CB.out _).mono ?_
      rintro ev w3 ⟨rfl, hb3⟩
      have B3 := Lib.hid (B2.out.trans (hb3.mono B2.out.size))
      clear e0 e1 e2 e3 e4 e5 e6 e7 e8 r0 r1 r2 r3 r4 r5 B2 E2 S2 hb3
      go_wp2
      rw [HE.out]
      exact tab_no rfl rfl B3.out
  · have HE := Lib.hid (HT.out.trans (if_pos hck))
    have hne2 : (ck == 0) = false := beq_eq_false_iff_ne.2 hck
    go_wp2_with fail
    refine (CK.out _ HB.out).mono ?_
    rintro ev w2 ⟨rfl, hb2⟩
    have B2 := Lib.hid (HB.out.trans (hb2.mono HB.out.size))
    clear e0 e1 e2 e3 e4 e5 e6 e7 e8 r0 r1 r2 r3 r4 r5 HB E0 S0 hb2
    go_wp2
    rw [HE.out]
    exact tab_no rfl rfl B2.out
end Go.Proofs.Ytjjpfpgjpmedmaa
