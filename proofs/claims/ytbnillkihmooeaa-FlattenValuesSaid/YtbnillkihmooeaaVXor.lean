/- stepsOf: an exclusive-or's steps. No claim of its own. -/
import Derived.Test.YtbnillkihmooeaaVAtom
import Derived.Test.YtbnillkihmooeaaVWorth
namespace Go.Proofs.Ytbnillkihmooeaa
open Go.RowKit
theorem args_snoc2 (fs : List (List Int → Int)) (g : List Int → Int) : VV.argsV 2 (fs ++ [g]) = VV.stepV 2 (VV.argsV 2 fs) g := by
  cases fs with
  | nil => rfl
  | cons a r => exact VV.argsV_snoc 2 a r g
theorem StW.raise {w w' : World} {A : Option Addr} {n c : Nat} {S : VV.St} {g m : Nat} {M : VV.Vm} (h : StW w A n c S) (hO : OwnV w g m M) (hg : w.grownBy w' (some g)) : StW w' A n c S := by
  refine ⟨⟨h.reads.1, fun hn => ?_⟩, h.len, h.cap, h.few, h.all⟩
  obtain ⟨ad, e, hb, hc⟩ := h.reads.2 hn
  have hne : ad.block ≠ g := fun e => by
    obtain ⟨D, ⟨es, clock, hm, _⟩, _⟩ := hO
    have hl := h.reads.1
    have h0 : 0 < (cellsSs S).length := by rw [hl]; omega
    have c0 := hc 0 _ (List.getElem?_eq_getElem h0)
    unfold World.cell? at c0
    rw [block_of_add, e, hm] at c0
    simp at c0
  exact ⟨ad, e, Nat.lt_of_lt_of_le hb hg.size, fun j u hu => (cell_same (hg.block (ad.add j).block (by rw [block_of_add]; exact hb) (fun e => hne (by rw [block_of_add] at e; simpa using e)))).trans (hc j u hu)⟩
theorem good_len {s : List Int} {S : VV.St} {f : List Int → Int} (h : VV.Good s S f) {p : List Int × Int} (hp : p ∈ S) : VV.Bu p.1 ∧ 0 ≤ p.2 ∧ p.2 ≤ 1000000 := ⟨(h.mem p hp).1, (h.mem p hp).2.2.1, (h.mem p hp).2.2.2⟩
theorem upsM_snoc (s : List Int) (S : VV.St) (p : List Int × Int) (M : VV.Vm) : VV.upsM s (S ++ [p]) M = VV.upM s (VV.upsM s S M) p.1 p.2 := by rw [VV.upsM_append]; rfl
attribute [local go_sem] Oper.semAt_some
set_option maxRecDepth 100000 in
set_option maxHeartbeats 8000000 in
theorem steps_xor (x0 x1 x2 x3 x4 x5 v s0 s1 s2 s3 s4 s5 : Int) (A : Option Addr) (c : Nat) (k : FT) (ok : Nat → Prop) (w : World) (hs4 : K4 [s0, s1, s2, s3, s4, s5]) (hkids : Kids w ok A c k) (hkl : k.len ≤ 2000000)
    (IH : ∀ y : NT, y.n ∈ k.f.roots → ∀ (w' : World) (ok' : Nat → Prop), y.Ok w' ok' → Calls Try.prog 80 #[y.val, .agg #[.int .i64 s0, .int .i64 s1, .int .i64 s2, .int .i64 s3, .int .i64 s4, .int .i64 s5]] w' (GivesSteps [s0, s1, s2, s3, s4, s5] (VV.valN y.n) w')) :
    Calls Try.prog 80 #[.agg #[.int .i64 2, .int .i64 x0, .int .i64 x1, .int .i64 x2, .int .i64 x3, .int .i64 x4, .int .i64 x5, .int .i64 v, .slice A k.len c], .agg #[.int .i64 s0, .int .i64 s1, .int .i64 s2, .int .i64 s3, .int .i64 s4, .int .i64 s5]] w
      (GivesSteps [s0, s1, s2, s3, s4, s5] (VV.nodeV 2 [x0, x1, x2, x3, x4, x5] v (VV.valF k.f)) w) := by
  have hmf : ∀ (fn : Fn) (first cap : Array Value) (w : World), (Instr.makeFunc fn first cap).run Try.prog w = .ok (.func fn first cap) w := fun _ _ _ _ => rfl
  have HK := Lib.hid hkids.rest
  have HIH := Lib.hid IH
  clear IH hkids
  go_enter Try.func80, Try.ntmps80
  go_upto_region 1 with (fail)
  have D0 := Lib.hid (below_two w (.cells #[.int .i64 2, .int .i64 x0, .int .i64 x1, .int .i64 x2, .int .i64 x3, .int .i64 x4, .int .i64 x5, .int .i64 v, .slice A k.len c] 26) (.cells #[.int .i64 s0, .int .i64 s1, .int .i64 s2, .int .i64 s3, .int .i64 s4, .int .i64 s5] 23))
  have E0 := Lib.hid (show B9 ((w.alloc (.cells #[.int .i64 2, .int .i64 x0, .int .i64 x1, .int .i64 x2, .int .i64 x3, .int .i64 x4, .int .i64 x5, .int .i64 v, .slice A k.len c] 26)).alloc (.cells #[.int .i64 s0, .int .i64 s1, .int .i64 s2, .int .i64 s3, .int .i64 s4, .int .i64 s5] 23)) w.heap.size (.int .i64 2) (.int .i64 x0) (.int .i64 x1) (.int .i64 x2) (.int .i64 x3) (.int .i64 x4) (.int .i64 x5) (.int .i64 v) (.slice A k.len c) from ((below_new (w.alloc (.cells #[.int .i64 2, .int .i64 x0, .int .i64 x1, .int .i64 x2, .int .i64 x3, .int .i64 x4, .int .i64 x5, .int .i64 v, .slice A k.len c] 26)) (.cells #[.int .i64 s0, .int .i64 s1, .int .i64 s2, .int .i64 s3, .int .i64 s4, .int .i64 s5] 23)).block w.heap.size (by simp)).trans (heap_new w (.cells #[.int .i64 2, .int .i64 x0, .int .i64 x1, .int .i64 x2, .int .i64 x3, .int .i64 x4, .int .i64 x5, .int .i64 v, .slice A k.len c] 26)))
  have S0 := Lib.hid (show BB ((w.alloc (.cells #[.int .i64 2, .int .i64 x0, .int .i64 x1, .int .i64 x2, .int .i64 x3, .int .i64 x4, .int .i64 x5, .int .i64 v, .slice A k.len c] 26)).alloc (.cells #[.int .i64 s0, .int .i64 s1, .int .i64 s2, .int .i64 s3, .int .i64 s4, .int .i64 s5] 23)) (w.heap.size + 1) 23 [s0, s1, s2, s3, s4, s5] from by
    have := BB.new (w.alloc (.cells #[.int .i64 2, .int .i64 x0, .int .i64 x1, .int .i64 x2, .int .i64 x3, .int .i64 x4, .int .i64 x5, .int .i64 v, .slice A k.len c] 26)) 23 s0 s1 s2 s3 s4 s5
    rwa [World.size_alloc] at this)
  generalize (w.alloc (.cells #[.int .i64 2, .int .i64 x0, .int .i64 x1, .int .i64 x2, .int .i64 x3, .int .i64 x4, .int .i64 x5, .int .i64 v, .slice A k.len c] 26)).alloc (.cells #[.int .i64 s0, .int .i64 s1, .int .i64 s2, .int .i64 s3, .int .i64 s4, .int .i64 s5] 23) = w1 at *
  have hmm := run_makeMap (P := Try.prog) 123 w1
  obtain ⟨w3, hrun, hown3, hg3⟩ := (World.ownsMap_made (H := Unit) w1 Try.prog 23 (plainElem Try.prog 2)).update bLaw bMap (by unfold maxLen; omega) key_z (plainElem_int bInt64 (wf_small (x := 0) (by omega) (by omega)))
  go_upto_region 2 with (fail)
  have hS1 := S0.out.lt
  have hE1 := E0.out.lt
  have hW2 : (w1.alloc (.map #[] 0)).heap.size = w1.heap.size + 1 := by simp
  have D3 := Lib.hid ((D0.out.alloc D0.out.size (.map #[] 0)).grown hg3 (by rw [hW2]; have := D0.out.size; omega) (fun k hk => by injection hk with hk; rw [← hk]; exact D0.out.size))
  have n2 := below_new w1 (.map #[] 0)
  have S3 := Lib.hid (show BB w3 (w.heap.size + 1) 23 [s0, s1, s2, s3, s4, s5] from ⟨((hg3.block (w.heap.size + 1) (by rw [hW2]; omega) (by simp; omega)).trans (n2.block _ hS1)).trans S0.out.1, S0.out.2⟩)
  have E3 := Lib.hid (show B9 w3 w.heap.size (.int .i64 2) (.int .i64 x0) (.int .i64 x1) (.int .i64 x2) (.int .i64 x3) (.int .i64 x4) (.int .i64 x5) (.int .i64 v) (.slice A k.len c) from ((hg3.block w.heap.size (by rw [hW2]; omega) (by simp; omega)).trans (n2.block _ hE1)).trans E0.out)
  have hsz3 : w1.heap.size < w3.heap.size := by have := hg3.size; rw [hW2] at this; omega
  have O3 := Lib.hid (show OwnV w3 w1.heap.size 1 VV.M0 from ⟨_, hown3, reads_m0⟩)
  have k4 := below_new w3 (.cells #[.map (some w1.heap.size)] 123)
  have F4 := Lib.hid (show Fr w w.heap.size (w.heap.size + 1) w1.heap.size w3.heap.size [s0, s1, s2, s3, s4, s5] VV.M0 (w3.alloc (.cells #[.map (some w1.heap.size)] 123)) from
    ⟨S3.out.keep k4 S3.out.lt, (cell_of_row _ _ 0 _ _ _ (heap_new w3 _)).trans rfl, by simp, (O3.out.kept (grown_of k4) (by simp)).small hs4 (m0_le hs4), D0.out.size, by omega, by omega, D3.out.trans (k4.mono D3.out.size)⟩)
  have E4 := Lib.hid (E3.out.keep k4)
  have hge : w.heap.size < w1.heap.size := hE1
  generalize w3.alloc (.cells #[.map (some w1.heap.size)] 123) = w4 at *
  generalize w3.heap.size = gm at *
  clear hrun hmm hown3 hg3 S0 E0 D0 n2 k4 D3 S3 E3 O3 hS1 hE1 hW2
  generalize w1.heap.size = g at *
  obtain ⟨e0, e1, e2, e3, e4, e5, e6, e7, e8⟩ := E4.out.cells
  have f1 := F4.out.cell
  go_wp2_with fail
  clear e0 e1 e2 e3 e4 e5 e6 e7 e8 f1 E4
  have G0 := Lib.hid (VV.good0 hs4.bu)
  go_loopw [42] (fun t wr => ∃ (i : Nat) (rs : FT) (fs : List (List Int → Int)) (f : List Int → Int) (M : VV.Vm) (dn : List ME.Nd), i ≤ k.len ∧ t = .int .i64 i ∧ Rest w ok A i rs k.len ∧ k.f.roots = dn ++ rs.f.roots ∧ VV.valF k.f = fs ++ VV.valF rs.f ∧ VV.GoodM [s0, s1, s2, s3, s4, s5] M f ∧ VV.Fits [s0, s1, s2, s3, s4, s5] f (VV.argsV 2 fs) ∧ Fr w w.heap.size (w.heap.size + 1) g gm [s0, s1, s2, s3, s4, s5] M wr) (fun t _ => k.len - (intOf t).toNat)
  case atStart => exact ⟨0, k, [], fun _ => 0, VV.M0, [], Nat.zero_le _, rfl, HK.out, rfl, rfl, G0.out, fun x _ _ => rfl, F4.out⟩
  case round =>
    obtain ⟨i, rs, fs, f, M, dn, hi, rfl, hrest, hroots, hval, hgm, hfit, hfr⟩ := hrel
    have F := Lib.hid hfr
    have R := Lib.hid hrest
    have RT := Lib.hid hroots
    have VL := Lib.hid hval
    have G := Lib.hid hgm
    have FT_ := Lib.hid hfit
    clear hfr hrest hroots hval hgm hfit F4 G0 HK
    by_cases hlt : i < k.len
    · have hRk := R.out.keep (w' := wr) (ok' := ok) (fun k _ hk => F.out.below.block k hk) F.out.below.size (fun _ h _ => h)
      obtain ⟨ad, o', y0, y1, y2, y3, y4, y5, v', A', c', k', r, rfl, rfl, hyok, hrest', hadl, _, a0, a1, a2, a3, a4, a5, a6, a7, a8⟩ := hRk.open_ hlt
      have YO := Lib.hid hyok
      have R2 : Hid (Rest w ok (some ad) (i + 1) r k.len) := Lib.hid (by
        obtain ⟨ad2, o2, _, _, _, _, _, _, _, _, _, _, r2, _, hcons, _, hr2, _⟩ := R.out.open_ hlt
        simp only [FT.cons.injEq] at hcons
        obtain ⟨_, _, _, _, _, _, rfl⟩ := hcons
        exact hr2)
      clear hRk hyok hrest' R
      go_upto_region 10 with (fail)
      have nb := below_new wr (.cells #[.int .i64 o', .int .i64 y0, .int .i64 y1, .int .i64 y2, .int .i64 y3, .int .i64 y4, .int .i64 y5, .int .i64 v', .slice A' k'.len c'] 26)
      have X1 := Lib.hid (show B9 (wr.alloc (.cells #[.int .i64 o', .int .i64 y0, .int .i64 y1, .int .i64 y2, .int .i64 y3, .int .i64 y4, .int .i64 y5, .int .i64 v', .slice A' k'.len c'] 26)) wr.heap.size (.int .i64 o') (.int .i64 y0) (.int .i64 y1) (.int .i64 y2) (.int .i64 y3) (.int .i64 y4) (.int .i64 y5) (.int .i64 v') (.slice A' k'.len c') from heap_new wr (.cells #[.int .i64 o', .int .i64 y0, .int .i64 y1, .int .i64 y2, .int .i64 y3, .int .i64 y4, .int .i64 y5, .int .i64 v', .slice A' k'.len c'] 26))
      have F1 := Lib.hid (F.out.keep nb)
      have Y1 := Lib.hid (YO.out.below nb)
      clear a0 a1 a2 a3 a4 a5 a6 a7 a8 hadl F YO nb
      generalize wr.alloc (.cells #[.int .i64 o', .int .i64 y0, .int .i64 y1, .int .i64 y2, .int .i64 y3, .int .i64 y4, .int .i64 y5, .int .i64 v', .slice A' k'.len c'] 26) = w5 at *
      generalize wr.heap.size = ge at *
      obtain ⟨b0, b1, b2, b3, b4, b5, b6, b7, b8⟩ := X1.out.cells
      obtain ⟨r0, r1, r3, r4, r5, r6⟩ := cells6 F1.out.sup
      have hin : NT.n ⟨o', [y0, y1, y2, y3, y4, y5], v', A', c', k'⟩ ∈ k.f.roots := by rw [RT.out]; exact List.mem_append_right _ List.mem_cons_self
      have HC := Lib.hid (HIH.out ⟨o', [y0, y1, y2, y3, y4, y5], v', A', c', k'⟩ hin w5 ok Y1.out)
      rw [NT.val_lit] at HC
      clear hin
      generalize hgn : VV.valN (NT.n ⟨o', [y0, y1, y2, y3, y4, y5], v', A', c', k'⟩) = gn at HC
      have GN := Lib.hid hgn
      clear hgn
      go_wp2_with fail
      refine HC.out.mono ?_
      rintro e9 w6 ⟨A1, n1, c1, S, rfl, hst, hgood, hb6⟩
      have F6 := Lib.hid (F1.out.keep hb6)
      have T6 := Lib.hid hst
      have GD := Lib.hid hgood
      have SL := Lib.hid hst.len
      have hfew := hst.few
      clear b0 b1 b2 b3 b4 b5 b6 b7 b8 r0 r1 r3 r4 r5 r6 F1 Y1 X1 HC hst hgood hb6
      go_wp2_with fail
      go_loopw [50] (fun t wr => ∃ j : Nat, j ≤ n1 ∧ t = .int .i64 j ∧ StW wr A1 n1 c1 S ∧ Fr w w.heap.size (w.heap.size + 1) g gm [s0, s1, s2, s3, s4, s5] (VV.upsM [s0, s1, s2, s3, s4, s5] (S.take j) M) wr) (fun t _ => n1 - (intOf t).toNat)
      case atStart => exact ⟨0, Nat.zero_le _, rfl, T6.out, F6.out⟩
      case round =>
        obtain ⟨j, hj, rfl, hst, hfr⟩ := hrel
        have F := Lib.hid hfr
        have T := Lib.hid hst
        clear hst hfr T6 F6
        by_cases hjl : j < n1
        · obtain ⟨az, z0, z1, z2, z3, z4, z5, q, rfl, hrow, hazl, c0, c1', c2, c3, c4, c5, c6⟩ := T.out.at_ hjl
          have GL := good_len GD.out (List.mem_of_getElem? hrow)
          have HU := Lib.hid (show VV.upsM [s0, s1, s2, s3, s4, s5] (S.take (j + 1)) M = VV.upM [s0, s1, s2, s3, s4, s5] (VV.upsM [s0, s1, s2, s3, s4, s5] (S.take j) M) [z0, z1, z2, z3, z4, z5] q by rw [take_snoc' hrow, upsM_snoc])
          have HG := Lib.hid (G.out.raises (S := S.take (j + 1)) fun p hp => ⟨(good_len GD.out (List.mem_of_mem_take hp)).1, (good_len GD.out (List.mem_of_mem_take hp)).2.1⟩)
          clear hrow
          go_upto_region 13 with (fail)
          have nb := below_new wr (.cells #[.int .i64 z0, .int .i64 z1, .int .i64 z2, .int .i64 z3, .int .i64 z4, .int .i64 z5, .int .i64 q] 126)
          have hh := heap_new wr (.cells #[.int .i64 z0, .int .i64 z1, .int .i64 z2, .int .i64 z3, .int .i64 z4, .int .i64 z5, .int .i64 q] 126)
          have d0 := (cell_of_row _ _ 0 _ _ _ hh).trans rfl
          have d1 := (cell_of_row _ _ 1 _ _ _ hh).trans rfl
          have d2 := (cell_of_row _ _ 2 _ _ _ hh).trans rfl
          have d3 := (cell_of_row _ _ 3 _ _ _ hh).trans rfl
          have d4 := (cell_of_row _ _ 4 _ _ _ hh).trans rfl
          have d5 := (cell_of_row _ _ 5 _ _ _ hh).trans rfl
          have d6 := (cell_of_row _ _ 6 _ _ _ hh).trans rfl
          have F7 := Lib.hid (F.out.keep nb)
          have T7 := Lib.hid (T.out.keep nb)
          clear c0 c1' c2 c3 c4 c5 c6 hazl F T nb hh
          generalize wr.alloc (.cells #[.int .i64 z0, .int .i64 z1, .int .i64 z2, .int .i64 z3, .int .i64 z4, .int .i64 z5, .int .i64 q] 126) = w7 at *
          generalize wr.heap.size = gz at *
          go_wp2_with fail
          refine (raise_any z0 z1 z2 z3 z4 z5 q s0 s1 s2 s3 s4 s5 (w.heap.size + 1) gm g 15625 _ w7 F7.out.sup hs4 F7.out.cell F7.out.cellLt F7.out.own (by omega) GL.1 GL.2.1 (by have := GL.2.2; omega)).mono ?_
          rintro e9 w8 ⟨rfl, hO8, hg8⟩
          rw [← HU.out] at hO8
          have F8 := Lib.hid (F7.out.raise hs4 (fun b' v' h => (HG.out.mem b' v' h).2.1) hO8 hg8)
          have T8 := Lib.hid (T7.out.raise F7.out.own hg8)
          clear d0 d1 d2 d3 d4 d5 d6 F7 T7 hO8 hg8 HU HG GL
          go_wp2
          go_roundw
          case rel => exact ⟨j + 1, hjl, by go_num, T8.out, F8.out⟩
          case measure => simp [intOf]; omega
        · obtain rfl : j = n1 := by omega
          have hS : S.take j = S := by rw [← SL.out, List.take_length]
          rw [hS] at F
          have G9 := Lib.hid (G.out.raises (S := S) fun p hp => ⟨(good_len GD.out hp).1, (good_len GD.out hp).2.1⟩)
          have FT9 := Lib.hid (FT_.out.xor GD.out)
          rw [← args_snoc2] at FT9
          clear hS T
          go_wp2
          go_roundw
          case rel => exact ⟨i + 1, _, fs ++ [gn], _, _, dn ++ [NT.n ⟨o', [y0, y1, y2, y3, y4, y5], v', A', c', k'⟩], hlt, by go_num, R2.out, by rw [RT.out, List.append_assoc]; rfl, by rw [VL.out, List.append_assoc, ← GN.out]; rfl, G9.out, FT9.out, F.out⟩
          case measure => simp [intOf]; omega
    · obtain ⟨rfl, rfl⟩ := R.out.end_ hlt
      have f5 := F.out.cell
      have hvl := VL.out
      rw [show VV.valF (FT.f .nil) = [] from rfl, List.append_nil] at hvl
      have HV := Lib.hid hvl
      clear hvl
      go_wp2_with fail
      refine (listOf_any g 15625 _ wr F.out.own (by omega)).mono ?_
      rintro e9 w6 ⟨A', n', c', S, rfl, hst, hent, hb6⟩
      have R9 := Lib.hid (show GivesSteps [s0, s1, s2, s3, s4, s5] (VV.nodeV 2 [x0, x1, x2, x3, x4, x5] v (VV.valF k.f)) w (.returned (.slice A' n' c')) w6 from
        ⟨_, _, _, S, rfl, hst, (G.out.same fun x hx hl => by rw [HV.out]; exact VV.fits_end (.inl rfl) FT_.out hx hl).entries hent, F.out.below.trans (hb6.mono F.out.below.size)⟩)
      clear hst hent hb6 F f5 G
      go_wp2
      go_ret
      exact R9.out
end Go.Proofs.Ytbnillkihmooeaa
