/- Both Equals: no claim of its own. -/
import Derived.Test.YtjjpfpgjpmedmaaJK
import Derived.Test.YtjjpfpgjpmedmaaBEq
import Derived.Deep.DeepCutAuto
import Derived.Lib.QuietBelow
namespace Go.Proofs.Ytjjpfpgjpmedmaa
open Go.RowKit
theorem eqN_no {o p v u : Int} {b b' : List Int} {A B : Option Addr} {c d : Nat} {k m : FT} (h : ¬ (o = p ∧ b = b' ∧ v = u ∧ k.len = m.len)) : ME.eqN (NT.n ⟨o, b, v, A, c, k⟩) (NT.n ⟨p, b', u, B, d, m⟩) = false := by
  refine decide_eq_false fun e => h ?_
  have e' : ME.F.cons o b v k.f .nil = ME.F.cons p b' u m.f .nil := e
  injection e' with e1 e2 e3 e4 _
  exact ⟨e1, e2, e3, by rw [← FT.len_f, ← FT.len_f, e4]⟩
theorem eqN_yes {o p v u : Int} {b b' : List Int} {A B : Option Addr} {c d : Nat} {k m : FT} (h1 : o = p) (h2 : b = b') (h3 : v = u) : ME.eqN (NT.n ⟨o, b, v, A, c, k⟩) (NT.n ⟨p, b', u, B, d, m⟩) = decide (k.f = m.f) := by
  subst h1 h2 h3
  refine decide_eq_decide.2 ⟨fun e => ?_, fun e => ?_⟩
  · have e' : ME.F.cons o b v k.f .nil = ME.F.cons o b v m.f .nil := e
    injection e'
  · show ME.F.cons o b v k.f .nil = ME.F.cons o b v m.f .nil
    rw [e]
theorem cons_eq {o p v u : Int} {b b' : List Int} {A B : Option Addr} {c d : Nat} {k m r s : FT} : decide ((FT.cons o b v A c k r).f = (FT.cons p b' u B d m s).f) = (ME.eqN (NT.n ⟨o, b, v, A, c, k⟩) (NT.n ⟨p, b', u, B, d, m⟩) && decide (r.f = s.f)) := by
  unfold ME.eqN
  rw [← Bool.decide_and]
  refine decide_eq_decide.2 ⟨fun e => ?_, fun e => ?_⟩
  · have e' : ME.F.cons o b v k.f r.f = ME.F.cons p b' u m.f s.f := e
    injection e' with e1 e2 e3 e4 e5
    exact ⟨show ME.F.cons o b v k.f .nil = ME.F.cons p b' u m.f .nil by rw [e1, e2, e3, e4], e5⟩
  · obtain ⟨g, e5⟩ := e
    have g' : ME.F.cons o b v k.f .nil = ME.F.cons p b' u m.f .nil := g
    injection g' with e1 e2 e3 e4 _
    show ME.F.cons o b v k.f r.f = ME.F.cons p b' u m.f s.f
    rw [e1, e2, e3, e4, e5]
set_option maxRecDepth 100000 in
set_option maxHeartbeats 8000000 in
theorem requal_any : ∀ (N : Nat) (x y : NT), x.size ≤ N → ∀ (w : World) (ok ok' : Nat → Prop), x.Ok w ok → y.Ok w ok' → Calls Try.prog 12 #[x.val, y.val] w (Gives (.bool (ME.eqN x.n y.n)) w) := by
  intro N
  induction N with
  | zero => intro x y hx; unfold NT.size at hx; omega
  | succ N ih =>
    intro x y hx w ok ok' hok hoy
    have IH := Lib.hid ih
    have hsz : x.k.size ≤ N := by unfold NT.size at hx; omega
    clear ih hx
    obtain ⟨o, b, v, A, c, k⟩ := x
    obtain ⟨p, b', u, B, d, m⟩ := y
    obtain ⟨x0, x1, x2, x3, x4, x5, rfl⟩ := six hok.six
    obtain ⟨y0, y1, y2, y3, y4, y5, rfl⟩ := six hoy.six
    have hn := hok.kids.few
    have hc := hok.kids.cap
    have hn' := hoy.kids.few
    have hc' := hoy.kids.cap
    have hmo : Try.prog.follows .mixedOrders = true := by kernel_rfl
    have EN : Hid (¬ (o = p ∧ [x0, x1, x2, x3, x4, x5] = [y0, y1, y2, y3, y4, y5] ∧ v = u ∧ k.len = m.len) → ME.eqN (NT.n ⟨o, [x0, x1, x2, x3, x4, x5], v, A, c, k⟩) (NT.n ⟨p, [y0, y1, y2, y3, y4, y5], u, B, d, m⟩) = false) := Lib.hid eqN_no
    have EY : Hid (o = p → [x0, x1, x2, x3, x4, x5] = [y0, y1, y2, y3, y4, y5] → v = u → ME.eqN (NT.n ⟨o, [x0, x1, x2, x3, x4, x5], v, A, c, k⟩) (NT.n ⟨p, [y0, y1, y2, y3, y4, y5], u, B, d, m⟩) = decide (k.f = m.f)) := Lib.hid eqN_yes
    have SM := run_same [x0, x1, x2, x3, x4, x5] [y0, y1, y2, y3, y4, y5] rfl rfl
    rw [cellsB_lit, cellsB_lit] at SM
    rw [NT.val_lit, NT.val_lit]
    generalize ME.eqN (NT.n ⟨o, [x0, x1, x2, x3, x4, x5], v, A, c, k⟩) (NT.n ⟨p, [y0, y1, y2, y3, y4, y5], u, B, d, m⟩) = R at *
    have hs1 : (w.alloc (.cells #[.int .i64 o, .int .i64 x0, .int .i64 x1, .int .i64 x2, .int .i64 x3, .int .i64 x4, .int .i64 x5, .int .i64 v, .slice A k.len c] 28)).heap.size = w.heap.size + 1 := by simp
    have BW := Lib.hid ((below_new w (.cells #[.int .i64 o, .int .i64 x0, .int .i64 x1, .int .i64 x2, .int .i64 x3, .int .i64 x4, .int .i64 x5, .int .i64 v, .slice A k.len c] 28)).alloc (by rw [hs1]; omega) (.cells #[.int .i64 p, .int .i64 y0, .int .i64 y1, .int .i64 y2, .int .i64 y3, .int .i64 y4, .int .i64 y5, .int .i64 u, .slice B m.len d] 28))
    have N0 : Hid (((w.alloc (.cells #[.int .i64 o, .int .i64 x0, .int .i64 x1, .int .i64 x2, .int .i64 x3, .int .i64 x4, .int .i64 x5, .int .i64 v, .slice A k.len c] 28)).alloc (.cells #[.int .i64 p, .int .i64 y0, .int .i64 y1, .int .i64 y2, .int .i64 y3, .int .i64 y4, .int .i64 y5, .int .i64 u, .slice B m.len d] 28)).heap[w.heap.size]? = some (.cells #[.int .i64 o, .int .i64 x0, .int .i64 x1, .int .i64 x2, .int .i64 x3, .int .i64 x4, .int .i64 x5, .int .i64 v, .slice A k.len c] 28 (0, 0))) := Lib.hid ((Below.heap_alloc _ _ _ (by rw [hs1]; omega)).trans (heap_new _ _))
    have N1 : Hid (((w.alloc (.cells #[.int .i64 o, .int .i64 x0, .int .i64 x1, .int .i64 x2, .int .i64 x3, .int .i64 x4, .int .i64 x5, .int .i64 v, .slice A k.len c] 28)).alloc (.cells #[.int .i64 p, .int .i64 y0, .int .i64 y1, .int .i64 y2, .int .i64 y3, .int .i64 y4, .int .i64 y5, .int .i64 u, .slice B m.len d] 28)).heap[w.heap.size + 1]? = some (.cells #[.int .i64 p, .int .i64 y0, .int .i64 y1, .int .i64 y2, .int .i64 y3, .int .i64 y4, .int .i64 y5, .int .i64 u, .slice B m.len d] 28 (0, 0))) := Lib.hid (by have := heap_new (w.alloc (.cells #[.int .i64 o, .int .i64 x0, .int .i64 x1, .int .i64 x2, .int .i64 x3, .int .i64 x4, .int .i64 x5, .int .i64 v, .slice A k.len c] 28)) (.cells #[.int .i64 p, .int .i64 y0, .int .i64 y1, .int .i64 y2, .int .i64 y3, .int .i64 y4, .int .i64 y5, .int .i64 u, .slice B m.len d] 28); rwa [hs1] at this)
    have HRX := Lib.hid ((hok.below BW.out).kids.rest)
    have HRY := Lib.hid ((hoy.below BW.out).kids.rest)
    clear hok hoy hs1
    obtain ⟨W0, hW0⟩ : ∃ W0, W0 = (w.alloc (.cells #[.int .i64 o, .int .i64 x0, .int .i64 x1, .int .i64 x2, .int .i64 x3, .int .i64 x4, .int .i64 x5, .int .i64 v, .slice A k.len c] 28)).alloc (.cells #[.int .i64 p, .int .i64 y0, .int .i64 y1, .int .i64 y2, .int .i64 y3, .int .i64 y4, .int .i64 y5, .int .i64 u, .slice B m.len d] 28) := ⟨_, rfl⟩
    go_enter Try.func12, Try.ntmps12
    go_upto_region 1 with (fail)
    rw [← hW0] at N0 N1 BW HRX HRY ⊢
    clear hW0
    obtain ⟨e0, e1, e2, e3, e4, e5, e6, e7, e8⟩ : W0.cell? ⟨w.heap.size, 0, none⟩ = some (.int .i64 o) ∧ W0.cell? ⟨w.heap.size, 1, none⟩ = some (.int .i64 x0) ∧ W0.cell? ⟨w.heap.size, 2, none⟩ = some (.int .i64 x1) ∧ W0.cell? ⟨w.heap.size, 3, none⟩ = some (.int .i64 x2) ∧ W0.cell? ⟨w.heap.size, 4, none⟩ = some (.int .i64 x3) ∧ W0.cell? ⟨w.heap.size, 5, none⟩ = some (.int .i64 x4) ∧ W0.cell? ⟨w.heap.size, 6, none⟩ = some (.int .i64 x5) ∧ W0.cell? ⟨w.heap.size, 7, none⟩ = some (.int .i64 v) ∧ W0.cell? ⟨w.heap.size, 8, none⟩ = some (.slice A k.len c) := by
      refine ⟨?_, ?_, ?_, ?_, ?_, ?_, ?_, ?_, ?_⟩ <;> (rw [cell_of_row _ _ _ _ _ _ N0.out]; rfl)
    obtain ⟨f0, f1, f2, f3, f4, f5, f6, f7, f8⟩ : W0.cell? ⟨w.heap.size + 1, 0, none⟩ = some (.int .i64 p) ∧ W0.cell? ⟨w.heap.size + 1, 1, none⟩ = some (.int .i64 y0) ∧ W0.cell? ⟨w.heap.size + 1, 2, none⟩ = some (.int .i64 y1) ∧ W0.cell? ⟨w.heap.size + 1, 3, none⟩ = some (.int .i64 y2) ∧ W0.cell? ⟨w.heap.size + 1, 4, none⟩ = some (.int .i64 y3) ∧ W0.cell? ⟨w.heap.size + 1, 5, none⟩ = some (.int .i64 y4) ∧ W0.cell? ⟨w.heap.size + 1, 6, none⟩ = some (.int .i64 y5) ∧ W0.cell? ⟨w.heap.size + 1, 7, none⟩ = some (.int .i64 u) ∧ W0.cell? ⟨w.heap.size + 1, 8, none⟩ = some (.slice B m.len d) := by
      refine ⟨?_, ?_, ?_, ?_, ?_, ?_, ?_, ?_, ?_⟩ <;> (rw [cell_of_row _ _ _ _ _ _ N1.out]; rfl)
    by_cases h1 : o = p
    case neg =>
      have g1 : (o != p) = true := bne_iff_ne.2 h1
      have ER := Lib.hid (EN.out (fun g => h1 g.1))
      clear SM EN EY HRX HRY N0 N1 IH
      go_wp2
      go_ret
      exact ⟨by rw [ER.out]; rfl, BW.out⟩
    have g1 : (o != p) = false := by rw [h1]; exact bne_self_eq_false p
    by_cases h2 : [x0, x1, x2, x3, x4, x5] = [y0, y1, y2, y3, y4, y5]
    case neg =>
      rw [decide_eq_false h2] at SM
      have ER := Lib.hid (EN.out (fun g => h2 g.2.1))
      clear EN EY HRX HRY N0 N1 IH h2
      go_wp2
      go_ret
      exact ⟨by rw [ER.out]; rfl, BW.out⟩
    rw [decide_eq_true h2] at SM
    by_cases h3 : v = u
    case neg =>
      have g3 : (v != u) = true := bne_iff_ne.2 h3
      have ER := Lib.hid (EN.out (fun g => h3 g.2.2.1))
      clear EN EY HRX HRY N0 N1 IH h2
      go_wp2
      go_ret
      exact ⟨by rw [ER.out]; rfl, BW.out⟩
    have g3 : (v != u) = false := by rw [h3]; exact bne_self_eq_false u
    by_cases h4 : k.len = m.len
    case neg =>
      have g4 : ((k.len : Int) != (m.len : Int)) = true := bne_iff_ne.2 (by omega)
      have ER := Lib.hid (EN.out (fun g => h4 g.2.2.2))
      clear EN EY HRX HRY N0 N1 IH h2
      go_wp2
      go_ret
      exact ⟨by rw [ER.out]; rfl, BW.out⟩
    have g4 : ((k.len : Int) != (m.len : Int)) = false := by rw [h4]; exact bne_self_eq_false _
    have ER := Lib.hid (EY.out h1 h2 h3)
    have NB : Hid (∀ w', Below W0.heap.size W0 w' → w'.cell? ⟨w.heap.size, 8, none⟩ = some (.slice A k.len c) ∧ w'.cell? ⟨w.heap.size + 1, 8, none⟩ = some (.slice B m.len d)) := Lib.hid (fun w' hb =>
      ⟨by rw [cell_of_row _ _ _ _ _ _ ((hb.block _ (Array.getElem?_eq_some_iff.1 N0.out).1).trans N0.out)]; rfl, by rw [cell_of_row _ _ _ _ _ _ ((hb.block _ (Array.getElem?_eq_some_iff.1 N1.out).1).trans N1.out)]; rfl⟩)
    have HEQ := Lib.hid h4
    clear EN EY h1 h2 h3 N0 N1
    go_upto_region 3 with (fail)
    clear SM g1 g3 g4 h4 e0 e1 e2 e3 e4 e5 e6 e7 f0 f1 f2 f3 f4 f5 f6 f7
    go_wp2_with fail
    go_loopw [5] (fun i wr => ∃ (q : Nat) (rs ss : FT), q ≤ k.len ∧ rs.size ≤ N ∧ i = .int .i64 q ∧ Hid (Rest wr ok A q rs k.len) ∧ Hid (Rest wr ok' B q ss m.len) ∧ Hid (Below W0.heap.size W0 wr) ∧ Hid (R = decide (rs.f = ss.f))) (fun i _ => k.len - (intOf i).toNat)
    case atStart => exact ⟨0, k, m, Nat.zero_le _, hsz, rfl, HRX, HRY, Lib.hid (Below.refl _ _), ER⟩
    case round =>
      clear HRX HRY ER e8 f8
      obtain ⟨q, rs, ss, hq, hrs, rfl, HK, HM, HW, HE⟩ := hrel
      obtain ⟨e8, f8⟩ := NB.out wr HW.out
      by_cases hlt : q < k.len
      · have hlm : q < m.len := by have := HEQ.out; omega
        obtain ⟨ad, o', z0, z1, z2, z3, z4, z5, v', A', c', k', r', rfl, rfl, hok1, hnx1, hbk1, _, a0, a1, a2, a3, a4, a5, a6, a7, a8⟩ := HK.out.open_ hlt
        obtain ⟨bd, p', t0, t1, t2, t3, t4, t5, u', B', d', m', r2, rfl, rfl, hok2, hnx2, hbk2, _, b0, b1, b2, b3, b4, b5, b6, b7, b8⟩ := HM.out.open_ hlm
        have HN1 := Lib.hid hnx1
        have HN2 := Lib.hid hnx2
        have hs2 : NT.size ⟨o', [z0, z1, z2, z3, z4, z5], v', A', c', k'⟩ ≤ N := by unfold FT.size at hrs; unfold NT.size; show k'.size + 1 ≤ N; omega
        have hr2 : r'.size ≤ N := by unfold FT.size at hrs; omega
        have CE := Lib.hid (fun dd os => IH.out ⟨o', [z0, z1, z2, z3, z4, z5], v', A', c', k'⟩ ⟨p', [t0, t1, t2, t3, t4, t5], u', B', d', m'⟩ hs2 (Go.Sort.grow (redrawn wr dd) os) ok ok' (hok1.below (below_regrown wr dd os)) (hok2.below (below_regrown wr dd os)))
        have HE2 : Hid (R = (ME.eqN (NT.n ⟨o', [z0, z1, z2, z3, z4, z5], v', A', c', k'⟩) (NT.n ⟨p', [t0, t1, t2, t3, t4, t5], u', B', d', m'⟩) && decide (r'.f = r2.f))) := Lib.hid (HE.out.trans cons_eq)
        rw [NT.val_lit, NT.val_lit] at CE
        clear hok1 hok2 hnx1 hnx2 HK HM HE hbk1 hbk2
        generalize ME.eqN (NT.n ⟨o', [z0, z1, z2, z3, z4, z5], v', A', c', k'⟩) (NT.n ⟨p', [t0, t1, t2, t3, t4, t5], u', B', d', m'⟩) = bb at *
        have hlt' : (q : Int) < (k.len : Int) := by omega
        have hlm' : (q : Int) < (m.len : Int) := by omega
        go_upto_region 6 with (fail)
        have a0' := cell_regrown a0
        have a1' := cell_regrown a1
        have a2' := cell_regrown a2
        have a3' := cell_regrown a3
        have a4' := cell_regrown a4
        have a5' := cell_regrown a5
        have a6' := cell_regrown a6
        have a7' := cell_regrown a7
        have a8' := cell_regrown a8
        have b0' := cell_regrown b0
        have b1' := cell_regrown b1
        have b2' := cell_regrown b2
        have b3' := cell_regrown b3
        have b4' := cell_regrown b4
        have b5' := cell_regrown b5
        have b6' := cell_regrown b6
        have b7' := cell_regrown b7
        have b8' := cell_regrown b8
        have e8' := cell_regrown e8
        have f8' := cell_regrown f8
        have cS := fun d os => Calls.regrown_of (CE.out d os)
        clear a0 a1 a2 a3 a4 a5 a6 a7 a8 b0 b1 b2 b3 b4 b5 b6 b7 b8 e8 f8 CE
        refine wp_region_quiet_below hmo (by kernel_rfl) ?_
        repeat (quiet_step (exact cS _ _))
        refine wpQuiet_nil ?_
        rintro _ ⟨pz, rfl⟩
        have HW2 := Lib.hid (HW.out.trans ((below_regrown wr pz.d pz.os).mono HW.out.size))
        have H1 := Lib.hid (HN1.out.below (below_regrown wr pz.d pz.os))
        have H2 := Lib.hid (HN2.out.below (below_regrown wr pz.d pz.os))
        clear cS HN1 HN2 HW e8' f8' a0' a1' a2' a3' a4' a5' a6' a7' a8' b0' b1' b2' b3' b4' b5' b6' b7' b8'
        generalize Go.Sort.grow (redrawn wr pz.d) pz.os = V at *
        cases bb with
        | false =>
          have E : Hid (R = false) := Lib.hid (by rw [HE2.out]; rfl)
          have E2 := Lib.hid (BW.out.trans (HW2.out.mono BW.out.size))
          clear HE2 H1 H2 HW2
          go_wp2
          go_ret
          exact ⟨by rw [E.out]; rfl, E2.out⟩
        | true =>
          have HE3 : Hid (R = decide (r'.f = r2.f)) := Lib.hid (by rw [HE2.out, Bool.true_and])
          clear HE2
          go_wp2
          go_roundw
          case rel => exact ⟨q + 1, r', r2, by omega, hr2, by go_num, H1, H2, HW2, HE3⟩
          case measure => simp [intOf]; omega
      · obtain ⟨rfl, _⟩ := HK.out.end_ hlt
        obtain ⟨rfl, _⟩ := HM.out.end_ (by have := HEQ.out; omega)
        have hlt' : ¬ (q : Int) < (k.len : Int) := by omega
        have E : Hid (R = true) := Lib.hid (by rw [HE.out]; rfl)
        have E2 := Lib.hid (BW.out.trans (HW.out.mono BW.out.size))
        clear HK HM HW HE
        go_wp2
        go_ret
        exact ⟨by rw [E.out]; rfl, E2.out⟩
end Go.Proofs.Ytjjpfpgjpmedmaa
