/- Both Depths, deeper: no claim of its own. -/
import Derived.Test.YtpemamkhaiiaaaaEVis
import Derived.Deep.DeepCutAuto
namespace Go.Proofs.Ytpemamkhaiiaaaa
open Go.RowKit
set_option maxRecDepth 100000 in
set_option maxHeartbeats 4000000 in
theorem depth_any : ∀ (N : Nat), N ≤ 2000000 → ∀ (x : NT), x.size ≤ N → ∀ (w : World) (ok : Nat → Prop), x.Ok w ok → Calls Try.prog 15 #[x.val] w (Gives (.int .i64 x.n.depth) w) := by
  intro N
  induction N with
  | zero => intro _ x hx; unfold NT.size at hx; omega
  | succ N ih =>
    intro hN x hx w ok hok
    have IH := Lib.hid (ih (by omega))
    have hsz : x.k.size ≤ N := by unfold NT.size at hx; omega
    have hdz : x.k.f.depth ≤ N := Nat.le_trans (ME.F.depth_size _) (by rw [FT.size_f]; exact hsz)
    clear ih hx
    obtain ⟨o, b, v, A, c, k⟩ := x
    obtain ⟨x0, x1, x2, x3, x4, x5, rfl⟩ := six hok.six
    have hn := hok.kids.few
    have hc := hok.kids.cap
    have HB := Lib.hid (below_new w (.cells #[.int .i64 o, .int .i64 x0, .int .i64 x1, .int .i64 x2, .int .i64 x3, .int .i64 x4, .int .i64 x5, .int .i64 v, .slice A k.len c] 26))
    have HR0 := Lib.hid ((hok.below HB.out).kids.rest)
    have N0 := Lib.hid (heap_new w (.cells #[.int .i64 o, .int .i64 x0, .int .i64 x1, .int .i64 x2, .int .i64 x3, .int .i64 x4, .int .i64 x5, .int .i64 v, .slice A k.len c] 26))
    have HD : Hid ((NT.n ⟨o, [x0, x1, x2, x3, x4, x5], v, A, c, k⟩).depth = k.f.depth + 1) := Lib.hid rfl
    rw [NT.val_lit]
    clear hok
    obtain ⟨R, hR⟩ : ∃ R, (NT.n ⟨o, [x0, x1, x2, x3, x4, x5], v, A, c, k⟩).depth = R := ⟨_, rfl⟩
    rw [hR] at HD ⊢
    clear hR
    obtain ⟨W0, hW0⟩ : ∃ W0, W0 = w.alloc (.cells #[.int .i64 o, .int .i64 x0, .int .i64 x1, .int .i64 x2, .int .i64 x3, .int .i64 x4, .int .i64 x5, .int .i64 v, .slice A k.len c] 26) := ⟨_, rfl⟩
    go_enter Try.func15, Try.ntmps15
    go_upto_region 1 with (fail)
    rw [← hW0] at N0 HB HR0 ⊢
    clear hW0
    have NB : Hid (∀ w', Below W0.heap.size W0 w' → w'.cell? ⟨w.heap.size, 8, none⟩ = some (.slice A k.len c)) := Lib.hid (fun w' hb => by rw [cell_of_row _ _ _ _ _ _ ((hb.block w.heap.size (Array.getElem?_eq_some_iff.1 N0.out).1).trans N0.out)]; rfl)
    have b8 := NB.out W0 (Below.refl _ _)
    clear N0
    go_wp2_with fail
    go_loopw [3, 9] (fun d i wr => ∃ (q : Nat) (rs : FT) (m : Nat), q ≤ k.len ∧ rs.size ≤ N ∧ m ≤ N ∧ i = .int .i64 q ∧ d = .int .i64 m ∧ Hid (Rest wr ok A q rs k.len) ∧ Hid (Below W0.heap.size W0 wr) ∧ Hid (max m rs.f.depth = k.f.depth)) (fun _ i _ => k.len - (intOf i).toNat)
    case atStart => exact ⟨0, k, 0, Nat.zero_le _, hsz, Nat.zero_le _, rfl, rfl, HR0, Lib.hid (Below.refl _ _), Lib.hid (by omega)⟩
    case round =>
      clear HR0 b8
      obtain ⟨q, rs, m, hq, hrs, hm, rfl, rfl, HK, HW, HM⟩ := hrel
      have b8 := NB.out wr HW.out
      by_cases hlt : q < k.len
      · obtain ⟨ad, o', y0, y1, y2, y3, y4, y5, v', A', c', k', r', rfl, rfl, hok', hnx, hbk, _, z0, z1, z2, z3, z4, z5, z6, z7, z8⟩ := HK.out.open_ hlt
        have HN := Lib.hid hnx
        have hs2 : NT.size ⟨o', [y0, y1, y2, y3, y4, y5], v', A', c', k'⟩ ≤ N := by unfold FT.size at hrs; unfold NT.size; show k'.size + 1 ≤ N; omega
        have hr2 : r'.size ≤ N := by unfold FT.size at hrs; omega
        have HB3 := Lib.hid (below_new wr (.cells #[.int .i64 o', .int .i64 y0, .int .i64 y1, .int .i64 y2, .int .i64 y3, .int .i64 y4, .int .i64 y5, .int .i64 v', .slice A' k'.len c'] 26))
        have CE := Lib.hid (IH.out ⟨o', [y0, y1, y2, y3, y4, y5], v', A', c', k'⟩ hs2 _ ok (hok'.below HB3.out))
        have hde : (NT.n ⟨o', [y0, y1, y2, y3, y4, y5], v', A', c', k'⟩).depth ≤ N := Nat.le_trans (ME.Nd.depth_size _) (by rw [NT.size_n]; exact hs2)
        have HM2 : Hid (max (max m (NT.n ⟨o', [y0, y1, y2, y3, y4, y5], v', A', c', k'⟩).depth) r'.f.depth = k.f.depth) := Lib.hid (by rw [← HM.out]; show _ = max m (max (k'.f.depth + 1) r'.f.depth); exact Nat.max_assoc _ _ _)
        rw [NT.val_lit] at CE
        clear hok' hnx HK HM
        generalize (NT.n ⟨o', [y0, y1, y2, y3, y4, y5], v', A', c', k'⟩).depth = e at *
        have hlt' : (q : Int) < (k.len : Int) := by omega
        go_wp2_with fail
        refine CE.out.mono ?_
        rintro ev w3 ⟨rfl, hb3⟩
        have HW3 := Lib.hid (HW.out.trans ((HB3.out.trans (hb3.mono HB3.out.size)).mono HW.out.size))
        have HN3 := Lib.hid ((HN.out.below HB3.out).below hb3)
        clear hb3 HB3 HW HN CE z0 z1 z2 z3 z4 z5 z6 z7 z8 b8
        rcases Nat.lt_or_ge m e with hme | hme
        · have hmi : (m : Int) < (e : Int) := by omega
          have hma : max (m : Int) (e : Int) = (e : Int) := by omega
          have hmn : max m e = e := by omega
          rw [hmn] at HM2
          go_wp2
          go_roundw
          case rel => exact ⟨q + 1, r', e, by omega, hr2, hde, by go_num, by simp, HN3, HW3, HM2⟩
          case measure => simp [intOf]; omega
        · have hmi : ¬ (m : Int) < (e : Int) := by omega
          have hma : max (m : Int) (e : Int) = (m : Int) := by omega
          have hmn : max m e = m := by omega
          rw [hmn] at HM2
          go_wp2
          go_roundw
          case rel => exact ⟨q + 1, r', m, by omega, hr2, hm, by go_num, by simp, HN3, HW3, HM2⟩
          case measure => simp [intOf]; omega
      · obtain ⟨rfl, _⟩ := HK.out.end_ hlt
        have hlt' : ¬ (q : Int) < (k.len : Int) := by omega
        have hmR : m + 1 = R := by have h1 := HM.out; have h2 := HD.out; rw [show FT.f .nil = .nil from rfl, show ME.F.depth .nil = 0 from rfl] at h1; omega
        have E := Lib.hid (HB.out.trans (HW.out.mono HB.out.size))
        clear HK HM HW
        go_wp2
        go_ret
        exact ⟨by subst hmR; go_num, E.out⟩
set_option maxRecDepth 100000 in
set_option maxHeartbeats 4000000 in
theorem deeper_any : ∀ (N : Nat) (x : NT), x.size ≤ N → ∀ (w : World) (ok : Nat → Prop) (l : Nat), l ≤ 100 → x.Ok w ok → Calls Try.prog 24 #[x.val, .int .i64 l] w (Gives (.bool (decide (l < x.n.depth))) w) := by
  intro N
  induction N with
  | zero => intro x hx; unfold NT.size at hx; omega
  | succ N ih =>
    intro x hx w ok l hl hok
    have IH := Lib.hid ih
    have hsz : x.k.size ≤ N := by unfold NT.size at hx; omega
    clear ih hx
    obtain ⟨o, b, v, A, c, k⟩ := x
    obtain ⟨x0, x1, x2, x3, x4, x5, rfl⟩ := six hok.six
    have hn := hok.kids.few
    have hc := hok.kids.cap
    have HB := Lib.hid (below_new w (.cells #[.int .i64 o, .int .i64 x0, .int .i64 x1, .int .i64 x2, .int .i64 x3, .int .i64 x4, .int .i64 x5, .int .i64 v, .slice A k.len c] 26))
    have HR0 := Lib.hid ((hok.below HB.out).kids.rest)
    have N0 := Lib.hid (heap_new w (.cells #[.int .i64 o, .int .i64 x0, .int .i64 x1, .int .i64 x2, .int .i64 x3, .int .i64 x4, .int .i64 x5, .int .i64 v, .slice A k.len c] 26))
    have HD : Hid ((NT.n ⟨o, [x0, x1, x2, x3, x4, x5], v, A, c, k⟩).depth = k.f.depth + 1) := Lib.hid rfl
    rw [NT.val_lit]
    clear hok
    obtain ⟨R, hR⟩ : ∃ R, (NT.n ⟨o, [x0, x1, x2, x3, x4, x5], v, A, c, k⟩).depth = R := ⟨_, rfl⟩
    rw [hR] at HD ⊢
    clear hR
    obtain ⟨W0, hW0⟩ : ∃ W0, W0 = w.alloc (.cells #[.int .i64 o, .int .i64 x0, .int .i64 x1, .int .i64 x2, .int .i64 x3, .int .i64 x4, .int .i64 x5, .int .i64 v, .slice A k.len c] 26) := ⟨_, rfl⟩
    rcases Nat.eq_zero_or_pos l with rfl | hl0
    · have E : Hid (decide (0 < R) = true) := Lib.hid (decide_eq_true (by have := HD.out; omega))
      rw [E.out]
      clear N0 HR0
      go_enter Try.func24, Try.ntmps24
      go_wp2
      go_ret
      exact ⟨rfl, HB.out⟩
    have hl1 : ((l : Int) == 0) = false := by rw [beq_eq_false_iff_ne]; omega
    obtain ⟨l', hl'⟩ : ∃ l' : Nat, l = l' + 1 := ⟨l - 1, by omega⟩
    subst hl'
    go_enter Try.func24, Try.ntmps24
    go_upto_region 1 with (fail)
    rw [← hW0] at N0 HB HR0 ⊢
    clear hW0
    have b8 : W0.cell? ⟨w.heap.size, 8, none⟩ = some (.slice A k.len c) := by rw [cell_of_row _ _ _ _ _ _ N0.out]; rfl
    clear N0
    go_wp2_with fail
    go_loopw [12] (fun i wr => ∃ (q : Nat) (rs : FT), q ≤ k.len ∧ rs.size ≤ N ∧ i = .int .i64 q ∧ Hid (Rest wr ok A q rs k.len) ∧ Hid (Below W0.heap.size W0 wr) ∧ Hid (decide (l' + 1 < R) = decide (l' < rs.f.depth))) (fun i _ => k.len - (intOf i).toNat)
    case atStart => exact ⟨0, k, Nat.zero_le _, hsz, rfl, HR0, Lib.hid (Below.refl _ _), Lib.hid (decide_eq_decide.2 (by rw [HD.out]; omega))⟩
    case round =>
      clear HR0 b8
      obtain ⟨q, rs, hq, hrs, rfl, HK, HW, HM⟩ := hrel
      by_cases hlt : q < k.len
      · obtain ⟨ad, o', y0, y1, y2, y3, y4, y5, v', A', c', k', r', rfl, rfl, hok', hnx, hbk, _, z0, z1, z2, z3, z4, z5, z6, z7, z8⟩ := HK.out.open_ hlt
        have HN := Lib.hid hnx
        have hs2 : NT.size ⟨o', [y0, y1, y2, y3, y4, y5], v', A', c', k'⟩ ≤ N := by unfold FT.size at hrs; unfold NT.size; show k'.size + 1 ≤ N; omega
        have hr2 : r'.size ≤ N := by unfold FT.size at hrs; omega
        have HB3 := Lib.hid (below_new wr (.cells #[.int .i64 o', .int .i64 y0, .int .i64 y1, .int .i64 y2, .int .i64 y3, .int .i64 y4, .int .i64 y5, .int .i64 v', .slice A' k'.len c'] 26))
        have CE := Lib.hid (IH.out ⟨o', [y0, y1, y2, y3, y4, y5], v', A', c', k'⟩ hs2 _ ok l' (by omega) (hok'.below HB3.out))
        have HM2 : Hid (decide (l' + 1 < R) = decide (l' < max (NT.n ⟨o', [y0, y1, y2, y3, y4, y5], v', A', c', k'⟩).depth r'.f.depth)) := HM
        rw [NT.val_lit] at CE
        clear hok' hnx HK HM
        generalize (NT.n ⟨o', [y0, y1, y2, y3, y4, y5], v', A', c', k'⟩).depth = e at *
        have hlt' : (q : Int) < (k.len : Int) := by omega
        have hli : IntKind.i64.wrap ((l' : Int) + 1 - 1) = (l' : Int) := by rw [IntKind.wrap_i64]; omega
        have hli2 : wrap64 ((l' : Int) + 1 - 1) = (l' : Int) := by unfold wrap64; omega
        have hli3 : (l' : Int) + 1 - 1 = (l' : Int) := by omega
        go_wp2_with fail
        refine CE.out.mono ?_
        rintro ev w3 ⟨rfl, hb3⟩
        have HW3 := Lib.hid (HW.out.trans ((HB3.out.trans (hb3.mono HB3.out.size)).mono HW.out.size))
        have HN3 := Lib.hid ((HN.out.below HB3.out).below hb3)
        clear hb3 HB3 HW HN CE z0 z1 z2 z3 z4 z5 z6 z7 z8
        by_cases hme : l' < e
        · have hd : decide (l' < e) = true := decide_eq_true hme
          have E2 := Lib.hid (HB.out.trans (HW3.out.mono HB.out.size))
          have E : Hid (decide (l' + 1 < R) = true) := Lib.hid (by rw [HM2.out]; exact decide_eq_true (by omega))
          rw [hd]
          clear HM2 HN3 HW3
          go_wp2
          go_ret
          exact ⟨by rw [E.out]; rfl, E2.out⟩
        · have hd : decide (l' < e) = false := decide_eq_false hme
          have HM3 : Hid (decide (l' + 1 < R) = decide (l' < r'.f.depth)) := Lib.hid (by rw [HM2.out]; exact decide_eq_decide.2 (by omega))
          rw [hd]
          clear HM2
          go_wp2
          go_roundw
          case rel => exact ⟨q + 1, r', by omega, hr2, by go_num, HN3, HW3, HM3⟩
          case measure => simp [intOf]; omega
      · obtain ⟨rfl, _⟩ := HK.out.end_ hlt
        have hlt' : ¬ (q : Int) < (k.len : Int) := by omega
        have E2 := Lib.hid (HB.out.trans (HW.out.mono HB.out.size))
        have E : Hid (decide (l' + 1 < R) = false) := Lib.hid (by rw [HM.out]; rfl)
        clear HK HM HW
        go_wp2
        go_ret
        exact ⟨by rw [E.out]; rfl, E2.out⟩
end Go.Proofs.Ytpemamkhaiiaaaa
