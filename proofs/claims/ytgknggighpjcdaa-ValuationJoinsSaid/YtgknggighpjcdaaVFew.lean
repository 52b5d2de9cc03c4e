/- The reference's Uses, nodes, Few. No claim of its own. -/
import Derived.Test.YtgknggighpjcdaaMathVD
import Derived.Test.YtgknggighpjcdaaJK
import Derived.Deep.DeepCutAuto
namespace Go.Proofs.Ytgknggighpjcdaa
open Go.RowKit
open ME (F Nd)
set_option maxRecDepth 100000 in
set_option maxHeartbeats 4000000 in
theorem uses_any : ∀ (N : Nat) (x : NT), x.size ≤ N → ∀ (j : Nat), j < 6 → ∀ (w : World) (ok : Nat → Prop), x.Ok w ok → Calls Try.prog 45 #[x.val, .int .i64 j] w (Gives (.bool (VV.useN x.n j)) w) := by
  intro N
  induction N with
  | zero => intro x hx; unfold NT.size at hx; omega
  | succ N ih =>
    intro x hx j hj w ok hok
    have IH := Lib.hid ih
    have hsz : x.k.size ≤ N := by unfold NT.size at hx; omega
    clear ih hx
    obtain ⟨o, b, v, A, c, k⟩ := x
    obtain ⟨x0, x1, x2, x3, x4, x5, rfl⟩ := six hok.six
    have hn := hok.kids.few
    have hc := hok.kids.cap
    have HB := Lib.hid (below_new w (.cells #[.int .i64 o, .int .i64 x0, .int .i64 x1, .int .i64 x2, .int .i64 x3, .int .i64 x4, .int .i64 x5, .int .i64 v, .slice A k.len c] 26))
    have HR0 := Lib.hid ((hok.below HB.out).kids.rest)
    have N0 := Lib.hid (heap_new w (.cells #[.int .i64 o, .int .i64 x0, .int .i64 x1, .int .i64 x2, .int .i64 x3, .int .i64 x4, .int .i64 x5, .int .i64 v, .slice A k.len c] 26))
    rw [NT.val_lit]
    clear hok
    obtain ⟨y, hy⟩ : ∃ y, MB.at_ [x0, x1, x2, x3, x4, x5] j = y := ⟨_, rfl⟩
    have HD : Hid (VV.useN (NT.n ⟨o, [x0, x1, x2, x3, x4, x5], v, A, c, k⟩) j = (decide (0 < y) || VV.useF k.f j)) := Lib.hid (by rw [← hy]; rfl)
    obtain ⟨R, hR⟩ : ∃ R, VV.useN (NT.n ⟨o, [x0, x1, x2, x3, x4, x5], v, A, c, k⟩) j = R := ⟨_, rfl⟩
    rw [hR] at HD ⊢
    clear hR
    have HY := Lib.hid hy
    clear hy
    obtain ⟨W0, hW0⟩ : ∃ W0, W0 = w.alloc (.cells #[.int .i64 o, .int .i64 x0, .int .i64 x1, .int .i64 x2, .int .i64 x3, .int .i64 x4, .int .i64 x5, .int .i64 v, .slice A k.len c] 26) := ⟨_, rfl⟩
    go_enter Try.func45, Try.ntmps45
    go_upto_region 1 with (fail)
    rw [← hW0] at N0 HB HR0 ⊢
    clear hW0
    have NB : Hid (∀ w', Below W0.heap.size W0 w' → w'.cell? ⟨w.heap.size, 8, none⟩ = some (.slice A k.len c)) := Lib.hid (fun w' hb => by rw [cell_of_row _ _ _ _ _ _ ((hb.block w.heap.size (Array.getElem?_eq_some_iff.1 N0.out).1).trans N0.out)]; rfl)
    have b1 : W0.cell? ⟨w.heap.size, 1 + j, none⟩ = some (.int .i64 y) := by
      rw [cell_of_row _ _ _ _ _ _ N0.out, ← HY.out]
      have : j = 0 ∨ j = 1 ∨ j = 2 ∨ j = 3 ∨ j = 4 ∨ j = 5 := by omega
      rcases this with rfl | rfl | rfl | rfl | rfl | rfl <;> rfl
    by_cases hy0 : 0 < y
    · have hd : decide (0 < y) = true := decide_eq_true hy0
      have HE : Hid (R = true) := Lib.hid (by rw [HD.out, hd]; rfl)
      clear HD
      go_wp2
      go_ret
      exact ⟨by rw [HE.out]; rfl, HB.out⟩
    · have hd : decide (0 < y) = false := decide_eq_false hy0
      have HE : Hid (R = VV.useF k.f j) := Lib.hid (by rw [HD.out, hd, Bool.false_or])
      clear HD
      go_wp2_with fail
      go_loopw [5] (fun i wr => ∃ (q : Nat) (rs : FT), q ≤ k.len ∧ rs.size ≤ N ∧ i = .int .i64 q ∧ Hid (Rest wr ok A q rs k.len) ∧ Hid (Below W0.heap.size W0 wr) ∧ Hid (VV.useF rs.f j = R)) (fun i _ => k.len - (intOf i).toNat)
      case atStart => exact ⟨0, k, Nat.zero_le _, hsz, rfl, HR0, Lib.hid (Below.refl _ _), Lib.hid HE.out.symm⟩
      case round =>
        clear HR0 b1
        obtain ⟨q, rs, hq, hrs, rfl, HK, HW, HM⟩ := hrel
        have b8 := NB.out wr HW.out
        by_cases hlt : q < k.len
        · obtain ⟨ad, o', y0, y1, y2, y3, y4, y5, v', A', c', k', r', rfl, rfl, hok', hnx, hbk, _, z0, z1, z2, z3, z4, z5, z6, z7, z8⟩ := HK.out.open_ hlt
          have HN := Lib.hid hnx
          have hs2 : NT.size ⟨o', [y0, y1, y2, y3, y4, y5], v', A', c', k'⟩ ≤ N := by unfold FT.size at hrs; unfold NT.size; show k'.size + 1 ≤ N; omega
          have hr2 : r'.size ≤ N := by unfold FT.size at hrs; omega
          have CE := Lib.hid (IH.out ⟨o', [y0, y1, y2, y3, y4, y5], v', A', c', k'⟩ hs2 j hj wr ok hok')
          have HM2 : Hid ((VV.useN (NT.n ⟨o', [y0, y1, y2, y3, y4, y5], v', A', c', k'⟩) j || VV.useF r'.f j) = R) := Lib.hid (by rw [← HM.out]; rfl)
          rw [NT.val_lit] at CE
          clear hok' hnx HK HM
          generalize VV.useN (NT.n ⟨o', [y0, y1, y2, y3, y4, y5], v', A', c', k'⟩) j = e at *
          have hlt' : (q : Int) < (k.len : Int) := by omega
          go_wp2_with fail
          refine CE.out.mono ?_
          rintro ev w3 ⟨rfl, hb3⟩
          have HW3 := Lib.hid (HW.out.trans (hb3.mono HW.out.size))
          have HN3 := Lib.hid (HN.out.below hb3)
          clear hb3 HW HN CE z0 z1 z2 z3 z4 z5 z6 z7 z8 b8
          cases e with
          | true =>
            have HE2 : Hid (R = true) := Lib.hid (by rw [← HM2.out]; rfl)
            have E := Lib.hid (HB.out.trans (HW3.out.mono HB.out.size))
            clear HM2 HN3
            go_wp2
            exact bodyPost_ret (v := .bool true) (by simp [results, Try.results45, go_sem]) rfl ⟨by rw [HE2.out], E.out⟩
          | false =>
            have HM3 : Hid (VV.useF r'.f j = R) := Lib.hid (by rw [← HM2.out, Bool.false_or])
            clear HM2
            go_wp2
            go_roundw
            case rel => exact ⟨q + 1, r', by omega, hr2, by go_num, HN3, HW3, HM3⟩
            case measure => simp [intOf]; omega
        · obtain ⟨rfl, _⟩ := HK.out.end_ hlt
          have hlt' : ¬ (q : Int) < (k.len : Int) := by omega
          have HE2 : Hid (R = false) := Lib.hid (by rw [← HM.out]; rfl)
          have E := Lib.hid (HB.out.trans (HW.out.mono HB.out.size))
          clear HK HM HW
          go_wp2
          go_ret
          exact ⟨by rw [HE2.out]; rfl, E.out⟩
set_option maxRecDepth 100000 in
set_option maxHeartbeats 4000000 in
theorem nodes_any : ∀ (N : Nat) (x : NT), x.size ≤ N → ∀ (d f : Nat), d + f = 11 → ∀ (w : World) (ok : Nat → Prop), x.Ok w ok → Calls Try.prog 46 #[x.val, .int .i64 d] w (Gives (.int .i64 (VV.nodesN f x.n)) w) := by
  intro N
  induction N with
  | zero => intro x hx; unfold NT.size at hx; omega
  | succ N ih =>
    intro x hx d f hdf w ok hok
    have IH := Lib.hid ih
    have hsz : x.k.size ≤ N := by unfold NT.size at hx; omega
    clear ih hx
    obtain ⟨o, b, v, A, c, k⟩ := x
    obtain ⟨x0, x1, x2, x3, x4, x5, rfl⟩ := six hok.six
    have hn := hok.kids.few
    have hc := hok.kids.cap
    have HB := Lib.hid (below_new w (.cells #[.int .i64 o, .int .i64 x0, .int .i64 x1, .int .i64 x2, .int .i64 x3, .int .i64 x4, .int .i64 x5, .int .i64 v, .slice A k.len c] 26))
    have HR0 := Lib.hid ((hok.below HB.out).kids.rest)
    have N0 := Lib.hid (heap_new w (.cells #[.int .i64 o, .int .i64 x0, .int .i64 x1, .int .i64 x2, .int .i64 x3, .int .i64 x4, .int .i64 x5, .int .i64 v, .slice A k.len c] 26))
    rw [NT.val_lit]
    clear hok
    have HD0 : Hid (f = 0 → VV.nodesN f (NT.n ⟨o, [x0, x1, x2, x3, x4, x5], v, A, c, k⟩) = 1000) := Lib.hid (fun h => by subst h; rfl)
    have HD1 : Hid (f ≠ 0 → 20 < k.len → VV.nodesN f (NT.n ⟨o, [x0, x1, x2, x3, x4, x5], v, A, c, k⟩) = 1000) := Lib.hid (fun h h2 => by
      obtain ⟨f', rfl⟩ : ∃ f', f = f' + 1 := ⟨f - 1, by omega⟩
      exact if_pos (by rw [show (NT.n ⟨o, [x0, x1, x2, x3, x4, x5], v, A, c, k⟩).k.len = k.len from FT.len_f k]; exact h2))
    have HD2 : Hid (f ≠ 0 → ¬ 20 < k.len → VV.nodesN f (NT.n ⟨o, [x0, x1, x2, x3, x4, x5], v, A, c, k⟩) = 1 + VV.cntN (f - 1) k.f) := Lib.hid (fun h h2 => by
      obtain ⟨f', rfl⟩ : ∃ f', f = f' + 1 := ⟨f - 1, by omega⟩
      exact if_neg (by rw [show (NT.n ⟨o, [x0, x1, x2, x3, x4, x5], v, A, c, k⟩).k.len = k.len from FT.len_f k]; exact h2))
    have HRB := VV.nodes_le f (NT.n ⟨o, [x0, x1, x2, x3, x4, x5], v, A, c, k⟩)
    have hcap := VV.capN_mono (show f ≤ 11 by omega)
    have hc11 := VV.capN_11
    obtain ⟨R, hR⟩ : ∃ R, VV.nodesN f (NT.n ⟨o, [x0, x1, x2, x3, x4, x5], v, A, c, k⟩) = R := ⟨_, rfl⟩
    rw [hR] at HD0 HD1 HD2 HRB ⊢
    have hRm : 1 ≤ R ∧ R ≤ 300000000000000000 := by omega
    clear hR HRB hcap hc11
    obtain ⟨W0, hW0⟩ : ∃ W0, W0 = w.alloc (.cells #[.int .i64 o, .int .i64 x0, .int .i64 x1, .int .i64 x2, .int .i64 x3, .int .i64 x4, .int .i64 x5, .int .i64 v, .slice A k.len c] 26) := ⟨_, rfl⟩
    go_enter Try.func46, Try.ntmps46
    go_upto_region 1 with (fail)
    rw [← hW0] at N0 HB HR0 ⊢
    clear hW0
    have NB : Hid (∀ w', Below W0.heap.size W0 w' → w'.cell? ⟨w.heap.size, 8, none⟩ = some (.slice A k.len c)) := Lib.hid (fun w' hb => by rw [cell_of_row _ _ _ _ _ _ ((hb.block w.heap.size (Array.getElem?_eq_some_iff.1 N0.out).1).trans N0.out)]; rfl)
    have b8 := NB.out W0 (Below.refl _ _)
    by_cases hf0 : f = 0
    · have HE := Lib.hid (HD0.out hf0)
      have hd1 : (10 : Int) < (d : Int) := by omega
      have hd2 : decide ((10 : Int) < (d : Int)) = true := decide_eq_true hd1
      have hd3 : decide (10 < d) = true := decide_eq_true (by omega)
      clear HD0 HD1 HD2
      go_wp2
      go_ret
      exact ⟨by rw [HE.out]; rfl, HB.out⟩
    · have hd1 : ¬ (10 : Int) < (d : Int) := by omega
      have hd2 : decide ((10 : Int) < (d : Int)) = false := decide_eq_false hd1
      have hd3 : decide (10 < d) = false := decide_eq_false (by omega)
      by_cases h20 : 20 < k.len
      · have HE := Lib.hid (HD1.out hf0 h20)
        have he2 : decide ((20 : Int) < (k.len : Int)) = true := decide_eq_true (by omega)
        have he3 : decide (20 < k.len) = true := decide_eq_true h20
        clear HD0 HD1 HD2
        go_wp2
        go_ret
        exact ⟨by rw [HE.out]; rfl, HB.out⟩
      · have HE := Lib.hid (HD2.out hf0 h20)
        have he2 : decide ((20 : Int) < (k.len : Int)) = false := decide_eq_false (by omega)
        have he3 : decide (20 < k.len) = false := decide_eq_false h20
        clear HD0 HD1 HD2
        go_wp2_with fail
        go_loopw [5, 6] (fun s i wr => ∃ (q : Nat) (rs : FT) (m : Int), q ≤ k.len ∧ rs.size ≤ N ∧ i = .int .i64 q ∧ s = .int .i64 m ∧ 1 ≤ m ∧ Hid (Rest wr ok A q rs k.len) ∧ Hid (Below W0.heap.size W0 wr) ∧ Hid (m + VV.cntN (f - 1) rs.f = R)) (fun _ i _ => k.len - (intOf i).toNat)
        case atStart => exact ⟨0, k, 1, Nat.zero_le _, hsz, rfl, rfl, Int.le_refl _, HR0, Lib.hid (Below.refl _ _), Lib.hid HE.out.symm⟩
        case round =>
          clear HR0 b8
          obtain ⟨q, rs, m, hq, hrs, rfl, rfl, hm1, HK, HW, HM⟩ := hrel
          have b8 := NB.out wr HW.out
          by_cases hlt : q < k.len
          · obtain ⟨ad, o', y0, y1, y2, y3, y4, y5, v', A', c', k', r', rfl, rfl, hok', hnx, hbk, _, z0, z1, z2, z3, z4, z5, z6, z7, z8⟩ := HK.out.open_ hlt
            have HN := Lib.hid hnx
            have hs2 : NT.size ⟨o', [y0, y1, y2, y3, y4, y5], v', A', c', k'⟩ ≤ N := by unfold FT.size at hrs; unfold NT.size; show k'.size + 1 ≤ N; omega
            have hr2 : r'.size ≤ N := by unfold FT.size at hrs; omega
            have hdd : ((d : Int) + 1) = ((d + 1 : Nat) : Int) := by push_cast; rfl
            have CE := Lib.hid (IH.out ⟨o', [y0, y1, y2, y3, y4, y5], v', A', c', k'⟩ hs2 (d + 1) (f - 1) (by omega) wr ok hok')
            have hM2 : m + (VV.nodesN (f - 1) (NT.n ⟨o', [y0, y1, y2, y3, y4, y5], v', A', c', k'⟩) + VV.cntN (f - 1) r'.f) = R := by
              rw [← HM.out]
              show _ = m + VV.cntN (f - 1) (.cons o' [y0, y1, y2, y3, y4, y5] v' k'.f r'.f)
              rw [VV.cnt_cons]; rfl
            have hp1 := VV.nodes_le (f - 1) (NT.n ⟨o', [y0, y1, y2, y3, y4, y5], v', A', c', k'⟩)
            have hp2 := VV.cnt_le (f - 1) r'.f
            rw [NT.val_lit, ← hdd] at CE
            clear hok' hnx HK HM hdd
            generalize VV.nodesN (f - 1) (NT.n ⟨o', [y0, y1, y2, y3, y4, y5], v', A', c', k'⟩) = e at *
            have hlt' : (q : Int) < (k.len : Int) := by omega
            have hwe : wrap64 (m + e) = m + e := by unfold wrap64; omega
            have hge : 1 ≤ m + e := by omega
            have HM2 : Hid (m + e + VV.cntN (f - 1) r'.f = R) := Lib.hid (by omega)
            have hin : m + e ≤ 300000000000000000 := by omega
            have hge0 : 1 ≤ e := hp1.1
            clear hM2 hp1 hp2
            have hd11 : (d : Int) + 1 ≤ 11 := by omega
            go_wp2_with fail
            refine CE.out.mono ?_
            rintro ev w3 ⟨rfl, hb3⟩
            have HW3 := Lib.hid (HW.out.trans (hb3.mono HW.out.size))
            have HN3 := Lib.hid (HN.out.below hb3)
            clear hb3 HW HN CE z0 z1 z2 z3 z4 z5 z6 z7 z8 b8
            go_wp2
            go_roundw
            case rel => exact ⟨q + 1, r', m + e, by omega, hr2, by go_num, by first | rfl | rw [hwe], hge, HN3, HW3, HM2⟩
            case measure => simp [intOf]; omega
          · obtain ⟨rfl, _⟩ := HK.out.end_ hlt
            have hlt' : ¬ (q : Int) < (k.len : Int) := by omega
            have HE2 : Hid (R = m) := Lib.hid (by rw [← HM.out]; show m + VV.cntN (f - 1) .nil = m; cases (f - 1) <;> simp [VV.cntN])
            have E := Lib.hid (HB.out.trans (HW.out.mono HB.out.size))
            clear HK HM HW
            go_wp2
            go_ret
            exact ⟨by rw [HE2.out]; rfl, E.out⟩
set_option maxRecDepth 100000 in
set_option maxHeartbeats 4000000 in
theorem few13_any (x : NT) (w : World) (ok : Nat → Prop) (hok : x.Ok w ok) : Calls Try.prog 15 #[x.val] w (Gives (.bool (VV.few x.n)) w) := by
  have CU := Lib.hid (fun (j : Nat) hj w' (hb : Below w.heap.size w w') => uses_any x.size x (Nat.le_refl _) j hj w' ok (hok.below hb))
  have CN := Lib.hid (fun w' (hb : Below w.heap.size w w') => nodes_any x.size x (Nat.le_refl _) 0 11 rfl w' ok (hok.below hb))
  have HFW : Hid (VV.few x.n = (decide (VV.usesU x.n 6 ≤ 2) && decide (VV.nodesN 11 x.n ≤ 14))) := Lib.hid rfl
  have HUS : Hid (∀ i, VV.usesU x.n (i + 1) = VV.usesU x.n i + if VV.useN x.n i = true then 1 else 0) := Lib.hid fun _ => rfl
  have HU0 : Hid (VV.usesU x.n 0 = 0) := Lib.hid rfl
  have HUL := Lib.hid (VV.usesU_le x.n)
  obtain ⟨o, bb, v, A, cc, k⟩ := x
  obtain ⟨x0, x1, x2, x3, x4, x5, rfl⟩ := six hok.six
  rw [NT.val_lit] at CU CN ⊢
  generalize NT.n ⟨o, [x0, x1, x2, x3, x4, x5], v, A, cc, k⟩ = nn at *
  have HB := Lib.hid (below_new w (.cells #[.int .i64 o, .int .i64 x0, .int .i64 x1, .int .i64 x2, .int .i64 x3, .int .i64 x4, .int .i64 x5, .int .i64 v, .slice A k.len cc] 26))
  have E0 := Lib.hid (show w.alloc (.cells #[.int .i64 o, .int .i64 x0, .int .i64 x1, .int .i64 x2, .int .i64 x3, .int .i64 x4, .int .i64 x5, .int .i64 v, .slice A k.len cc] 26) |>.heap[w.heap.size]? = some _ from heap_new w (.cells #[.int .i64 o, .int .i64 x0, .int .i64 x1, .int .i64 x2, .int .i64 x3, .int .i64 x4, .int .i64 x5, .int .i64 v, .slice A k.len cc] 26))
  clear hok
  go_enter Try.func15, Try.ntmps15
  go_upto_region 1 with (fail)
  obtain ⟨W0, hW0⟩ : ∃ W0, W0 = w.alloc (.cells #[.int .i64 o, .int .i64 x0, .int .i64 x1, .int .i64 x2, .int .i64 x3, .int .i64 x4, .int .i64 x5, .int .i64 v, .slice A k.len cc] 26) := ⟨_, rfl⟩
  rw [← hW0] at HB E0 ⊢
  clear hW0
  have hsW : w.heap.size < W0.heap.size := (Array.getElem?_eq_some_iff.1 E0.out).1
  have NB : Hid (∀ w', Below W0.heap.size W0 w' → ∀ i u, (#[Value.int .i64 o, .int .i64 x0, .int .i64 x1, .int .i64 x2, .int .i64 x3, .int .i64 x4, .int .i64 x5, .int .i64 v, .slice A k.len cc] : Array Value)[i]? = some u → w'.cell? ⟨w.heap.size, i, none⟩ = some u) := Lib.hid (fun w' hb i u hu => by rw [cell_of_row _ _ _ _ _ _ ((hb.block w.heap.size hsW).trans E0.out)]; exact hu)
  clear E0
  go_wp2_with fail
  go_loopw [3, 4] (fun s i wr => ∃ (j : Nat), j ≤ 6 ∧ i = .int .i64 j ∧ s = .int .i64 (VV.usesU nn j) ∧ Hid (Below W0.heap.size W0 wr)) (fun _ i _ => 6 - (intOf i).toNat)
  case atStart => exact ⟨0, by omega, rfl, by rw [HU0.out], Lib.hid (Below.refl _ _)⟩
  case round =>
    obtain ⟨j, hj, rfl, rfl, HW⟩ := hrel
    have N := NB.out wr HW.out
    have e0 := N 0 _ rfl
    have e1 := N 1 _ rfl
    have e2 := N 2 _ rfl
    have e3 := N 3 _ rfl
    have e4 := N 4 _ rfl
    have e5 := N 5 _ rfl
    have e6 := N 6 _ rfl
    have e7 := N 7 _ rfl
    have e8 := N 8 _ rfl
    clear N
    have hul := HUL.out j
    by_cases hlt : j < 6
    · have hj1 := HUS.out j
      have C := Lib.hid (CU.out j hlt wr (HB.out.trans (HW.out.mono HB.out.size)))
      generalize VV.useN nn j = ub at *
      obtain ⟨u', hu'⟩ : ∃ u', u' = VV.usesU nn (j + 1) := ⟨_, rfl⟩
      rw [← hu'] at hj1
      have HU' := Lib.hid hu'
      clear hu'
      generalize VV.usesU nn j = u at *
      have HJ1 := Lib.hid hj1
      clear hj1
      go_wp2_with fail
      refine C.out.mono ?_
      rintro ev w3 ⟨rfl, hb3⟩
      have HW3 := Lib.hid (HW.out.trans (hb3.mono HW.out.size))
      clear hb3 HW C e0 e1 e2 e3 e4 e5 e6 e7 e8
      cases ub with
      | true =>
        have HJ2 : Hid (u' = u + 1) := Lib.hid (by rw [HJ1.out]; rfl)
        clear HJ1
        go_wp2
        go_roundw
        case rel => exact ⟨j + 1, by omega, by go_num, by rw [← HU'.out, HJ2.out], HW3⟩
        case measure => simp [intOf]; omega
      | false =>
        have HJ2 : Hid (u' = u) := Lib.hid (by rw [HJ1.out]; simp)
        clear HJ1
        go_wp2
        go_roundw
        case rel => exact ⟨j + 1, by omega, by go_num, by rw [← HU'.out, HJ2.out], HW3⟩
        case measure => simp [intOf]; omega
    · obtain rfl : j = 6 := by omega
      have C := Lib.hid (CN.out wr (HB.out.trans (HW.out.mono HB.out.size)))
      generalize VV.usesU nn 6 = u at *
      generalize VV.nodesN 11 nn = nd at *
      generalize VV.few nn = R at *
      by_cases hu : u ≤ 2
      · have hd : decide (u ≤ 2) = true := decide_eq_true hu
        rw [hd, Bool.true_and] at HFW
        go_wp2_with fail
        refine C.out.mono ?_
        rintro ev w3 ⟨rfl, hb3⟩
        have E := Lib.hid (HB.out.trans ((HW.out.trans (hb3.mono HW.out.size)).mono HB.out.size))
        clear hb3 HW C e0 e1 e2 e3 e4 e5 e6 e7 e8
        go_wp2
        go_ret
        exact ⟨by rw [HFW.out]; try rfl, E.out⟩
      · have hd : decide (u ≤ 2) = false := decide_eq_false hu
        rw [hd, Bool.false_and] at HFW
        have E := Lib.hid (HB.out.trans (HW.out.mono HB.out.size))
        clear HW C
        go_wp2
        go_ret
        exact ⟨by rw [HFW.out]; try rfl, E.out⟩
end Go.Proofs.Ytgknggighpjcdaa
