/- The reference's Uses, nodes, Few. No claim of its own. -/
import Derived.Test.YtjjpfpgjpmedmaaMathVD
import Derived.Test.YtjjpfpgjpmedmaaJK
import Derived.Deep.DeepCutAuto
namespace Go.Proofs.Ytjjpfpgjpmedmaa
open Go.RowKit
open ME (F Nd)
set_option maxRecDepth 100000 in
set_option maxHeartbeats 4000000 in
theorem uses_any : ∀ (N : Nat) (x : NT), x.size ≤ N → ∀ (j : Nat), j < 6 → ∀ (w : World) (ok : Nat → Prop), x.Ok w ok → Calls Try.prog 39 #[x.val, .int .i64 j] w (Gives (.bool (VV.useN x.n j)) w) := by
  intro N
  induction N with
  | zero => intro x hx; unfold NT.size at hx; omega
  | succ N ih =>
    intro x hx j hj w ok hok
    have IH := Lib.hid ih
    have hsz : x.k.size ≤ N := by unfold NT.size at hx; omega
    clear ih hx
    obtain ⟨o, b, v, A, c, k⟩ := x
    obtain ⟨x0, x1, x2, x3, x4, x5, rfl⟩ := six hok.six
    have hn := hok.kids.few
    have hc := hok.kids.cap
    have HB := Lib.hid (below_new w (.cells #[.int .i64 o, .int .i64 x0, .int .i64 x1, .int .i64 x2, .int .i64 x3, .int .i64 x4, .int .i64 x5, .int .i64 v, .slice A k.len c] 28))
    have HR0 := Lib.hid ((hok.below HB.out).kids.rest)
    have N0 := Lib.hid (heap_new w (.cells #[.int .i64 o, .int .i64 x0, .int .i64 x1, .int .i64 x2, .int .i64 x3, .int .i64 x4, .int .i64 x5, .int .i64 v, .slice A k.len c] 28))
    rw [NT.val_lit]
    clear hok
    obtain ⟨y, hy⟩ : ∃ y, MB.at_ [x0, x1, x2, x3, x4, x5] j = y := ⟨_, rfl⟩
    have HD : Hid (VV.useN (NT.n ⟨o, [x0, x1, x2, x3, x4, x5], v, A, c, k⟩) j = (decide (0 < y) || VV.useF k.f j)) := Lib.hid (by rw [← hy]; rfl)
    obtain ⟨R, hR⟩ : ∃ R, VV.useN (NT.n ⟨o, [x0, x1, x2, x3, x4, x5], v, A, c, k⟩) j = R := ⟨_, rfl⟩
    rw [hR] at HD ⊢
    clear hR
    have HY := Lib.hid hy
    clear hy
    obtain ⟨W0, hW0⟩ : ∃ W0, W0 = w.alloc (.cells #[.int .i64 o, .int .i64 x0, .int .i64 x1, .int .i64 x2, .int .i64 x3, .int .i64 x4, .int .i64 x5, .int .i64 v, .slice A k.len c] 28) := ⟨_, rfl⟩
    go_enter Try.func39, Try.ntmps39
    go_upto_region 1 with (fail)
    rw [← hW0] at N0 HB HR0 ⊢
    clear hW0
    have NB : Hid (∀ w', Below W0.heap.size W0 w' → w'.cell? ⟨w.heap.size, 8, none⟩ = some (.slice A k.len c)) := Lib.hid (fun w' hb => by rw [cell_of_row _ _ _ _ _ _ ((hb.block w.heap.size (Array.getElem?_eq_some_iff.1 N0.out).1).trans N0.out)]; rfl)
    have b1 : W0.cell? ⟨w.heap.size, 1 + j, none⟩ = some (.int .i64 y) := by
      rw [cell_of_row _ _ _ _ _ _ N0.out, ← HY.out]
      have : j = 0 ∨ j = 1 ∨ j = 2 ∨ j = 3 ∨ j = 4 ∨ j = 5 := by omega
      rcases this with rfl | rfl | rfl | rfl | rfl | rfl <;> rfl
    by_cases hy0 : 0 < y
    · have hd : decide (0 < y) = true := decide_eq_true hy0
      have HE : Hid (R = true) := Lib.hid (by rw [HD.out, hd]; rfl)
      clear HD
      go_wp2
      go_ret
      exact ⟨by rw [HE.out]; rfl, HB.out⟩
    · have hd : decide (0 < y) = false := decide_eq_false hy0
      have HE : Hid (R = VV.useF k.f j) := Lib.hid (by rw [HD.out, hd, Bool.false_or])
      clear HD
      go_wp2_with fail
      go_loopw [5] (fun i wr => ∃ (q : Nat) (rs : FT), q ≤ k.len ∧ rs.size ≤ N ∧ i = .int .i64 q ∧ Hid (Rest wr ok A q rs k.len) ∧ Hid (Below W0.heap.size W0 wr) ∧ Hid (VV.useF rs.f j = R)) (fun i _ => k.len - (intOf i).toNat)
      case atStart => exact ⟨0, k, Nat.zero_le _, hsz, rfl, HR0, Lib.hid (Below.refl _ _), Lib.hid HE.out.symm⟩
      case round =>
        clear HR0 b1
        obtain ⟨q, rs, hq, hrs, rfl, HK, HW, HM⟩ := hrel
        have b8 := NB.out wr HW.out
        by_cases hlt : q < k.len
        · obtain ⟨ad, o', y0, y1, y2, y3, y4, y5, v', A', c', k', r', rfl, rfl, hok', hnx, hbk, _, z0, z1, z2, z3, z4, z5, z6, z7, z8⟩ := HK.out.open_ hlt
          have HN := Lib.hid hnx
          have hs2 : NT.size ⟨o', [y0, y1, y2, y3, y4, y5], v', A', c', k'⟩ ≤ N := by unfold FT.size at hrs; unfold NT.size; show k'.size + 1 ≤ N; omega
          have hr2 : r'.size ≤ N := by unfold FT.size at hrs; omega
          have CE := Lib.hid (IH.out ⟨o', [y0, y1, y2, y3, y4, y5], v', A', c', k'⟩ hs2 j hj wr ok hok')
          have HM2 : Hid ((VV.useN (NT.n ⟨o', [y0, y1, y2, y3, y4, y5], v', A', c', k'⟩) j || VV.useF r'.f j) = R) := Lib.hid (by rw [← HM.out]; rfl)
          rw [NT.val_lit] at CE
          clear hok' hnx HK HM
          generalize VV.useN (NT.n ⟨o', [y0, y1, y2, y3, y4, y5], v', A', c', k'⟩) j = e at *
          have hlt' : (q : Int) < (k.len : Int) := by omega
          go_wp2_with fail
          refine CE.out.mono ?_
          rintro ev w3 ⟨rfl, hb3⟩
          have HW3 := Lib.hid (HW.out.trans (hb3.mono HW.out.size))
          have HN3 := Lib.hid (HN.out.below hb3)
          clear hb3 HW HN CE z0 z1 z2 z3 z4 z5 z6 z7 z8 b8
          cases e with
          | true =>
            have HE2 : Hid (R = true) := Lib.hid (by rw [← HM2.out]; rfl)
            have E := Lib.hid (HB.out.trans (HW3.out.mono HB.out.size))
            clear HM2 HN3
            go_wp2
            exact bodyPost_ret (v := .bool true) (by simp [results, Try.results39, go_sem]) rfl ⟨by rw [HE2.out], E.out⟩
          | false =>
            have HM3 : Hid (VV.useF r'.f j = R) := Lib.hid (by rw [← HM2.out, Bool.false_or])
            clear HM2
            go_wp2
            go_roundw
            case rel => exact ⟨q + 1, r', by omega, hr2, by go_num, HN3, HW3, HM3⟩
            case measure => simp [intOf]; omega
        · obtain ⟨rfl, _⟩ := HK.out.end_ hlt
          have hlt' : ¬ (q : Int) < (k.len : Int) := by omega
          have HE2 : Hid (R = false) := Lib.hid (by rw [← HM.out]; rfl)
          have E := Lib.hid (HB.out.trans (HW.out.mono HB.out.size))
          clear HK HM HW
          go_wp2
          go_ret
          exact ⟨by rw [HE2.out]; rfl, E.out⟩
end Go.Proofs.Ytjjpfpgjpmedmaa
