/- The contract of natural.Cmp: no claim of its own. -/
import Derived.Test.YtgmjpkkpkdcncaaDoorCmp
namespace Go.Proofs.YtgmjpkkpkdcncaaDoor
open Go.RowKit
theorem quiet_yes (w : World) : Calls Tryd.prog 38 #[.bool true] w fun e w' => e = .returned (.int .i64 (-1)) ∧ w = w' :=
  (order_any true w).mono fun _ _ ⟨h, k⟩ => ⟨h, k⟩
theorem quiet_no (w : World) : Calls Tryd.prog 38 #[.bool false] w fun e w' => e = .returned (.int .i64 1) ∧ w = w' :=
  (order_any false w).mono fun _ _ ⟨h, k⟩ => ⟨h, k⟩
set_option maxRecDepth 100000 in
set_option maxHeartbeats 1000000 in
theorem cmp_any (A B : Option Addr) (n c m d a b : Nat) (xs ys : List Nat) (w : World) (hx : Num w A n c xs a) (hy : Num w B m d ys b) :
    Calls Tryd.prog 14 #[.slice A n c, .slice B m d] w (Gives (.int .i64 (cmpI a b)) w) := by
  have hr := hx.room
  have hc := hx.cap
  have hr' := hy.room
  have hc' := hy.cap
  have HX := Lib.hid hx
  have HY := Lib.hid hy
  clear hx hy
  go_enter Tryd.func14, Tryd.ntmps14
  go_wp2_with fail
  refine (trim_num _ _ _ _ _ _ HX.out).mono ?_
  rintro e w' ⟨rfl, rfl⟩
  go_wp2_with fail
  refine (trim_num _ _ _ _ _ _ HY.out).mono ?_
  rintro e w' ⟨rfl, rfl⟩
  by_cases hnm : n = m
  · subst hnm
    have hb : ((n : Int) != (n : Int)) = false := by simp
    go_wp2
    go_loopw [5] (fun i wr => ∃ k : Nat, k ≤ n ∧ i = .int .i64 ((k : Int) - 1) ∧ Below w.heap.size w wr ∧ Hid (∀ j, k ≤ j → xs.getD j 0 = ys.getD j 0)) (fun i _ => (intOf i + 1).toNat)
    case atStart => exact ⟨n, by omega, by go_num, Below.refl _ _, Lib.hid fun j hj => by rw [HX.out.toLst.out_ (by omega), HY.out.toLst.out_ (by omega)]⟩
    case round =>
      obtain ⟨k, hk, rfl, hB, hz⟩ := hrel
      have KX := Lib.hid (HX.out.keep hB)
      have KY := Lib.hid (HY.out.keep hB)
      have HBB := Lib.hid hB
      clear hB
      by_cases h0 : 0 < k
      · obtain ⟨ad, rfl, hb1, hcell⟩ := KX.out.toLst.at_ (k := k - 1) (by omega)
        obtain ⟨ad', rfl, hb2, hcell'⟩ := KY.out.toLst.at_ (k := k - 1) (by omega)
        have FL : Hid (xs.getD (k - 1) 0 < ys.getD (k - 1) 0 → cmpI a b = -1) := Lib.hid fun h => by
          have := cmp_lt xs ys (k - 1) HX.out.toLst.getD' (fun j hj => hz.out j (by omega)) h
          rw [HX.out.val, HY.out.val] at this; exact cmpI_lt this
        have FG : Hid (ys.getD (k - 1) 0 < xs.getD (k - 1) 0 → cmpI a b = 1) := Lib.hid fun h => by
          have := cmp_lt ys xs (k - 1) HY.out.toLst.getD' (fun j hj => (hz.out j (by omega)).symm) h
          rw [HX.out.val, HY.out.val] at this; exact cmpI_gt this
        have FE : Hid (xs.getD (k - 1) 0 = ys.getD (k - 1) 0 → ∀ j, k - 1 ≤ j → xs.getD j 0 = ys.getD j 0) := Lib.hid fun h j hj => by
          rcases Nat.lt_or_ge j k with h1 | h1
          · rw [show j = k - 1 by omega]; exact h
          · exact hz.out j h1
        clear hz hb1 hb2 hb
        generalize xs.getD (k - 1) 0 = x at *
        generalize ys.getD (k - 1) 0 = y at *
        have i1 : (0 : Int) ≤ (k : Int) - 1 := by omega
        have i2 : (k : Int) - 1 < (n : Int) := by omega
        rcases Nat.lt_trichotomy x y with hlt | heq | hgt
        · have FF := Lib.hid (FL.out hlt)
          have hne : ((x : Int) != (y : Int)) = true := bne_iff_ne.2 (by omega)
          clear FL FG FE
          go_wp2
          go_quiet (fail)
          go_wp2
          have hd : decide ((x : Int) < (y : Int)) = true := decide_eq_true (by omega)
          go_quiet ((go_at_call 38; exact quiet_add_left (quiet_yes _)))
          go_wp2
          go_ret
          exact ⟨by rw [FF.out]; rfl, by first | exact below_drewN HBB.out _ | exact below_drewN (below_drewN HBB.out _) _⟩
        · subst heq
          have FF := Lib.hid (FE.out rfl)
          have hne : ((x : Int) != (x : Int)) = false := bne_self_eq_false _
          clear FL FG FE
          go_wp2
          go_quiet (fail)
          go_wp2
          go_roundw
          case rel => exact ⟨k - 1, by omega, by go_num, by first | exact below_drewN HBB.out _ | exact below_drewN (below_drewN HBB.out _) _, FF⟩
          case measure => simp [intOf]; omega
        · have FF := Lib.hid (FG.out hgt)
          have hne : ((x : Int) != (y : Int)) = true := bne_iff_ne.2 (by omega)
          clear FL FG FE
          go_wp2
          go_quiet (fail)
          go_wp2
          have hd : decide (x < y) = false := decide_eq_false (by omega)
          go_quiet ((go_at_call 38; exact quiet_add_left (quiet_no _)))
          go_wp2
          go_ret
          exact ⟨by rw [FF.out]; rfl, by first | exact below_drewN HBB.out _ | exact below_drewN (below_drewN HBB.out _) _⟩
      · obtain rfl : k = 0 := by omega
        have FF : Hid (cmpI a b = 0) := Lib.hid (cmpI_eq (by rw [← HX.out.val, ← HY.out.val]; exact dval_ext _ _ fun j => hz.out j (by omega)))
        clear hz
        go_wp2
        go_ret
        exact ⟨by rw [FF.out]; rfl, HBB.out⟩
  · have hb : ((n : Int) != (m : Int)) = true := bne_iff_ne.2 (by omega)
    rcases Nat.lt_or_ge n m with h1 | h1
    · have FF : Hid (cmpI a b = -1) := Lib.hid (cmpI_lt (by rw [← HX.out.val, ← HY.out.val]; exact len_lt xs ys HX.out.lt HY.out.tight (by rw [HX.out.len, HY.out.len]; exact h1)))
      have hd : decide ((n : Int) < (m : Int)) = true := by simp; omega
      go_wp2_with (go_at_call 38; refine (order_any _ _).mono ?_; rintro e w' ⟨rfl, rfl⟩)
      go_ret
      exact ⟨by rw [FF.out]; rfl, Below.refl _ _⟩
    · have FF : Hid (cmpI a b = 1) := Lib.hid (cmpI_gt (by rw [← HX.out.val, ← HY.out.val]; exact len_lt ys xs HY.out.lt HX.out.tight (by rw [HX.out.len, HY.out.len]; omega)))
      have hd : decide ((n : Int) < (m : Int)) = false := by simp; omega
      go_wp2_with (go_at_call 38; refine (order_any _ _).mono ?_; rintro e w' ⟨rfl, rfl⟩)
      go_ret
      exact ⟨by rw [FF.out]; rfl, Below.refl _ _⟩
end Go.Proofs.YtgmjpkkpkdcncaaDoor
