/- Contracts of Cmp and the reference's digit and Cmp: no claim of its own. -/
import Derived.Test.YtgmjpkkpkdcncaaDoorBools
import Derived.Test.YtgmjpkkpkdcncaaDoorMaths
namespace Go.Proofs.YtgmjpkkpkdcncaaDoor
open Go.RowKit
theorem Lst.getD' {w : World} {A : Option Addr} {n c : Nat} {xs : List Nat} (h : Lst w A n c xs) (k : Nat) : xs.getD k 0 < 4294967296 := h.getD_lt k
theorem Lst.out_ {w : World} {A : Option Addr} {n c : Nat} {xs : List Nat} (h : Lst w A n c xs) {k : Nat} (hk : n ≤ k) : xs.getD k 0 = 0 := by
  rw [List.getD_eq_getElem?_getD, List.getElem?_eq_none (by have := h.len; omega)]; rfl
set_option maxRecDepth 100000 in
set_option maxHeartbeats 400000 in
theorem digit_any (A : Option Addr) (n c k : Nat) (xs : List Nat) (w : World) (h : Lst w A n c xs) (hk : k ≤ 35184372088832) :
    Calls Tryd.prog 64 #[.slice A n c, .int .i64 k] w fun e w' => e = .returned (.int .u64 ((xs.getD k 0 : Nat) : Int)) ∧ w = w' := by
  have hr := h.room
  have hc := h.cap
  by_cases hlt : k < n
  · obtain ⟨ad, rfl, hb, hcell⟩ := h.at_ hlt
    have hd := h.getD_lt k
    clear h hb
    generalize xs.getD k 0 = x at *
    go_enter Tryd.func64, Tryd.ntmps64
    go_wp2
    go_ret
    exact ⟨rfl, rfl⟩
  · have e := Lib.hid (h.out_ (k := k) (by omega))
    clear h
    go_enter Tryd.func64, Tryd.ntmps64
    go_wp2
    go_ret
    exact ⟨by rw [e.out]; rfl, rfl⟩
set_option maxRecDepth 100000 in
set_option maxHeartbeats 1000000 in
theorem rcmp_any (A B : Option Addr) (n c m d : Nat) (xs ys : List Nat) (w : World) (hx : Lst w A n c xs) (hy : Lst w B m d ys) :
    Calls Tryd.prog 36 #[.slice A n c, .slice B m d] w fun e w' => e = .returned (.int .i64 (cmpI (dval xs) (dval ys))) ∧ w = w' := by
  have hr := hx.room
  have hc := hx.cap
  have hr' := hy.room
  have hc' := hy.cap
  have HX := Lib.hid hx
  have HY := Lib.hid hy
  clear hx hy
  go_enter Tryd.func36, Tryd.ntmps36
  go_wp2
  all_goals
    go_loop [5] (fun i => ∃ k : Nat, k ≤ max n m ∧ i = .int .i64 ((k : Int) - 1) ∧ Hid (∀ j, k ≤ j → xs.getD j 0 = ys.getD j 0)) (fun i => (intOf i + 1).toNat)
    case atStart => exact ⟨max n m, by omega, by go_num, Lib.hid fun j hj => by rw [HX.out.out_ (by omega), HY.out.out_ (by omega)]⟩
    case round =>
      obtain ⟨k, hk, rfl, hz⟩ := hrel
      by_cases h0 : 0 < k
      · have D1 := fun w h => digit_any A n c (k - 1) xs w h (by omega)
        have D2 := fun w h => digit_any B m d (k - 1) ys w h (by omega)
        rw [show ((k - 1 : Nat) : Int) = (k : Int) - 1 from by omega] at D1 D2
        have C1 := Lib.hid D1
        have C2 := Lib.hid D2
        have hxl := HX.out.getD_lt (k - 1)
        have hyl := HY.out.getD_lt (k - 1)
        have FL : Hid (xs.getD (k - 1) 0 < ys.getD (k - 1) 0 → cmpI (dval xs) (dval ys) = -1) := Lib.hid fun h => cmpI_lt (cmp_lt xs ys (k - 1) HX.out.getD' (fun j hj => hz.out j (by omega)) h)
        have FG : Hid (ys.getD (k - 1) 0 < xs.getD (k - 1) 0 → cmpI (dval xs) (dval ys) = 1) := Lib.hid fun h => cmpI_gt (cmp_lt ys xs (k - 1) HY.out.getD' (fun j hj => (hz.out j (by omega)).symm) h)
        have FE : Hid (xs.getD (k - 1) 0 = ys.getD (k - 1) 0 → ∀ j, k - 1 ≤ j → xs.getD j 0 = ys.getD j 0) := Lib.hid fun h j hj => by
          rcases Nat.lt_or_ge j k with h1 | h1
          · rw [show j = k - 1 by omega]; exact h
          · exact hz.out j h1
        clear D1 D2 hz
        generalize xs.getD (k - 1) 0 = x at *
        generalize ys.getD (k - 1) 0 = y at *
        by_cases hlt : x < y
        · have FF := Lib.hid (FL.out hlt)
          clear FL FG FE
          go_wp2_with fail
          refine (C1.out _ HX.out).mono ?_
          rintro e w' ⟨rfl, rfl⟩
          go_wp2_with fail
          refine (C2.out _ HY.out).mono ?_
          rintro e w' ⟨rfl, rfl⟩
          go_wp2
          go_ret
          exact ⟨by rw [FF.out]; rfl, rfl⟩
        · by_cases hgt : y < x
          · have FF := Lib.hid (FG.out hgt)
            clear FL FG FE
            go_wp2_with fail
            refine (C1.out _ HX.out).mono ?_
            rintro e w' ⟨rfl, rfl⟩
            go_wp2_with fail
            refine (C2.out _ HY.out).mono ?_
            rintro e w' ⟨rfl, rfl⟩
            go_wp2_with fail
            refine (C1.out _ HX.out).mono ?_
            rintro e w' ⟨rfl, rfl⟩
            go_wp2_with fail
            refine (C2.out _ HY.out).mono ?_
            rintro e w' ⟨rfl, rfl⟩
            go_wp2
            go_ret
            exact ⟨by rw [FF.out]; rfl, rfl⟩
          · have FF := Lib.hid (FE.out (by omega))
            clear FL FG FE
            go_wp2_with fail
            refine (C1.out _ HX.out).mono ?_
            rintro e w' ⟨rfl, rfl⟩
            go_wp2_with fail
            refine (C2.out _ HY.out).mono ?_
            rintro e w' ⟨rfl, rfl⟩
            go_wp2_with fail
            refine (C1.out _ HX.out).mono ?_
            rintro e w' ⟨rfl, rfl⟩
            go_wp2_with fail
            refine (C2.out _ HY.out).mono ?_
            rintro e w' ⟨rfl, rfl⟩
            go_wp2
            go_round
            case rel => exact ⟨k - 1, by omega, by go_num, FF⟩
            case measure => simp [intOf]; omega
      · obtain rfl : k = 0 := by omega
        have FF : Hid (cmpI (dval xs) (dval ys) = 0) := Lib.hid (cmpI_eq (dval_ext _ _ fun j => hz.out j (by omega)))
        clear hz
        go_wp2
        go_ret
        exact ⟨by rw [FF.out]; rfl, rfl⟩
end Go.Proofs.YtgmjpkkpkdcncaaDoor
