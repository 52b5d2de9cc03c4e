/- Bools, Cmp, NCmp, Low, joined: no claim of its own. -/
import Derived.Test.YtbllnkhbahenkaaGreatDoorBase
import Derived.WalkSmall
import Derived.Test.YtbllnkhbahenkaaGreatDoorMaths
namespace Go.Proofs.YtbllnkhbahenkaaGreatDoor
open Go.RowKit
def tightB (xs : List Nat) : Bool := xs.length == 0 || xs.getD (xs.length - 1) 0 != 0
theorem tightB_iff (xs : List Nat) : tightB xs = true ↔ Tight xs := by
  unfold tightB Tight; simp
/-- A call hands back the value v; nothing that was there has turned. -/
def Gives (v : Value) (w : World) (e : Ending) (w' : World) : Prop := e = .returned v ∧ Below w.heap.size w w'
set_option maxRecDepth 100000 in
set_option maxHeartbeats 400000 in
theorem rvalid_any (A : Option Addr) (n c : Nat) (xs : List Nat) (w : World) (h : Lst w A n c xs) :
    Calls Tryz.prog 29 #[.slice A n c] w fun e w' => e = .returned (.bool (tightB xs)) ∧ w = w' := by
  have hr := h.room
  have hc := h.cap
  rcases Nat.eq_zero_or_pos n with h0 | h0
  · subst h0
    have e : Hid (tightB xs = true) := Lib.hid (by unfold tightB; rw [h.len]; rfl)
    clear h
    go_enter Tryz.func29, Tryz.ntmps29
    go_wp2
    go_ret
    exact ⟨by rw [e.out]; rfl, rfl⟩
  · obtain ⟨ad, rfl, hb, hcell⟩ := h.at_ (k := n - 1) (by omega)
    have hn : ((n : Int) == 0) = false := by simp; omega
    have e : Hid (tightB xs = (xs.getD (n - 1) 0 != 0)) := Lib.hid (by unfold tightB; rw [h.len]; have : (n == 0) = false := by simp; omega
                                                                       rw [this]; rfl)
    clear h hb
    generalize xs.getD (n - 1) 0 = d at *
    by_cases hd : d = 0
    · subst hd
      go_enter Tryz.func29, Tryz.ntmps29
      go_wp2
      go_ret
      exact ⟨by rw [e.out]; rfl, rfl⟩
    · have h1 : ((d : Int) != 0) = true := by simpa using hd
      have h2 : Hid ((d != 0) = true) := Lib.hid (by simpa using hd)
      clear hd
      go_enter Tryz.func29, Tryz.ntmps29
      go_wp2
      go_ret
      exact ⟨by rw [e.out, h2.out]; rfl, rfl⟩
theorem small_any (A : Option Addr) (n c : Nat) (w : World) (hn : n ≤ 35184372088832) :
    Calls Tryz.prog 81 #[.slice A n c] w fun e w' => e = .returned (.bool (decide (n ≤ 2))) ∧ w = w' := by
  go_enter Tryz.func81, Tryz.ntmps81
  go_wp2
  go_ret
  exact ⟨by simp; omega, rfl⟩
theorem order_any (b : Bool) (w : World) :
    Calls Tryz.prog 87 #[.bool b] w fun e w' => e = .returned (.int .i64 (if b then -1 else 1)) ∧ w = w' := by
  cases b
  all_goals
    go_enter Tryz.func87, Tryz.ntmps87
    go_wp2
    go_ret
    exact ⟨rfl, rfl⟩
end Go.Proofs.YtbllnkhbahenkaaGreatDoor
namespace Go.Proofs.YtbllnkhbahenkaaGreatDoor
open Go.RowKit
theorem Lst.getD' {w : World} {A : Option Addr} {n c : Nat} {xs : List Nat} (h : Lst w A n c xs) (k : Nat) : xs.getD k 0 < 4294967296 := h.getD_lt k
theorem Lst.out_ {w : World} {A : Option Addr} {n c : Nat} {xs : List Nat} (h : Lst w A n c xs) {k : Nat} (hk : n ≤ k) : xs.getD k 0 = 0 := by
  rw [List.getD_eq_getElem?_getD, List.getElem?_eq_none (by have := h.len; omega)]; rfl
set_option maxRecDepth 100000 in
set_option maxHeartbeats 400000 in
theorem digit_any (A : Option Addr) (n c k : Nat) (xs : List Nat) (w : World) (h : Lst w A n c xs) (_hk : k ≤ 35184372088832) :
    Calls Tryz.prog 95 #[.slice A n c, .int .i64 k] w fun e w' => e = .returned (.int .u64 ((xs.getD k 0 : Nat) : Int)) ∧ w = w' := by
  have hr := h.room
  have hc := h.cap
  by_cases hlt : k < n
  · obtain ⟨ad, rfl, hb, hcell⟩ := h.at_ hlt
    have hd := h.getD_lt k
    clear h hb
    generalize xs.getD k 0 = x at *
    go_enter Tryz.func95, Tryz.ntmps95
    go_wp2
    go_ret
    exact ⟨rfl, rfl⟩
  · have e := Lib.hid (h.out_ (k := k) (by omega))
    clear h
    go_enter Tryz.func95, Tryz.ntmps95
    go_wp2
    go_ret
    exact ⟨by rw [e.out]; rfl, rfl⟩
set_option maxRecDepth 100000 in
set_option maxHeartbeats 1000000 in
theorem rcmp_any (A B : Option Addr) (n c m d : Nat) (xs ys : List Nat) (w : World) (hx : Lst w A n c xs) (hy : Lst w B m d ys) :
    Calls Tryz.prog 99 #[.slice A n c, .slice B m d] w fun e w' => e = .returned (.int .i64 (cmpI (dval xs) (dval ys))) ∧ w = w' := by
  have hr := hx.room
  have hc := hx.cap
  have hr' := hy.room
  have hc' := hy.cap
  have HX := Lib.hid hx
  have HY := Lib.hid hy
  clear hx hy
  go_enter Tryz.func99, Tryz.ntmps99
  go_wp2
  all_goals
    go_loop [5] (fun i => ∃ k : Nat, k ≤ max n m ∧ i = .int .i64 ((k : Int) - 1) ∧ Hid (∀ j, k ≤ j → xs.getD j 0 = ys.getD j 0)) (fun i => (intOf i + 1).toNat)
    case atStart => exact ⟨max n m, by omega, by go_num, Lib.hid fun j hj => by rw [HX.out.out_ (by omega), HY.out.out_ (by omega)]⟩
    case round =>
      obtain ⟨k, hk, rfl, hz⟩ := hrel
      by_cases h0 : 0 < k
      · have D1 := fun w h => digit_any A n c (k - 1) xs w h (by omega)
        have D2 := fun w h => digit_any B m d (k - 1) ys w h (by omega)
        rw [show ((k - 1 : Nat) : Int) = (k : Int) - 1 from by omega] at D1 D2
        have C1 := Lib.hid D1
        have C2 := Lib.hid D2
        have hxl := HX.out.getD_lt (k - 1)
        have hyl := HY.out.getD_lt (k - 1)
        have FL : Hid (xs.getD (k - 1) 0 < ys.getD (k - 1) 0 → cmpI (dval xs) (dval ys) = -1) := Lib.hid fun h => cmpI_lt (cmp_lt xs ys (k - 1) HX.out.getD' (fun j hj => hz.out j (by omega)) h)
        have FG : Hid (ys.getD (k - 1) 0 < xs.getD (k - 1) 0 → cmpI (dval xs) (dval ys) = 1) := Lib.hid fun h => cmpI_gt (cmp_lt ys xs (k - 1) HY.out.getD' (fun j hj => (hz.out j (by omega)).symm) h)
        have FE : Hid (xs.getD (k - 1) 0 = ys.getD (k - 1) 0 → ∀ j, k - 1 ≤ j → xs.getD j 0 = ys.getD j 0) := Lib.hid fun h j hj => by
          rcases Nat.lt_or_ge j k with h1 | h1
          · rw [show j = k - 1 by omega]; exact h
          · exact hz.out j h1
        clear D1 D2 hz
        generalize xs.getD (k - 1) 0 = x at *
        generalize ys.getD (k - 1) 0 = y at *
        by_cases hlt : x < y
        · have FF := Lib.hid (FL.out hlt)
          clear FL FG FE
          go_wp2_with fail
          refine (C1.out _ HX.out).mono ?_
          rintro e w' ⟨rfl, rfl⟩
          go_wp2_with fail
          refine (C2.out _ HY.out).mono ?_
          rintro e w' ⟨rfl, rfl⟩
          go_wp2
          go_ret
          exact ⟨by rw [FF.out]; rfl, rfl⟩
        · by_cases hgt : y < x
          · have FF := Lib.hid (FG.out hgt)
            clear FL FG FE
            go_wp2_with fail
            refine (C1.out _ HX.out).mono ?_
            rintro e w' ⟨rfl, rfl⟩
            go_wp2_with fail
            refine (C2.out _ HY.out).mono ?_
            rintro e w' ⟨rfl, rfl⟩
            go_wp2_with fail
            refine (C1.out _ HX.out).mono ?_
            rintro e w' ⟨rfl, rfl⟩
            go_wp2_with fail
            refine (C2.out _ HY.out).mono ?_
            rintro e w' ⟨rfl, rfl⟩
            go_wp2
            go_ret
            exact ⟨by rw [FF.out]; rfl, rfl⟩
          · have FF := Lib.hid (FE.out (by omega))
            clear FL FG FE
            go_wp2_with fail
            refine (C1.out _ HX.out).mono ?_
            rintro e w' ⟨rfl, rfl⟩
            go_wp2_with fail
            refine (C2.out _ HY.out).mono ?_
            rintro e w' ⟨rfl, rfl⟩
            go_wp2_with fail
            refine (C1.out _ HX.out).mono ?_
            rintro e w' ⟨rfl, rfl⟩
            go_wp2_with fail
            refine (C2.out _ HY.out).mono ?_
            rintro e w' ⟨rfl, rfl⟩
            go_wp2
            go_round
            case rel => exact ⟨k - 1, by omega, by go_num, FF⟩
            case measure => simp [intOf]; omega
      · obtain rfl : k = 0 := by omega
        have FF : Hid (cmpI (dval xs) (dval ys) = 0) := Lib.hid (cmpI_eq (dval_ext _ _ fun j => hz.out j (by omega)))
        clear hz
        go_wp2
        go_ret
        exact ⟨by rw [FF.out]; rfl, rfl⟩
end Go.Proofs.YtbllnkhbahenkaaGreatDoor
namespace Go.Proofs.YtbllnkhbahenkaaGreatDoor
open Go.RowKit
theorem quiet_yes (w : World) : Calls Tryz.prog 87 #[.bool true] w fun e w' => e = .returned (.int .i64 (-1)) ∧ w = w' :=
  (order_any true w).mono fun _ _ ⟨h, k⟩ => ⟨h, k⟩
theorem quiet_no (w : World) : Calls Tryz.prog 87 #[.bool false] w fun e w' => e = .returned (.int .i64 1) ∧ w = w' :=
  (order_any false w).mono fun _ _ ⟨h, k⟩ => ⟨h, k⟩
set_option maxRecDepth 100000 in
set_option maxHeartbeats 1000000 in
theorem cmp_any (A B : Option Addr) (n c m d a b : Nat) (xs ys : List Nat) (w : World) (hx : Num w A n c xs a) (hy : Num w B m d ys b) :
    Calls Tryz.prog 53 #[.slice A n c, .slice B m d] w (Gives (.int .i64 (cmpI a b)) w) := by
  have hr := hx.room
  have hc := hx.cap
  have hr' := hy.room
  have hc' := hy.cap
  have HX := Lib.hid hx
  have HY := Lib.hid hy
  clear hx hy
  go_enter Tryz.func53, Tryz.ntmps53
  go_wp2_with fail
  refine (trim_num _ _ _ _ _ _ HX.out).mono ?_
  rintro e w' ⟨rfl, rfl⟩
  go_wp2_with fail
  refine (trim_num _ _ _ _ _ _ HY.out).mono ?_
  rintro e w' ⟨rfl, rfl⟩
  by_cases hnm : n = m
  · subst hnm
    have hb : ((n : Int) != (n : Int)) = false := by simp
    go_wp2
    go_loopw [5] (fun i wr => ∃ k : Nat, k ≤ n ∧ i = .int .i64 ((k : Int) - 1) ∧ Below w.heap.size w wr ∧ Hid (∀ j, k ≤ j → xs.getD j 0 = ys.getD j 0)) (fun i _ => (intOf i + 1).toNat)
    case atStart => exact ⟨n, by omega, by go_num, Below.refl _ _, Lib.hid fun j hj => by rw [HX.out.toLst.out_ (by omega), HY.out.toLst.out_ (by omega)]⟩
    case round =>
      obtain ⟨k, hk, rfl, hB, hz⟩ := hrel
      have KX := Lib.hid (HX.out.keep hB)
      have KY := Lib.hid (HY.out.keep hB)
      have HBB := Lib.hid hB
      clear hB
      by_cases h0 : 0 < k
      · obtain ⟨ad, rfl, hb1, hcell⟩ := KX.out.toLst.at_ (k := k - 1) (by omega)
        obtain ⟨ad', rfl, hb2, hcell'⟩ := KY.out.toLst.at_ (k := k - 1) (by omega)
        have FL : Hid (xs.getD (k - 1) 0 < ys.getD (k - 1) 0 → cmpI a b = -1) := Lib.hid fun h => by
          have := cmp_lt xs ys (k - 1) HX.out.toLst.getD' (fun j hj => hz.out j (by omega)) h
          rw [HX.out.val, HY.out.val] at this; exact cmpI_lt this
        have FG : Hid (ys.getD (k - 1) 0 < xs.getD (k - 1) 0 → cmpI a b = 1) := Lib.hid fun h => by
          have := cmp_lt ys xs (k - 1) HY.out.toLst.getD' (fun j hj => (hz.out j (by omega)).symm) h
          rw [HX.out.val, HY.out.val] at this; exact cmpI_gt this
        have FE : Hid (xs.getD (k - 1) 0 = ys.getD (k - 1) 0 → ∀ j, k - 1 ≤ j → xs.getD j 0 = ys.getD j 0) := Lib.hid fun h j hj => by
          rcases Nat.lt_or_ge j k with h1 | h1
          · rw [show j = k - 1 by omega]; exact h
          · exact hz.out j h1
        clear hz hb1 hb2 hb
        generalize xs.getD (k - 1) 0 = x at *
        generalize ys.getD (k - 1) 0 = y at *
        have i1 : (0 : Int) ≤ (k : Int) - 1 := by omega
        have i2 : (k : Int) - 1 < (n : Int) := by omega
        rcases Nat.lt_trichotomy x y with hlt | heq | hgt
        · have FF := Lib.hid (FL.out hlt)
          have hne : ((x : Int) != (y : Int)) = true := bne_iff_ne.2 (by omega)
          clear FL FG FE
          go_wp2
          go_quiet (fail)
          go_wp2
          have hd : decide ((x : Int) < (y : Int)) = true := decide_eq_true (by omega)
          go_quiet ((go_at_call 87; exact quiet_add_left (quiet_yes _)))
          go_wp2
          go_ret
          exact ⟨by rw [FF.out]; rfl, by first | exact below_drewN HBB.out _ | exact below_drewN (below_drewN HBB.out _) _⟩
        · subst heq
          have FF := Lib.hid (FE.out rfl)
          have hne : ((x : Int) != (x : Int)) = false := bne_self_eq_false _
          clear FL FG FE
          go_wp2
          go_quiet (fail)
          go_wp2
          go_roundw
          case rel => exact ⟨k - 1, by omega, by go_num, by first | exact below_drewN HBB.out _ | exact below_drewN (below_drewN HBB.out _) _, FF⟩
          case measure => simp [intOf]; omega
        · have FF := Lib.hid (FG.out hgt)
          have hne : ((x : Int) != (y : Int)) = true := bne_iff_ne.2 (by omega)
          clear FL FG FE
          go_wp2
          go_quiet (fail)
          go_wp2
          have hd : decide (x < y) = false := decide_eq_false (by omega)
          go_quiet ((go_at_call 87; exact quiet_add_left (quiet_no _)))
          go_wp2
          go_ret
          exact ⟨by rw [FF.out]; rfl, by first | exact below_drewN HBB.out _ | exact below_drewN (below_drewN HBB.out _) _⟩
      · obtain rfl : k = 0 := by omega
        have FF : Hid (cmpI a b = 0) := Lib.hid (cmpI_eq (by rw [← HX.out.val, ← HY.out.val]; exact dval_ext _ _ fun j => hz.out j (by omega)))
        clear hz
        go_wp2
        go_ret
        exact ⟨by rw [FF.out]; rfl, HBB.out⟩
  · have hb : ((n : Int) != (m : Int)) = true := bne_iff_ne.2 (by omega)
    rcases Nat.lt_or_ge n m with h1 | h1
    · have FF : Hid (cmpI a b = -1) := Lib.hid (cmpI_lt (by rw [← HX.out.val, ← HY.out.val]; exact len_lt xs ys HX.out.lt HY.out.tight (by rw [HX.out.len, HY.out.len]; exact h1)))
      have hd : decide ((n : Int) < (m : Int)) = true := by simp; omega
      go_wp2_with (go_at_call 87; refine (order_any _ _).mono ?_; rintro e w' ⟨rfl, rfl⟩)
      go_ret
      exact ⟨by rw [FF.out]; rfl, Below.refl _ _⟩
    · have FF : Hid (cmpI a b = 1) := Lib.hid (cmpI_gt (by rw [← HX.out.val, ← HY.out.val]; exact len_lt ys xs HY.out.lt HX.out.tight (by rw [HX.out.len, HY.out.len]; omega)))
      have hd : decide ((n : Int) < (m : Int)) = false := by simp; omega
      go_wp2_with (go_at_call 87; refine (order_any _ _).mono ?_; rintro e w' ⟨rfl, rfl⟩)
      go_ret
      exact ⟨by rw [FF.out]; rfl, Below.refl _ _⟩
end Go.Proofs.YtbllnkhbahenkaaGreatDoor
namespace Go.Proofs.YtbllnkhbahenkaaGreatDoor
open Go.RowKit
theorem low_zero (A : Option Addr) (c : Nat) (w : World) :
    Calls Tryz.prog 84 #[.slice A 0 c] w fun e w' => e = .returned (.int .u64 0) ∧ w = w' := by
  go_enter Tryz.func84, Tryz.ntmps84
  go_wp2
  refine wp_loop_rounds 1 ?_
  rw [rounds_succ]
  go_wp2
  go_ret
  exact ⟨rfl, rfl⟩
theorem low_one (ad : Addr) (c : Nat) (x : Nat) (hx : x < 4294967296) (w : World) (hc : w.cell? ad = some (.int .u32 (x : Int))) :
    Calls Tryz.prog 84 #[.slice (some ad) 1 c] w fun e w' => e = .returned (.int .u64 (x : Int)) ∧ w = w' := by
  have h0 := bits_zero_lo x hx
  go_enter Tryz.func84, Tryz.ntmps84
  go_wp2
  refine wp_loop_rounds 2 ?_
  rw [rounds_succ]
  go_wp2
  rw [rounds_succ]
  go_wp2
  go_ret
  exact ⟨rfl, rfl⟩
set_option maxRecDepth 100000 in
set_option maxHeartbeats 400000 in
theorem low_two (ad : Addr) (c : Nat) (x y : Nat) (hx : x < 4294967296) (hy : y < 4294967296) (w : World) (hc : w.cell? ad = some (.int .u32 (x : Int))) (hc1 : w.cell? ⟨ad.block, ad.off + 1, none⟩ = some (.int .u32 (y : Int))) :
    Calls Tryz.prog 84 #[.slice (some ad) 2 c] w fun e w' => e = .returned (.int .u64 ((x + y * 4294967296 : Nat) : Int)) ∧ w = w' := by
  have h0 := bits_zero_lo x hx
  have h1 := bits_lo_hi x y hy hx
  go_enter Tryz.func84, Tryz.ntmps84
  go_wp2
  refine wp_loop_rounds 3 ?_
  rw [rounds_succ]
  go_wp2
  rw [rounds_succ]
  go_wp2
  rw [rounds_succ]
  go_wp2
  go_ret
  exact ⟨by go_num, rfl⟩
theorem low_any (A : Option Addr) (n c a : Nat) (xs : List Nat) (w : World) (h : Num w A n c xs a) (hn : n ≤ 2) :
    Calls Tryz.prog 84 #[.slice A n c] w fun e w' => e = .returned (.int .u64 (a : Int)) ∧ w = w' := by
  have hl := h.len
  have hv := h.val
  rcases xs with _ | ⟨x, _ | ⟨y, _ | ⟨z, xs⟩⟩⟩
  · obtain rfl : n = 0 := by simpa using hl.symm
    obtain rfl : a = 0 := by simpa [dval] using hv.symm
    exact low_zero A c w
  · obtain rfl : n = 1 := by simpa using hl.symm
    obtain rfl : a = x := by simpa [dval] using hv.symm
    obtain ⟨ad, rfl, _, hc⟩ := h.toLst.at_ (k := 0) (by omega)
    rw [add_zero_] at hc
    exact low_one ad c a (h.lt a (by simp)) w (by simpa using hc)
  · obtain rfl : n = 2 := by simpa using hl.symm
    obtain rfl : a = x + y * 4294967296 := by simp [dval] at hv; omega
    obtain ⟨ad, rfl, _, hc⟩ := h.toLst.at_ (k := 0) (by omega)
    obtain ⟨ad', e, _, hc'⟩ := h.toLst.at_ (k := 1) (by omega)
    injection e with e
    subst e
    rw [add_zero_] at hc
    rw [show ad.add 1 = ⟨ad.block, ad.off + 1, none⟩ from rfl] at hc'
    exact low_two ad c x y (h.lt x (by simp)) (h.lt y (by simp)) w (by simpa using hc) (by simpa using hc')
  · simp at hl; omega
theorem Num.small {w : World} {A : Option Addr} {n c a : Nat} {xs : List Nat} (h : Num w A n c xs a) : n ≤ 2 ↔ a < 18446744073709551616 := by
  rw [← h.len, ← h.val]; exact small_iff xs h.lt h.tight
set_option maxRecDepth 100000 in
set_option maxHeartbeats 400000 in
theorem uint_any (A : Option Addr) (n c a : Nat) (xs : List Nat) (w : World) (h : Num w A n c xs a) :
    Calls Tryz.prog 76 #[.slice A n c] w fun e w' => e = .returned (.tuple #[.int .u64 ((if n ≤ 2 then a else 0 : Nat) : Int), .bool (decide (n ≤ 2))]) ∧ w = w' := by
  have hr := h.room
  have H := Lib.hid h
  clear h
  by_cases hn : n ≤ 2
  · have E : Hid (((if n ≤ 2 then a else 0 : Nat) : Int) = (a : Int) ∧ decide (n ≤ 2) = true) := Lib.hid ⟨by rw [if_pos hn], by simpa using hn⟩
    go_enter Tryz.func76, Tryz.ntmps76
    go_wp2_with fail
    refine (trim_num _ _ _ _ _ _ H.out).mono ?_
    rintro e w' ⟨rfl, rfl⟩
    go_wp2_with fail
    refine (small_any _ _ _ _ hr).mono ?_
    rintro e w' ⟨rfl, rfl⟩
    go_wp2_with fail
    refine (low_any _ _ _ _ _ _ H.out.caps hn).mono ?_
    rintro e w' ⟨rfl, rfl⟩
    go_wp2
    go_ret2
    first | exact ⟨rfl, rfl⟩ | exact ⟨by rw [E.out.1, E.out.2]; rfl, rfl⟩
  · have E : Hid (((if n ≤ 2 then a else 0 : Nat) : Int) = 0 ∧ decide (n ≤ 2) = false) := Lib.hid ⟨by rw [if_neg hn]; rfl, by simpa using hn⟩
    go_enter Tryz.func76, Tryz.ntmps76
    go_wp2_with fail
    refine (trim_num _ _ _ _ _ _ H.out).mono ?_
    rintro e w' ⟨rfl, rfl⟩
    go_wp2_with fail
    refine (small_any _ _ _ _ hr).mono ?_
    rintro e w' ⟨rfl, rfl⟩
    go_wp2
    go_ret2
    first | exact ⟨rfl, rfl⟩ | exact ⟨by rw [E.out.1, E.out.2]; rfl, rfl⟩
end Go.Proofs.YtbllnkhbahenkaaGreatDoor
