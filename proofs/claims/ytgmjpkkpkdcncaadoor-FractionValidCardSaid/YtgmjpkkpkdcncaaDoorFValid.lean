/- Contracts of fraction.Valid and of the reference's Valid: no claim of its own. -/
import Derived.Test.YtgmjpkkpkdcncaaDoorOpp
import Derived.Test.YtgmjpkkpkdcncaaDoorRGcd
import Derived.Test.YtgmjpkkpkdcncaaDoorBools
namespace Go.Proofs.YtgmjpkkpkdcncaaDoor
open Go.RowKit
theorem rgcd_v {A B : Option Addr} {n c m d a b : Nat} {xs ys : List Nat} {w : World} (hx : Num w A n c xs a) (hy : Num w B m d ys b) (hn : n ≤ 20) (hm : m ≤ 20) {T : Nat} (hT : Nat.gcd a b = T) :
    Calls Tryd.prog 18 #[.slice A n c, .slice B m d] w (GivesNum T w) := hT ▸ rgcd_any A B n c m d a b xs ys w hx hy (by omega) (by omega)
theorem fgcd_v {A B : Option Addr} {n c m d a b : Nat} {xs ys : List Nat} {w : World} (hx : Num w A n c xs a) (hy : Num w B m d ys b) (hn : n ≤ 20) (hm : m ≤ 20) {T : Nat} (hT : Nat.gcd a b = T) :
    Calls Tryd.prog 17 #[.slice A n c, .slice B m d] w (GivesNum T w) := hT ▸ gcd_any A B n c m d a b xs ys w hx hy (by omega) (by omega)
theorem valid_l {A : Option Addr} {n c : Nat} {xs : List Nat} {w : World} (h : Lst w A n c xs) {b : Bool} (hb : tightB xs = b) :
    Calls Tryd.prog 7 #[.slice A n c] w fun e w' => e = .returned (.bool b) ∧ w = w' := hb ▸ valid_any A n c xs w h
theorem rvalid_l {A : Option Addr} {n c : Nat} {xs : List Nat} {w : World} (h : Lst w A n c xs) {b : Bool} (hb : tightB xs = b) :
    Calls Tryd.prog 8 #[.slice A n c] w fun e w' => e = .returned (.bool b) ∧ w = w' := hb ▸ rvalid_any A n c xs w h
theorem Num.tightB {w : World} {A : Option Addr} {n c a : Nat} {xs : List Nat} (h : Num w A n c xs a) : tightB xs = true := (tightB_iff xs).2 h.tight
set_option maxRecDepth 100000 in
set_option maxHeartbeats 1000000 in
theorem fv_badX (s : Bool) (A B : Option Addr) (n c m d : Nat) (xs ys : List Nat) (w : World) (hx : Lst w A n c xs) (hy : Lst w B m d ys) (hb : tightB xs = false) :
    Calls Tryd.prog 27 #[.agg #[.bool s, .slice A n c, .slice B m d]] w (Gives (.bool false) w) := by
  have b0 := Lib.hid ((Below.refl w.heap.size w).alloc (Nat.le_refl _) (.cells #[.bool s, .slice A n c, .slice B m d] 41))
  have V1 := Lib.hid (valid_l (hx.keep b0.out) hb)
  clear hx hy hb
  go_enter Tryd.func27, Tryd.ntmps27
  go_wp2_with fail
  refine V1.out.mono ?_
  rintro e w' ⟨rfl, rfl⟩
  go_wp2
  go_ret
  exact ⟨rfl, b0.out⟩
set_option maxRecDepth 100000 in
set_option maxHeartbeats 1000000 in
theorem fv_badY (s : Bool) (A B : Option Addr) (n c m d : Nat) (xs ys : List Nat) (w : World) (hx : Lst w A n c xs) (hy : Lst w B m d ys) (hb : tightB xs = true) (hb2 : tightB ys = false) :
    Calls Tryd.prog 27 #[.agg #[.bool s, .slice A n c, .slice B m d]] w (Gives (.bool false) w) := by
  have b0 := Lib.hid ((Below.refl w.heap.size w).alloc (Nat.le_refl _) (.cells #[.bool s, .slice A n c, .slice B m d] 41))
  have V1 := Lib.hid (valid_l (hx.keep b0.out) hb)
  have V2 := Lib.hid (valid_l (hy.keep b0.out) hb2)
  clear hx hy hb hb2
  go_enter Tryd.func27, Tryd.ntmps27
  go_wp2_with fail
  refine V1.out.mono ?_
  rintro e w' ⟨rfl, rfl⟩
  go_wp2_with fail
  refine V2.out.mono ?_
  rintro e w' ⟨rfl, rfl⟩
  go_wp2
  go_ret
  exact ⟨rfl, b0.out⟩
set_option maxRecDepth 100000 in
set_option maxHeartbeats 1000000 in
theorem rv_badX (s : Bool) (A B : Option Addr) (n c m d : Nat) (xs ys : List Nat) (w : World) (hx : Lst w A n c xs) (hy : Lst w B m d ys) (hb : tightB xs = false) :
    Calls Tryd.prog 28 #[.agg #[.bool s, .slice A n c, .slice B m d]] w (Gives (.bool false) w) := by
  have b0 := Lib.hid ((Below.refl w.heap.size w).alloc (Nat.le_refl _) (.cells #[.bool s, .slice A n c, .slice B m d] 41))
  have V1 := Lib.hid (rvalid_l (hx.keep b0.out) hb)
  clear hx hy hb
  go_enter Tryd.func28, Tryd.ntmps28
  go_wp2_with fail
  refine V1.out.mono ?_
  rintro e w' ⟨rfl, rfl⟩
  go_wp2
  go_ret
  exact ⟨rfl, b0.out⟩
set_option maxRecDepth 100000 in
set_option maxHeartbeats 1000000 in
theorem rv_badY (s : Bool) (A B : Option Addr) (n c m d : Nat) (xs ys : List Nat) (w : World) (hx : Lst w A n c xs) (hy : Lst w B m d ys) (hb : tightB xs = true) (hb2 : tightB ys = false) :
    Calls Tryd.prog 28 #[.agg #[.bool s, .slice A n c, .slice B m d]] w (Gives (.bool false) w) := by
  have b0 := Lib.hid ((Below.refl w.heap.size w).alloc (Nat.le_refl _) (.cells #[.bool s, .slice A n c, .slice B m d] 41))
  have V1 := Lib.hid (rvalid_l (hx.keep b0.out) hb)
  have V2 := Lib.hid (rvalid_l (hy.keep b0.out) hb2)
  clear hx hy hb hb2
  go_enter Tryd.func28, Tryd.ntmps28
  go_wp2_with fail
  refine V1.out.mono ?_
  rintro e w' ⟨rfl, rfl⟩
  go_wp2_with fail
  refine V2.out.mono ?_
  rintro e w' ⟨rfl, rfl⟩
  go_wp2
  go_ret
  exact ⟨rfl, b0.out⟩
set_option maxRecDepth 100000 in
set_option maxHeartbeats 1000000 in
theorem fv_den0 (s : Bool) (A B : Option Addr) (n c m d : Nat) (xs ys : List Nat) (w : World) (p q : Nat) (hx : Num w A n c xs p) (hy : Num w B m d ys q) (hn : n ≤ 20) (hm : m ≤ 20) (hq : q = 0) :
    Calls Tryd.prog 27 #[.agg #[.bool s, .slice A n c, .slice B m d]] w (Gives (.bool false) w) := by
  have b0 := Lib.hid ((Below.refl w.heap.size w).alloc (Nat.le_refl _) (.cells #[.bool s, .slice A n c, .slice B m d] 41))
  have V1 := Lib.hid (valid_l (hx.keep b0.out).toLst hx.tightB)
  have V2 := Lib.hid (valid_l (hy.keep b0.out).toLst hy.tightB)
  have Z1 := Lib.hid (isZero_any _ _ _ _ _ _ (hy.keep b0.out) (by omega) true (decide_eq_true hq))
  clear hx hy hq
  go_enter Tryd.func27, Tryd.ntmps27
  go_wp2_with fail
  refine V1.out.mono ?_
  rintro e w' ⟨rfl, rfl⟩
  go_wp2_with fail
  refine V2.out.mono ?_
  rintro e w' ⟨rfl, rfl⟩
  go_wp2_with fail
  refine Z1.out.mono ?_
  rintro e w' ⟨rfl, rfl⟩
  go_wp2
  go_ret
  exact ⟨rfl, b0.out⟩
set_option maxRecDepth 100000 in
set_option maxHeartbeats 1000000 in
theorem fv_neg0 (A B : Option Addr) (n c m d : Nat) (xs ys : List Nat) (w : World) (p q : Nat) (hx : Num w A n c xs p) (hy : Num w B m d ys q) (hn : n ≤ 20) (hm : m ≤ 20) (hq : 0 < q) (hp : p = 0) :
    Calls Tryd.prog 27 #[.agg #[.bool true, .slice A n c, .slice B m d]] w (Gives (.bool false) w) := by
  have b0 := Lib.hid ((Below.refl w.heap.size w).alloc (Nat.le_refl _) (.cells #[.bool true, .slice A n c, .slice B m d] 41))
  have V1 := Lib.hid (valid_l (hx.keep b0.out).toLst hx.tightB)
  have V2 := Lib.hid (valid_l (hy.keep b0.out).toLst hy.tightB)
  have Z1 := Lib.hid (isZero_any _ _ _ _ _ _ (hy.keep b0.out) (by omega) false (decide_eq_false (by omega)))
  have Z2 := Lib.hid (isZero_any _ _ _ _ _ _ (hx.keep b0.out) (by omega) true (decide_eq_true hp))
  clear hx hy hq hp
  go_enter Tryd.func27, Tryd.ntmps27
  go_wp2_with fail
  refine V1.out.mono ?_
  rintro e w' ⟨rfl, rfl⟩
  go_wp2_with fail
  refine V2.out.mono ?_
  rintro e w' ⟨rfl, rfl⟩
  go_wp2_with fail
  refine Z1.out.mono ?_
  rintro e w' ⟨rfl, rfl⟩
  go_wp2_with fail
  refine Z2.out.mono ?_
  rintro e w' ⟨rfl, rfl⟩
  go_wp2
  go_ret
  exact ⟨rfl, b0.out⟩
set_option maxRecDepth 100000 in
set_option maxHeartbeats 1000000 in
theorem fv_pos (A B : Option Addr) (n c m d : Nat) (xs ys : List Nat) (w : World) (p q : Nat) (hx : Num w A n c xs p) (hy : Num w B m d ys q) (hn : n ≤ 20) (hm : m ≤ 20) (hq : 0 < q) (T : Nat) (hT : Nat.gcd p q = T) :
    Calls Tryd.prog 27 #[.agg #[.bool false, .slice A n c, .slice B m d]] w (Gives (.bool (decide (T = 1))) w) := by
  have b0 := Lib.hid ((Below.refl w.heap.size w).alloc (Nat.le_refl _) (.cells #[.bool false, .slice A n c, .slice B m d] 41))
  have V1 := Lib.hid (valid_l (hx.keep b0.out).toLst hx.tightB)
  have V2 := Lib.hid (valid_l (hy.keep b0.out).toLst hy.tightB)
  have Z1 := Lib.hid (isZero_any _ _ _ _ _ _ (hy.keep b0.out) (by omega) false (decide_eq_false (by omega)))
  have G1 := Lib.hid (fgcd_v (hx.keep b0.out) (hy.keep b0.out) hn hm hT)
  clear hx hy hq hT
  go_enter Tryd.func27, Tryd.ntmps27
  go_wp2_with fail
  refine V1.out.mono ?_
  rintro e w' ⟨rfl, rfl⟩
  go_wp2_with fail
  refine V2.out.mono ?_
  rintro e w' ⟨rfl, rfl⟩
  go_wp2_with fail
  refine Z1.out.mono ?_
  rintro e w' ⟨rfl, rfl⟩
  go_wp2_with fail
  refine G1.out.mono ?_
  rintro e w1 ⟨Ag, ng, cg, xg, rfl, hN, hb⟩
  have C1 := Lib.hid (isOne_any _ _ _ _ _ _ hN _ rfl)
  have B1 := Lib.hid (b0.out.trans (hb.mono b0.out.size))
  clear hN hb b0
  go_wp2_with fail
  refine C1.out.mono ?_
  rintro e w' ⟨rfl, rfl⟩
  go_wp2
  go_ret
  exact ⟨rfl, B1.out⟩
set_option maxRecDepth 100000 in
set_option maxHeartbeats 1000000 in
theorem fv_neg (A B : Option Addr) (n c m d : Nat) (xs ys : List Nat) (w : World) (p q : Nat) (hx : Num w A n c xs p) (hy : Num w B m d ys q) (hn : n ≤ 20) (hm : m ≤ 20) (hq : 0 < q) (hp : 0 < p) (T : Nat) (hT : Nat.gcd p q = T) :
    Calls Tryd.prog 27 #[.agg #[.bool true, .slice A n c, .slice B m d]] w (Gives (.bool (decide (T = 1))) w) := by
  have b0 := Lib.hid ((Below.refl w.heap.size w).alloc (Nat.le_refl _) (.cells #[.bool true, .slice A n c, .slice B m d] 41))
  have V1 := Lib.hid (valid_l (hx.keep b0.out).toLst hx.tightB)
  have V2 := Lib.hid (valid_l (hy.keep b0.out).toLst hy.tightB)
  have Z1 := Lib.hid (isZero_any _ _ _ _ _ _ (hy.keep b0.out) (by omega) false (decide_eq_false (by omega)))
  have Z2 := Lib.hid (isZero_any _ _ _ _ _ _ (hx.keep b0.out) (by omega) false (decide_eq_false (by omega)))
  have G1 := Lib.hid (fgcd_v (hx.keep b0.out) (hy.keep b0.out) hn hm hT)
  clear hx hy hq hp hT
  go_enter Tryd.func27, Tryd.ntmps27
  go_wp2_with fail
  refine V1.out.mono ?_
  rintro e w' ⟨rfl, rfl⟩
  go_wp2_with fail
  refine V2.out.mono ?_
  rintro e w' ⟨rfl, rfl⟩
  go_wp2_with fail
  refine Z1.out.mono ?_
  rintro e w' ⟨rfl, rfl⟩
  go_wp2_with fail
  refine Z2.out.mono ?_
  rintro e w' ⟨rfl, rfl⟩
  go_wp2_with fail
  refine G1.out.mono ?_
  rintro e w1 ⟨Ag, ng, cg, xg, rfl, hN, hb⟩
  have C1 := Lib.hid (isOne_any _ _ _ _ _ _ hN _ rfl)
  have B1 := Lib.hid (b0.out.trans (hb.mono b0.out.size))
  clear hN hb b0
  go_wp2_with fail
  refine C1.out.mono ?_
  rintro e w' ⟨rfl, rfl⟩
  go_wp2
  go_ret
  exact ⟨rfl, B1.out⟩
set_option maxRecDepth 100000 in
set_option maxHeartbeats 1000000 in
theorem rv_den0 (s : Bool) (A B : Option Addr) (n c m d : Nat) (xs ys : List Nat) (w : World) (p q : Nat) (hx : Num w A n c xs p) (hy : Num w B m d ys q) (hn : n ≤ 20) (hm : m ≤ 20) (hq : m = 0) :
    Calls Tryd.prog 28 #[.agg #[.bool s, .slice A n c, .slice B m d]] w (Gives (.bool false) w) := by
  have b0 := Lib.hid ((Below.refl w.heap.size w).alloc (Nat.le_refl _) (.cells #[.bool s, .slice A n c, .slice B m d] 41))
  subst hq
  have V1 := Lib.hid (rvalid_l (hx.keep b0.out).toLst hx.tightB)
  have V2 := Lib.hid (rvalid_l (hy.keep b0.out).toLst hy.tightB)
  clear hx hy
  go_enter Tryd.func28, Tryd.ntmps28
  go_wp2_with fail
  refine V1.out.mono ?_
  rintro e w' ⟨rfl, rfl⟩
  go_wp2_with fail
  refine V2.out.mono ?_
  rintro e w' ⟨rfl, rfl⟩
  go_wp2
  go_ret
  exact ⟨rfl, b0.out⟩
set_option maxRecDepth 100000 in
set_option maxHeartbeats 1000000 in
theorem rv_neg0 (A B : Option Addr) (n c m d : Nat) (xs ys : List Nat) (w : World) (p q : Nat) (hx : Num w A n c xs p) (hy : Num w B m d ys q) (hn : n ≤ 20) (hm : m ≤ 20) (hq : 0 < m) (hp : n = 0) :
    Calls Tryd.prog 28 #[.agg #[.bool true, .slice A n c, .slice B m d]] w (Gives (.bool false) w) := by
  have b0 := Lib.hid ((Below.refl w.heap.size w).alloc (Nat.le_refl _) (.cells #[.bool true, .slice A n c, .slice B m d] 41))
  subst hp
  have V1 := Lib.hid (rvalid_l (hx.keep b0.out).toLst hx.tightB)
  have V2 := Lib.hid (rvalid_l (hy.keep b0.out).toLst hy.tightB)
  have mz : ((m : Int) == 0) = false := beq_eq_false_iff_ne.2 (by omega)
  clear hx hy hq
  go_enter Tryd.func28, Tryd.ntmps28
  go_wp2_with fail
  refine V1.out.mono ?_
  rintro e w' ⟨rfl, rfl⟩
  go_wp2_with fail
  refine V2.out.mono ?_
  rintro e w' ⟨rfl, rfl⟩
  go_wp2
  go_ret
  exact ⟨rfl, b0.out⟩
set_option maxRecDepth 100000 in
set_option maxHeartbeats 1000000 in
theorem rv_zero1 (A B : Option Addr) (n c m d : Nat) (xs ys : List Nat) (w : World) (p q : Nat) (hx : Num w A n c xs p) (hy : Num w B m d ys q) (hn : n ≤ 20) (hm : m ≤ 20) (hq : m = 1) (hp : n = 0) (b : Bool) (hb : decide (q = 1) = b) :
    Calls Tryd.prog 28 #[.agg #[.bool false, .slice A n c, .slice B m d]] w (Gives (.bool b) w) := by
  have b0 := Lib.hid ((Below.refl w.heap.size w).alloc (Nat.le_refl _) (.cells #[.bool false, .slice A n c, .slice B m d] 41))
  subst hp
  subst hq
  have V1 := Lib.hid (rvalid_l (hx.keep b0.out).toLst hx.tightB)
  have V2 := Lib.hid (rvalid_l (hy.keep b0.out).toLst hy.tightB)
  have ex := hy.one
  obtain ⟨ad, rfl, _, hc⟩ := (hy.keep b0.out).toLst.at_ (k := 0) (by omega)
  rw [ex, add_zero_] at hc
  simp only [List.getD_cons_zero] at hc
  have hc1 := hy.cap
  have e : ((q : Int) == 1) = b := by
    rw [← hb]
    by_cases h : q = 1
    · subst h; rfl
    · rw [decide_eq_false h]; exact beq_eq_false_iff_ne.2 (by omega)
  clear hx hy hb ex
  go_enter Tryd.func28, Tryd.ntmps28
  go_wp2_with fail
  refine V1.out.mono ?_
  rintro e w' ⟨rfl, rfl⟩
  go_wp2_with fail
  refine V2.out.mono ?_
  rintro e w' ⟨rfl, rfl⟩
  go_wp2
  go_ret
  exact ⟨rfl, b0.out⟩
set_option maxRecDepth 100000 in
set_option maxHeartbeats 1000000 in
theorem rv_zero2 (A B : Option Addr) (n c m d : Nat) (xs ys : List Nat) (w : World) (p q : Nat) (hx : Num w A n c xs p) (hy : Num w B m d ys q) (hn : n ≤ 20) (hm : m ≤ 20) (hq : 0 < m) (hq1 : m ≠ 1) (hp : n = 0) :
    Calls Tryd.prog 28 #[.agg #[.bool false, .slice A n c, .slice B m d]] w (Gives (.bool false) w) := by
  have b0 := Lib.hid ((Below.refl w.heap.size w).alloc (Nat.le_refl _) (.cells #[.bool false, .slice A n c, .slice B m d] 41))
  subst hp
  have V1 := Lib.hid (rvalid_l (hx.keep b0.out).toLst hx.tightB)
  have V2 := Lib.hid (rvalid_l (hy.keep b0.out).toLst hy.tightB)
  have mz : ((m : Int) == 0) = false := beq_eq_false_iff_ne.2 (by omega)
  have m1 : ((m : Int) == 1) = false := beq_eq_false_iff_ne.2 (by omega)
  clear hx hy hq hq1
  go_enter Tryd.func28, Tryd.ntmps28
  go_wp2_with fail
  refine V1.out.mono ?_
  rintro e w' ⟨rfl, rfl⟩
  go_wp2_with fail
  refine V2.out.mono ?_
  rintro e w' ⟨rfl, rfl⟩
  go_wp2
  go_ret
  exact ⟨rfl, b0.out⟩
set_option maxRecDepth 100000 in
set_option maxHeartbeats 1000000 in
theorem rv_gcd (s : Bool) (A B : Option Addr) (n c m d : Nat) (xs ys : List Nat) (w : World) (p q : Nat) (hx : Num w A n c xs p) (hy : Num w B m d ys q) (hn : n ≤ 20) (hm : m ≤ 20) (hq : 0 < m) (hp : 0 < n) (b : Bool) (T : Nat) (hT : Nat.gcd p q = T) (hb : decide (T = 1) = b) :
    Calls Tryd.prog 28 #[.agg #[.bool s, .slice A n c, .slice B m d]] w (Gives (.bool b) w) := by
  have b0 := Lib.hid ((Below.refl w.heap.size w).alloc (Nat.le_refl _) (.cells #[.bool s, .slice A n c, .slice B m d] 41))
  have V1 := Lib.hid (rvalid_l (hx.keep b0.out).toLst hx.tightB)
  have V2 := Lib.hid (rvalid_l (hy.keep b0.out).toLst hy.tightB)
  have mz : ((m : Int) == 0) = false := beq_eq_false_iff_ne.2 (by omega)
  have nz : ((n : Int) == 0) = false := beq_eq_false_iff_ne.2 (by omega)
  have G1 := Lib.hid (rgcd_v (hx.keep b0.out) (hy.keep b0.out) hn hm hT)
  have HB := Lib.hid hb
  clear hx hy hq hp hb hT
  go_enter Tryd.func28, Tryd.ntmps28
  go_wp2_with fail
  refine V1.out.mono ?_
  rintro e w' ⟨rfl, rfl⟩
  go_wp2_with fail
  refine V2.out.mono ?_
  rintro e w' ⟨rfl, rfl⟩
  go_wp2_with fail
  refine G1.out.mono ?_
  rintro e w1 ⟨Ag, ng, cg, xg, rfl, hN, hb⟩
  have B1 := Lib.hid (b0.out.trans (hb.mono b0.out.size))
  clear hb b0
  by_cases h1 : ng = 1
  · subst h1
    have ex := hN.one
    obtain ⟨ad, rfl, _, hc⟩ := hN.toLst.at_ (k := 0) (by omega)
    rw [ex, add_zero_] at hc
    simp only [List.getD_cons_zero] at hc
    have hc1 := hN.cap
    have e : ((T : Int) == 1) = b := by
      rw [← HB.out]
      by_cases h : T = 1
      · subst h; rfl
      · rw [decide_eq_false h]; exact beq_eq_false_iff_ne.2 (by omega)
    clear hN ex HB
    go_wp2
    go_ret
    exact ⟨rfl, B1.out⟩
  · have e : b = false := by
      rw [← HB.out]
      refine decide_eq_false fun ha => h1 ?_
      have h2 := hN.len_le (k := 1) (by rw [ha]; decide)
      have h3 := hN.npos (by omega)
      omega
    subst e
    have hz : ((ng : Int) == 1) = false := beq_eq_false_iff_ne.2 (by omega)
    clear hN HB h1
    go_wp2
    go_ret
    exact ⟨rfl, B1.out⟩
/-- Both say the same of a fraction that is not long. -/
theorem valid_both (s : Bool) (A B : Option Addr) (n c m d : Nat) (xs ys : List Nat) (w : World) (hx : Lst w A n c xs) (hy : Lst w B m d ys) (hn : n ≤ 20) (hm : m ≤ 20) :
    ∃ b, ∀ w', Below w.heap.size w w' → Calls Tryd.prog 27 #[.agg #[.bool s, .slice A n c, .slice B m d]] w' (Gives (.bool b) w') ∧ Calls Tryd.prog 28 #[.agg #[.bool s, .slice A n c, .slice B m d]] w' (Gives (.bool b) w') := by
  cases t1 : tightB xs
  · exact ⟨false, fun w' hb => ⟨fv_badX s A B n c m d xs ys w' (hx.keep hb) (hy.keep hb) t1, rv_badX s A B n c m d xs ys w' (hx.keep hb) (hy.keep hb) t1⟩⟩
  cases t2 : tightB ys
  · exact ⟨false, fun w' hb => ⟨fv_badY s A B n c m d xs ys w' (hx.keep hb) (hy.keep hb) t1 t2, rv_badY s A B n c m d xs ys w' (hx.keep hb) (hy.keep hb) t1 t2⟩⟩
  have X : Num w A n c xs (dval xs) := ⟨hx, (tightB_iff xs).1 t1, rfl⟩
  have Y : Num w B m d ys (dval ys) := ⟨hy, (tightB_iff ys).1 t2, rfl⟩
  clear hx hy t1 t2
  generalize dval xs = p at *
  generalize dval ys = q at *
  rcases Nat.eq_zero_or_pos q with hq | hq
  · have hm0 : m = 0 := by subst hq; exact Y.nzero
    exact ⟨false, fun w' hb => ⟨fv_den0 s A B n c m d xs ys w' p q (X.keep hb) (Y.keep hb) hn hm hq, rv_den0 s A B n c m d xs ys w' p q (X.keep hb) (Y.keep hb) hn hm hm0⟩⟩
  have hm0 := Y.npos hq
  obtain ⟨T, hT⟩ : ∃ T, Nat.gcd p q = T := ⟨_, rfl⟩
  rcases Nat.eq_zero_or_pos p with hp | hp
  · have hn0 : n = 0 := by subst hp; exact X.nzero
    cases s
    · by_cases h1 : m = 1
      · refine ⟨decide (T = 1), fun w' hb => ⟨fv_pos A B n c m d xs ys w' p q (X.keep hb) (Y.keep hb) hn hm hq T hT, rv_zero1 A B n c m d xs ys w' p q (X.keep hb) (Y.keep hb) hn hm h1 hn0 _ ?_⟩⟩
        rw [← hT, hp, Nat.gcd_zero_left]
      · refine ⟨decide (T = 1), fun w' hb => ⟨fv_pos A B n c m d xs ys w' p q (X.keep hb) (Y.keep hb) hn hm hq T hT, ?_⟩⟩
        have e : decide (T = 1) = false := by
          rw [← hT, hp, Nat.gcd_zero_left]
          refine decide_eq_false fun ha => h1 ?_
          have h2 := Y.len_le (k := 1) (by rw [ha]; decide)
          omega
        rw [e]
        exact rv_zero2 A B n c m d xs ys w' p q (X.keep hb) (Y.keep hb) hn hm hm0 h1 hn0
    · exact ⟨false, fun w' hb => ⟨fv_neg0 A B n c m d xs ys w' p q (X.keep hb) (Y.keep hb) hn hm hq hp, rv_neg0 A B n c m d xs ys w' p q (X.keep hb) (Y.keep hb) hn hm hm0 hn0⟩⟩
  · have hn0 := X.npos hp
    refine ⟨decide (T = 1), fun w' hb => ⟨?_, rv_gcd s A B n c m d xs ys w' p q (X.keep hb) (Y.keep hb) hn hm hm0 hn0 _ T hT rfl⟩⟩
    cases s
    · exact fv_pos A B n c m d xs ys w' p q (X.keep hb) (Y.keep hb) hn hm hq T hT
    · exact fv_neg A B n c m d xs ys w' p q (X.keep hb) (Y.keep hb) hn hm hq hp T hT
end Go.Proofs.YtgmjpkkpkdcncaaDoor
