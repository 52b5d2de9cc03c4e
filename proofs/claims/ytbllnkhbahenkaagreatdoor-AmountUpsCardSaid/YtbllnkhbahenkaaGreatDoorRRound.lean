/- RRound, RFloor, RCeil, WalkRounds, joined: no claim of its own. -/
import Derived.Test.YtbllnkhbahenkaaGreatDoorRound
import Derived.Test.YtbllnkhbahenkaaGreatDoorRMake
import Derived.Test.YtbllnkhbahenkaaGreatDoorRUint
import Derived.Test.YtbllnkhbahenkaaGreatDoorRMul
import Derived.Test.YtbllnkhbahenkaaGreatDoorShortF
namespace Go.Proofs.YtbllnkhbahenkaaGreatDoor
open Go.RowKit
theorem ruint_s {A : Option Addr} {n c a u : Nat} {xs : List Nat} {w : World} {z : Bool} (h : Num w A n c xs a) (hu : (if a < 18446744073709551616 then a else 0) = u) (hz : decide (a < 18446744073709551616) = z) :
    Calls Tryz.prog 108 #[.slice A n c] w fun e w' => e = .returned (.tuple #[.int .u64 (u : Int), .bool z]) ∧ w = w' := by
  have C := ruint_any A n c a xs w h
  have e1 : (if n ≤ 2 then a else 0) = u := by rw [← hu]; simp only [h.small]
  have e2 : decide (n ≤ 2) = z := by rw [← hz]; simp only [h.small]
  rw [e1, e2] at C
  exact C
theorem radd_s {A B : Option Addr} {n c m d a b i j : Nat} {xs ys : List Nat} {w : World} (hx : Num w A n c xs a) (hy : Num w B m d ys b) (ha : a < 4294967296 ^ i) (hb : b < 4294967296 ^ j) (hi : i ≤ 1000000) (hj : j ≤ 1000000) :
    Calls Tryz.prog 60 #[.slice A n c, .slice B m d] w (GivesNum (a + b) w) := radd_any A B n c m d a b xs ys w hx hy (hx.sh ha hi) (hy.sh hb hj)
set_option maxRecDepth 100000 in
set_option maxHeartbeats 1000000 in
theorem rfl_p_no (A B : Option Addr) (n c m d p q i : Nat) (xs ys : List Nat) (w : World) (hx : Num w A n c xs p) (hy : Num w B m d ys q) (hq : 0 < q) (pp : p < 4294967296 ^ i) (pq : q < 4294967296 ^ i) (hi : i ≤ 400000)  (u : Nat) (z : Bool) (hu : (if p / q < 18446744073709551616 then p / q else 0) = u) (hz : decide (p / q < 18446744073709551616) = z) (h : z = false) :
    Calls Tryz.prog 71 #[.agg #[.bool false, .slice A n c, .slice B m d]] w (Gives (.tuple #[.int .i64 0, .bool false]) w) := by
  have b0 := (Below.refl w.heap.size w).alloc (Nat.le_refl _) (.cells #[.bool false, .slice A n c, .slice B m d] 25)
  have B0 := Lib.hid b0
  have D0 := Lib.hid (rdivMod_s (hx.keep b0) (hy.keep b0) hq pp pq (by omega) (by omega))
  have qp := Lib.hid (pw_le (Nat.div_le_self p q) pp)
  have hi' := Lib.hid hi
  have U1 : Hid (∀ W A n c xs, Num W A n c xs (p / q) → Calls Tryz.prog 108 #[.slice A n c] W fun e w' => e = .returned (.tuple #[.int .u64 (u : Int), .bool z]) ∧ W = w') := Lib.hid fun W A n c xs k => ruint_s k hu hz
  have rr := Lib.hid hi
  subst h
  clear hx hy hq pp pq hi hu hz b0
  go_enter Tryz.func71, Tryz.ntmps71
  go_wp2_with fail
  refine D0.out.mono ?_
  rintro e w1 ⟨A1, n1, c1, x1, A2, n2, c2, x2, rfl, hN, hM, hb⟩
  have Q1 := Lib.hid hN
  have B1 := Lib.hid (B0.out.trans (hb.mono B0.out.size))
  have H1 := (FB.new w false A n c B m d).keep hb
  obtain ⟨Ha, Hb, Hc, _, _, _⟩ := H1.facts
  clear hN hM hb H1 B0 D0
  go_wp2_with fail
  refine (U1.out _ _ _ _ _ Q1.out).mono ?_
  rintro e w' ⟨rfl, rfl⟩
  go_wp2
  go_ret2
  exact ⟨rfl, B1.out⟩
set_option maxRecDepth 100000 in
set_option maxHeartbeats 1000000 in
theorem rfl_p_bigp (A B : Option Addr) (n c m d p q i : Nat) (xs ys : List Nat) (w : World) (hx : Num w A n c xs p) (hy : Num w B m d ys q) (hq : 0 < q) (pp : p < 4294967296 ^ i) (pq : q < 4294967296 ^ i) (hi : i ≤ 400000)  (u : Nat) (z : Bool) (hu : (if p / q < 18446744073709551616 then p / q else 0) = u) (hz : decide (p / q < 18446744073709551616) = z) (ht : z = true) (h : 9223372036854775807 < u) :
    Calls Tryz.prog 71 #[.agg #[.bool false, .slice A n c, .slice B m d]] w (Gives (.tuple #[.int .i64 0, .bool false]) w) := by
  have b0 := (Below.refl w.heap.size w).alloc (Nat.le_refl _) (.cells #[.bool false, .slice A n c, .slice B m d] 25)
  have B0 := Lib.hid b0
  have D0 := Lib.hid (rdivMod_s (hx.keep b0) (hy.keep b0) hq pp pq (by omega) (by omega))
  have qp := Lib.hid (pw_le (Nat.div_le_self p q) pp)
  have hi' := Lib.hid hi
  have U1 : Hid (∀ W A n c xs, Num W A n c xs (p / q) → Calls Tryz.prog 108 #[.slice A n c] W fun e w' => e = .returned (.tuple #[.int .u64 (u : Int), .bool z]) ∧ W = w') := Lib.hid fun W A n c xs k => ruint_s k hu hz
  have rr := Lib.hid hi
  subst ht
  have d1 : decide ((9223372036854775807 : Int) < (u : Int)) = true := decide_eq_true (by omega)
  have d2 : decide (9223372036854775807 < u) = true := decide_eq_true h
  clear hx hy hq pp pq hi hu hz b0 h
  go_enter Tryz.func71, Tryz.ntmps71
  go_wp2_with fail
  refine D0.out.mono ?_
  rintro e w1 ⟨A1, n1, c1, x1, A2, n2, c2, x2, rfl, hN, hM, hb⟩
  have Q1 := Lib.hid hN
  have B1 := Lib.hid (B0.out.trans (hb.mono B0.out.size))
  have H1 := (FB.new w false A n c B m d).keep hb
  obtain ⟨Ha, Hb, Hc, _, _, _⟩ := H1.facts
  clear hN hM hb H1 B0 D0
  go_wp2_with fail
  refine (U1.out _ _ _ _ _ Q1.out).mono ?_
  rintro e w' ⟨rfl, rfl⟩
  go_wp2
  go_ret2
  exact ⟨rfl, B1.out⟩
set_option maxRecDepth 100000 in
set_option maxHeartbeats 1000000 in
theorem rfl_p_okp (A B : Option Addr) (n c m d p q i : Nat) (xs ys : List Nat) (w : World) (hx : Num w A n c xs p) (hy : Num w B m d ys q) (hq : 0 < q) (pp : p < 4294967296 ^ i) (pq : q < 4294967296 ^ i) (hi : i ≤ 400000)  (u : Nat) (z : Bool) (hu : (if p / q < 18446744073709551616 then p / q else 0) = u) (hz : decide (p / q < 18446744073709551616) = z) (ht : z = true) (h : u ≤ 9223372036854775807) :
    Calls Tryz.prog 71 #[.agg #[.bool false, .slice A n c, .slice B m d]] w (Gives (.tuple #[.int .i64 (u : Int), .bool true]) w) := by
  have b0 := (Below.refl w.heap.size w).alloc (Nat.le_refl _) (.cells #[.bool false, .slice A n c, .slice B m d] 25)
  have B0 := Lib.hid b0
  have D0 := Lib.hid (rdivMod_s (hx.keep b0) (hy.keep b0) hq pp pq (by omega) (by omega))
  have qp := Lib.hid (pw_le (Nat.div_le_self p q) pp)
  have hi' := Lib.hid hi
  have U1 : Hid (∀ W A n c xs, Num W A n c xs (p / q) → Calls Tryz.prog 108 #[.slice A n c] W fun e w' => e = .returned (.tuple #[.int .u64 (u : Int), .bool z]) ∧ W = w') := Lib.hid fun W A n c xs k => ruint_s k hu hz
  have rr := Lib.hid hi
  subst ht
  have d1 : decide ((9223372036854775807 : Int) < (u : Int)) = false := decide_eq_false (by omega)
  have d2 : decide (9223372036854775807 < u) = false := decide_eq_false (by omega)
  have e1 : IntKind.i64.wrap (u : Int) = (u : Int) := IntWalk.i64_in _ (by omega)
  clear hx hy hq pp pq hi hu hz b0 h
  go_enter Tryz.func71, Tryz.ntmps71
  go_wp2_with fail
  refine D0.out.mono ?_
  rintro e w1 ⟨A1, n1, c1, x1, A2, n2, c2, x2, rfl, hN, hM, hb⟩
  have Q1 := Lib.hid hN
  have B1 := Lib.hid (B0.out.trans (hb.mono B0.out.size))
  have H1 := (FB.new w false A n c B m d).keep hb
  obtain ⟨Ha, Hb, Hc, _, _, _⟩ := H1.facts
  clear hN hM hb H1 B0 D0
  go_wp2_with fail
  refine (U1.out _ _ _ _ _ Q1.out).mono ?_
  rintro e w' ⟨rfl, rfl⟩
  go_wp2
  go_ret2
  exact ⟨rfl, B1.out⟩
set_option maxRecDepth 100000 in
set_option maxHeartbeats 1000000 in
theorem rfl_t_no (A B : Option Addr) (n c m d p q i : Nat) (xs ys : List Nat) (w : World) (hx : Num w A n c xs p) (hy : Num w B m d ys q) (hq : 0 < q) (pp : p < 4294967296 ^ i) (pq : q < 4294967296 ^ i) (hi : i ≤ 400000) (hr : p % q = 0) (u : Nat) (z : Bool) (hu : (if p / q < 18446744073709551616 then p / q else 0) = u) (hz : decide (p / q < 18446744073709551616) = z) (h : z = false) :
    Calls Tryz.prog 71 #[.agg #[.bool true, .slice A n c, .slice B m d]] w (Gives (.tuple #[.int .i64 0, .bool false]) w) := by
  have b0 := (Below.refl w.heap.size w).alloc (Nat.le_refl _) (.cells #[.bool true, .slice A n c, .slice B m d] 25)
  have B0 := Lib.hid b0
  have D0 := Lib.hid (rdivMod_s (hx.keep b0) (hy.keep b0) hq pp pq (by omega) (by omega))
  have qp := Lib.hid (pw_le (Nat.div_le_self p q) pp)
  have hi' := Lib.hid hi
  have U1 : Hid (∀ W A n c xs, Num W A n c xs (p / q) → Calls Tryz.prog 108 #[.slice A n c] W fun e w' => e = .returned (.tuple #[.int .u64 (u : Int), .bool z]) ∧ W = w') := Lib.hid fun W A n c xs k => ruint_s k hu hz
  have rr := Lib.hid hr
  subst h
  clear hx hy hq pp pq hi hu hz b0 hr
  go_enter Tryz.func71, Tryz.ntmps71
  go_wp2_with fail
  refine D0.out.mono ?_
  rintro e w1 ⟨A1, n1, c1, x1, A2, n2, c2, x2, rfl, hN, hM, hb⟩
  have Q1 := Lib.hid hN
  have B1 := Lib.hid (B0.out.trans (hb.mono B0.out.size))
  have H1 := (FB.new w true A n c B m d).keep hb
  obtain ⟨Ha, Hb, Hc, _, _, _⟩ := H1.facts
  obtain rfl := Num.nzero (hM.to rr.out)
  clear hN hM hb H1 B0 D0
  go_wp2_with fail
  refine (U1.out _ _ _ _ _ Q1.out).mono ?_
  rintro e w' ⟨rfl, rfl⟩
  go_wp2
  go_ret2
  exact ⟨rfl, B1.out⟩
set_option maxRecDepth 100000 in
set_option maxHeartbeats 1000000 in
theorem rfl_t_bign (A B : Option Addr) (n c m d p q i : Nat) (xs ys : List Nat) (w : World) (hx : Num w A n c xs p) (hy : Num w B m d ys q) (hq : 0 < q) (pp : p < 4294967296 ^ i) (pq : q < 4294967296 ^ i) (hi : i ≤ 400000) (hr : p % q = 0) (u : Nat) (z : Bool) (hu : (if p / q < 18446744073709551616 then p / q else 0) = u) (hz : decide (p / q < 18446744073709551616) = z) (ht : z = true) (h : 9223372036854775808 < u) :
    Calls Tryz.prog 71 #[.agg #[.bool true, .slice A n c, .slice B m d]] w (Gives (.tuple #[.int .i64 0, .bool false]) w) := by
  have b0 := (Below.refl w.heap.size w).alloc (Nat.le_refl _) (.cells #[.bool true, .slice A n c, .slice B m d] 25)
  have B0 := Lib.hid b0
  have D0 := Lib.hid (rdivMod_s (hx.keep b0) (hy.keep b0) hq pp pq (by omega) (by omega))
  have qp := Lib.hid (pw_le (Nat.div_le_self p q) pp)
  have hi' := Lib.hid hi
  have U1 : Hid (∀ W A n c xs, Num W A n c xs (p / q) → Calls Tryz.prog 108 #[.slice A n c] W fun e w' => e = .returned (.tuple #[.int .u64 (u : Int), .bool z]) ∧ W = w') := Lib.hid fun W A n c xs k => ruint_s k hu hz
  have rr := Lib.hid hr
  subst ht
  have d1 : decide ((9223372036854775808 : Int) < (u : Int)) = true := decide_eq_true (by omega)
  have d2 : decide (9223372036854775808 < u) = true := decide_eq_true h
  clear hx hy hq pp pq hi hu hz b0 hr h
  go_enter Tryz.func71, Tryz.ntmps71
  go_wp2_with fail
  refine D0.out.mono ?_
  rintro e w1 ⟨A1, n1, c1, x1, A2, n2, c2, x2, rfl, hN, hM, hb⟩
  have Q1 := Lib.hid hN
  have B1 := Lib.hid (B0.out.trans (hb.mono B0.out.size))
  have H1 := (FB.new w true A n c B m d).keep hb
  obtain ⟨Ha, Hb, Hc, _, _, _⟩ := H1.facts
  obtain rfl := Num.nzero (hM.to rr.out)
  clear hN hM hb H1 B0 D0
  go_wp2_with fail
  refine (U1.out _ _ _ _ _ Q1.out).mono ?_
  rintro e w' ⟨rfl, rfl⟩
  go_wp2
  go_ret2
  exact ⟨rfl, B1.out⟩
set_option maxRecDepth 100000 in
set_option maxHeartbeats 1000000 in
theorem rfl_t_zeron (A B : Option Addr) (n c m d p q i : Nat) (xs ys : List Nat) (w : World) (hx : Num w A n c xs p) (hy : Num w B m d ys q) (hq : 0 < q) (pp : p < 4294967296 ^ i) (pq : q < 4294967296 ^ i) (hi : i ≤ 400000) (hr : p % q = 0) (u : Nat) (z : Bool) (hu : (if p / q < 18446744073709551616 then p / q else 0) = u) (hz : decide (p / q < 18446744073709551616) = z) (ht : z = true) (h : u = 0) :
    Calls Tryz.prog 71 #[.agg #[.bool true, .slice A n c, .slice B m d]] w (Gives (.tuple #[.int .i64 0, .bool true]) w) := by
  have b0 := (Below.refl w.heap.size w).alloc (Nat.le_refl _) (.cells #[.bool true, .slice A n c, .slice B m d] 25)
  have B0 := Lib.hid b0
  have D0 := Lib.hid (rdivMod_s (hx.keep b0) (hy.keep b0) hq pp pq (by omega) (by omega))
  have qp := Lib.hid (pw_le (Nat.div_le_self p q) pp)
  have hi' := Lib.hid hi
  have U1 : Hid (∀ W A n c xs, Num W A n c xs (p / q) → Calls Tryz.prog 108 #[.slice A n c] W fun e w' => e = .returned (.tuple #[.int .u64 (u : Int), .bool z]) ∧ W = w') := Lib.hid fun W A n c xs k => ruint_s k hu hz
  have rr := Lib.hid hr
  subst ht
  have d1 : decide ((9223372036854775808 : Int) < (u : Int)) = false := decide_eq_false (by omega)
  have d2 : decide (9223372036854775808 < u) = false := decide_eq_false (by omega)
  have z1 : ((u : Int) == 0) = true := beq_iff_eq.2 (by omega)
  clear hx hy hq pp pq hi hu hz b0 hr h
  go_enter Tryz.func71, Tryz.ntmps71
  go_wp2_with fail
  refine D0.out.mono ?_
  rintro e w1 ⟨A1, n1, c1, x1, A2, n2, c2, x2, rfl, hN, hM, hb⟩
  have Q1 := Lib.hid hN
  have B1 := Lib.hid (B0.out.trans (hb.mono B0.out.size))
  have H1 := (FB.new w true A n c B m d).keep hb
  obtain ⟨Ha, Hb, Hc, _, _, _⟩ := H1.facts
  obtain rfl := Num.nzero (hM.to rr.out)
  clear hN hM hb H1 B0 D0
  go_wp2_with fail
  refine (U1.out _ _ _ _ _ Q1.out).mono ?_
  rintro e w' ⟨rfl, rfl⟩
  go_wp2
  go_ret2
  exact ⟨rfl, B1.out⟩
set_option maxRecDepth 100000 in
set_option maxHeartbeats 1000000 in
theorem rfl_t_okn (A B : Option Addr) (n c m d p q i : Nat) (xs ys : List Nat) (w : World) (hx : Num w A n c xs p) (hy : Num w B m d ys q) (hq : 0 < q) (pp : p < 4294967296 ^ i) (pq : q < 4294967296 ^ i) (hi : i ≤ 400000) (hr : p % q = 0) (u : Nat) (z : Bool) (hu : (if p / q < 18446744073709551616 then p / q else 0) = u) (hz : decide (p / q < 18446744073709551616) = z) (ht : z = true) (h : u ≤ 9223372036854775808) (h0 : 0 < u) :
    Calls Tryz.prog 71 #[.agg #[.bool true, .slice A n c, .slice B m d]] w (Gives (.tuple #[.int .i64 (-(u : Int)), .bool true]) w) := by
  have b0 := (Below.refl w.heap.size w).alloc (Nat.le_refl _) (.cells #[.bool true, .slice A n c, .slice B m d] 25)
  have B0 := Lib.hid b0
  have D0 := Lib.hid (rdivMod_s (hx.keep b0) (hy.keep b0) hq pp pq (by omega) (by omega))
  have qp := Lib.hid (pw_le (Nat.div_le_self p q) pp)
  have hi' := Lib.hid hi
  have U1 : Hid (∀ W A n c xs, Num W A n c xs (p / q) → Calls Tryz.prog 108 #[.slice A n c] W fun e w' => e = .returned (.tuple #[.int .u64 (u : Int), .bool z]) ∧ W = w') := Lib.hid fun W A n c xs k => ruint_s k hu hz
  have rr := Lib.hid hr
  subst ht
  have d1 : decide ((9223372036854775808 : Int) < (u : Int)) = false := decide_eq_false (by omega)
  have d2 : decide (9223372036854775808 < u) = false := decide_eq_false (by omega)
  have z1 : ((u : Int) == 0) = false := beq_eq_false_iff_ne.2 (by omega)
  have e0 : IntKind.u64.wrap ((u : Int) - 1) = (u : Int) - 1 := by rw [IntKind.wrap_u64]; omega
  have e1 : IntKind.i64.wrap ((u : Int) - 1) = (u : Int) - 1 := IntWalk.i64_in _ (by omega)
  have e2 : IntKind.i64.wrap (-((u : Int) - 1)) = -((u : Int) - 1) := IntWalk.i64_in _ (by omega)
  have e3 : IntKind.i64.wrap (-((u : Int) - 1) - 1) = -(u : Int) := by rw [IntWalk.i64_in _ (by omega)]; omega
  clear hx hy hq pp pq hi hu hz b0 hr h h0
  go_enter Tryz.func71, Tryz.ntmps71
  go_wp2_with fail
  refine D0.out.mono ?_
  rintro e w1 ⟨A1, n1, c1, x1, A2, n2, c2, x2, rfl, hN, hM, hb⟩
  have Q1 := Lib.hid hN
  have B1 := Lib.hid (B0.out.trans (hb.mono B0.out.size))
  have H1 := (FB.new w true A n c B m d).keep hb
  obtain ⟨Ha, Hb, Hc, _, _, _⟩ := H1.facts
  obtain rfl := Num.nzero (hM.to rr.out)
  clear hN hM hb H1 B0 D0
  go_wp2_with fail
  refine (U1.out _ _ _ _ _ Q1.out).mono ?_
  rintro e w' ⟨rfl, rfl⟩
  go_wp2
  go_ret2
  exact ⟨rfl, B1.out⟩
set_option maxRecDepth 100000 in
set_option maxHeartbeats 1000000 in
theorem rfl_a_no (A B : Option Addr) (n c m d p q i : Nat) (xs ys : List Nat) (w : World) (hx : Num w A n c xs p) (hy : Num w B m d ys q) (hq : 0 < q) (pp : p < 4294967296 ^ i) (pq : q < 4294967296 ^ i) (hi : i ≤ 400000) (hr : 0 < p % q) (u : Nat) (z : Bool) (hu : (if p / q + 1 < 18446744073709551616 then p / q + 1 else 0) = u) (hz : decide (p / q + 1 < 18446744073709551616) = z) (h : z = false) :
    Calls Tryz.prog 71 #[.agg #[.bool true, .slice A n c, .slice B m d]] w (Gives (.tuple #[.int .i64 0, .bool false]) w) := by
  have b0 := (Below.refl w.heap.size w).alloc (Nat.le_refl _) (.cells #[.bool true, .slice A n c, .slice B m d] 25)
  have B0 := Lib.hid b0
  have D0 := Lib.hid (rdivMod_s (hx.keep b0) (hy.keep b0) hq pp pq (by omega) (by omega))
  have qp := Lib.hid (pw_le (Nat.div_le_self p q) pp)
  have hi' := Lib.hid hi
  have U1 : Hid (∀ W A n c xs, Num W A n c xs (p / q + 1) → Calls Tryz.prog 108 #[.slice A n c] W fun e w' => e = .returned (.tuple #[.int .u64 (u : Int), .bool z]) ∧ W = w') := Lib.hid fun W A n c xs k => ruint_s k hu hz
  have rr := Lib.hid hr
  subst h
  clear hx hy hq pp pq hi hu hz b0 hr
  go_enter Tryz.func71, Tryz.ntmps71
  go_wp2_with fail
  refine D0.out.mono ?_
  rintro e w1 ⟨A1, n1, c1, x1, A2, n2, c2, x2, rfl, hN, hM, hb⟩
  have Q1 := Lib.hid hN
  have B1 := Lib.hid (B0.out.trans (hb.mono B0.out.size))
  have H1 := (FB.new w true A n c B m d).keep hb
  obtain ⟨Ha, Hb, Hc, _, _, _⟩ := H1.facts
  have hn2 := hM.npos rr.out
  have H1x := Lib.hid H1
  clear hN hM hb H1 B0 D0
  go_wp2_with fail
  refine (rfromUint_any 1 (by decide) _).mono ?_
  rintro e w2 ⟨A3, n3, c3, x3, rfl, hN, hb⟩
  have AD := Lib.hid (radd_s (Q1.out.keep hb) hN qp.out (j := 1) (by decide) (by have := hi'.out; omega) (by decide))
  have B2 := Lib.hid (B1.out.trans (hb.mono B1.out.size))
  have H2 := Lib.hid (H1x.out.keep hb)
  obtain ⟨Ha, Hb, Hc, _, _, _⟩ := H2.out.facts
  clear hN hb B1 Q1 H1x
  go_wp2_with fail
  refine AD.out.mono ?_
  rintro e w3 ⟨A1, n1, c1, x1, rfl, hN, hb⟩
  have Q1 := Lib.hid hN
  have B1 := Lib.hid (B2.out.trans (hb.mono B2.out.size))
  have H3 := H2.out.keep hb
  obtain ⟨Ha, Hb, Hc, _, _, _⟩ := H3.facts
  clear hN hb B2 AD H2 H3
  go_wp2_with fail
  refine (U1.out _ _ _ _ _ Q1.out).mono ?_
  rintro e w' ⟨rfl, rfl⟩
  go_wp2
  go_ret2
  exact ⟨rfl, B1.out⟩
set_option maxRecDepth 100000 in
set_option maxHeartbeats 1000000 in
theorem rfl_a_bign (A B : Option Addr) (n c m d p q i : Nat) (xs ys : List Nat) (w : World) (hx : Num w A n c xs p) (hy : Num w B m d ys q) (hq : 0 < q) (pp : p < 4294967296 ^ i) (pq : q < 4294967296 ^ i) (hi : i ≤ 400000) (hr : 0 < p % q) (u : Nat) (z : Bool) (hu : (if p / q + 1 < 18446744073709551616 then p / q + 1 else 0) = u) (hz : decide (p / q + 1 < 18446744073709551616) = z) (ht : z = true) (h : 9223372036854775808 < u) :
    Calls Tryz.prog 71 #[.agg #[.bool true, .slice A n c, .slice B m d]] w (Gives (.tuple #[.int .i64 0, .bool false]) w) := by
  have b0 := (Below.refl w.heap.size w).alloc (Nat.le_refl _) (.cells #[.bool true, .slice A n c, .slice B m d] 25)
  have B0 := Lib.hid b0
  have D0 := Lib.hid (rdivMod_s (hx.keep b0) (hy.keep b0) hq pp pq (by omega) (by omega))
  have qp := Lib.hid (pw_le (Nat.div_le_self p q) pp)
  have hi' := Lib.hid hi
  have U1 : Hid (∀ W A n c xs, Num W A n c xs (p / q + 1) → Calls Tryz.prog 108 #[.slice A n c] W fun e w' => e = .returned (.tuple #[.int .u64 (u : Int), .bool z]) ∧ W = w') := Lib.hid fun W A n c xs k => ruint_s k hu hz
  have rr := Lib.hid hr
  subst ht
  have d1 : decide ((9223372036854775808 : Int) < (u : Int)) = true := decide_eq_true (by omega)
  have d2 : decide (9223372036854775808 < u) = true := decide_eq_true h
  clear hx hy hq pp pq hi hu hz b0 hr h
  go_enter Tryz.func71, Tryz.ntmps71
  go_wp2_with fail
  refine D0.out.mono ?_
  rintro e w1 ⟨A1, n1, c1, x1, A2, n2, c2, x2, rfl, hN, hM, hb⟩
  have Q1 := Lib.hid hN
  have B1 := Lib.hid (B0.out.trans (hb.mono B0.out.size))
  have H1 := (FB.new w true A n c B m d).keep hb
  obtain ⟨Ha, Hb, Hc, _, _, _⟩ := H1.facts
  have hn2 := hM.npos rr.out
  have H1x := Lib.hid H1
  clear hN hM hb H1 B0 D0
  go_wp2_with fail
  refine (rfromUint_any 1 (by decide) _).mono ?_
  rintro e w2 ⟨A3, n3, c3, x3, rfl, hN, hb⟩
  have AD := Lib.hid (radd_s (Q1.out.keep hb) hN qp.out (j := 1) (by decide) (by have := hi'.out; omega) (by decide))
  have B2 := Lib.hid (B1.out.trans (hb.mono B1.out.size))
  have H2 := Lib.hid (H1x.out.keep hb)
  obtain ⟨Ha, Hb, Hc, _, _, _⟩ := H2.out.facts
  clear hN hb B1 Q1 H1x
  go_wp2_with fail
  refine AD.out.mono ?_
  rintro e w3 ⟨A1, n1, c1, x1, rfl, hN, hb⟩
  have Q1 := Lib.hid hN
  have B1 := Lib.hid (B2.out.trans (hb.mono B2.out.size))
  have H3 := H2.out.keep hb
  obtain ⟨Ha, Hb, Hc, _, _, _⟩ := H3.facts
  clear hN hb B2 AD H2 H3
  go_wp2_with fail
  refine (U1.out _ _ _ _ _ Q1.out).mono ?_
  rintro e w' ⟨rfl, rfl⟩
  go_wp2
  go_ret2
  exact ⟨rfl, B1.out⟩
set_option maxRecDepth 100000 in
set_option maxHeartbeats 1000000 in
theorem rfl_a_zeron (A B : Option Addr) (n c m d p q i : Nat) (xs ys : List Nat) (w : World) (hx : Num w A n c xs p) (hy : Num w B m d ys q) (hq : 0 < q) (pp : p < 4294967296 ^ i) (pq : q < 4294967296 ^ i) (hi : i ≤ 400000) (hr : 0 < p % q) (u : Nat) (z : Bool) (hu : (if p / q + 1 < 18446744073709551616 then p / q + 1 else 0) = u) (hz : decide (p / q + 1 < 18446744073709551616) = z) (ht : z = true) (h : u = 0) :
    Calls Tryz.prog 71 #[.agg #[.bool true, .slice A n c, .slice B m d]] w (Gives (.tuple #[.int .i64 0, .bool true]) w) := by
  have b0 := (Below.refl w.heap.size w).alloc (Nat.le_refl _) (.cells #[.bool true, .slice A n c, .slice B m d] 25)
  have B0 := Lib.hid b0
  have D0 := Lib.hid (rdivMod_s (hx.keep b0) (hy.keep b0) hq pp pq (by omega) (by omega))
  have qp := Lib.hid (pw_le (Nat.div_le_self p q) pp)
  have hi' := Lib.hid hi
  have U1 : Hid (∀ W A n c xs, Num W A n c xs (p / q + 1) → Calls Tryz.prog 108 #[.slice A n c] W fun e w' => e = .returned (.tuple #[.int .u64 (u : Int), .bool z]) ∧ W = w') := Lib.hid fun W A n c xs k => ruint_s k hu hz
  have rr := Lib.hid hr
  subst ht
  have d1 : decide ((9223372036854775808 : Int) < (u : Int)) = false := decide_eq_false (by omega)
  have d2 : decide (9223372036854775808 < u) = false := decide_eq_false (by omega)
  have z1 : ((u : Int) == 0) = true := beq_iff_eq.2 (by omega)
  clear hx hy hq pp pq hi hu hz b0 hr h
  go_enter Tryz.func71, Tryz.ntmps71
  go_wp2_with fail
  refine D0.out.mono ?_
  rintro e w1 ⟨A1, n1, c1, x1, A2, n2, c2, x2, rfl, hN, hM, hb⟩
  have Q1 := Lib.hid hN
  have B1 := Lib.hid (B0.out.trans (hb.mono B0.out.size))
  have H1 := (FB.new w true A n c B m d).keep hb
  obtain ⟨Ha, Hb, Hc, _, _, _⟩ := H1.facts
  have hn2 := hM.npos rr.out
  have H1x := Lib.hid H1
  clear hN hM hb H1 B0 D0
  go_wp2_with fail
  refine (rfromUint_any 1 (by decide) _).mono ?_
  rintro e w2 ⟨A3, n3, c3, x3, rfl, hN, hb⟩
  have AD := Lib.hid (radd_s (Q1.out.keep hb) hN qp.out (j := 1) (by decide) (by have := hi'.out; omega) (by decide))
  have B2 := Lib.hid (B1.out.trans (hb.mono B1.out.size))
  have H2 := Lib.hid (H1x.out.keep hb)
  obtain ⟨Ha, Hb, Hc, _, _, _⟩ := H2.out.facts
  clear hN hb B1 Q1 H1x
  go_wp2_with fail
  refine AD.out.mono ?_
  rintro e w3 ⟨A1, n1, c1, x1, rfl, hN, hb⟩
  have Q1 := Lib.hid hN
  have B1 := Lib.hid (B2.out.trans (hb.mono B2.out.size))
  have H3 := H2.out.keep hb
  obtain ⟨Ha, Hb, Hc, _, _, _⟩ := H3.facts
  clear hN hb B2 AD H2 H3
  go_wp2_with fail
  refine (U1.out _ _ _ _ _ Q1.out).mono ?_
  rintro e w' ⟨rfl, rfl⟩
  go_wp2
  go_ret2
  exact ⟨rfl, B1.out⟩
set_option maxRecDepth 100000 in
set_option maxHeartbeats 1000000 in
theorem rfl_a_okn (A B : Option Addr) (n c m d p q i : Nat) (xs ys : List Nat) (w : World) (hx : Num w A n c xs p) (hy : Num w B m d ys q) (hq : 0 < q) (pp : p < 4294967296 ^ i) (pq : q < 4294967296 ^ i) (hi : i ≤ 400000) (hr : 0 < p % q) (u : Nat) (z : Bool) (hu : (if p / q + 1 < 18446744073709551616 then p / q + 1 else 0) = u) (hz : decide (p / q + 1 < 18446744073709551616) = z) (ht : z = true) (h : u ≤ 9223372036854775808) (h0 : 0 < u) :
    Calls Tryz.prog 71 #[.agg #[.bool true, .slice A n c, .slice B m d]] w (Gives (.tuple #[.int .i64 (-(u : Int)), .bool true]) w) := by
  have b0 := (Below.refl w.heap.size w).alloc (Nat.le_refl _) (.cells #[.bool true, .slice A n c, .slice B m d] 25)
  have B0 := Lib.hid b0
  have D0 := Lib.hid (rdivMod_s (hx.keep b0) (hy.keep b0) hq pp pq (by omega) (by omega))
  have qp := Lib.hid (pw_le (Nat.div_le_self p q) pp)
  have hi' := Lib.hid hi
  have U1 : Hid (∀ W A n c xs, Num W A n c xs (p / q + 1) → Calls Tryz.prog 108 #[.slice A n c] W fun e w' => e = .returned (.tuple #[.int .u64 (u : Int), .bool z]) ∧ W = w') := Lib.hid fun W A n c xs k => ruint_s k hu hz
  have rr := Lib.hid hr
  subst ht
  have d1 : decide ((9223372036854775808 : Int) < (u : Int)) = false := decide_eq_false (by omega)
  have d2 : decide (9223372036854775808 < u) = false := decide_eq_false (by omega)
  have z1 : ((u : Int) == 0) = false := beq_eq_false_iff_ne.2 (by omega)
  have e0 : IntKind.u64.wrap ((u : Int) - 1) = (u : Int) - 1 := by rw [IntKind.wrap_u64]; omega
  have e1 : IntKind.i64.wrap ((u : Int) - 1) = (u : Int) - 1 := IntWalk.i64_in _ (by omega)
  have e2 : IntKind.i64.wrap (-((u : Int) - 1)) = -((u : Int) - 1) := IntWalk.i64_in _ (by omega)
  have e3 : IntKind.i64.wrap (-((u : Int) - 1) - 1) = -(u : Int) := by rw [IntWalk.i64_in _ (by omega)]; omega
  clear hx hy hq pp pq hi hu hz b0 hr h h0
  go_enter Tryz.func71, Tryz.ntmps71
  go_wp2_with fail
  refine D0.out.mono ?_
  rintro e w1 ⟨A1, n1, c1, x1, A2, n2, c2, x2, rfl, hN, hM, hb⟩
  have Q1 := Lib.hid hN
  have B1 := Lib.hid (B0.out.trans (hb.mono B0.out.size))
  have H1 := (FB.new w true A n c B m d).keep hb
  obtain ⟨Ha, Hb, Hc, _, _, _⟩ := H1.facts
  have hn2 := hM.npos rr.out
  have H1x := Lib.hid H1
  clear hN hM hb H1 B0 D0
  go_wp2_with fail
  refine (rfromUint_any 1 (by decide) _).mono ?_
  rintro e w2 ⟨A3, n3, c3, x3, rfl, hN, hb⟩
  have AD := Lib.hid (radd_s (Q1.out.keep hb) hN qp.out (j := 1) (by decide) (by have := hi'.out; omega) (by decide))
  have B2 := Lib.hid (B1.out.trans (hb.mono B1.out.size))
  have H2 := Lib.hid (H1x.out.keep hb)
  obtain ⟨Ha, Hb, Hc, _, _, _⟩ := H2.out.facts
  clear hN hb B1 Q1 H1x
  go_wp2_with fail
  refine AD.out.mono ?_
  rintro e w3 ⟨A1, n1, c1, x1, rfl, hN, hb⟩
  have Q1 := Lib.hid hN
  have B1 := Lib.hid (B2.out.trans (hb.mono B2.out.size))
  have H3 := H2.out.keep hb
  obtain ⟨Ha, Hb, Hc, _, _, _⟩ := H3.facts
  clear hN hb B2 AD H2 H3
  go_wp2_with fail
  refine (U1.out _ _ _ _ _ Q1.out).mono ?_
  rintro e w' ⟨rfl, rfl⟩
  go_wp2
  go_ret2
  exact ⟨rfl, B1.out⟩
end Go.Proofs.YtbllnkhbahenkaaGreatDoor
namespace Go.Proofs.YtbllnkhbahenkaaGreatDoor
open Go.RowKit
theorem ws_no (s : Bool) (u : Nat) : ws s u false = (0, false) := by unfold ws; rw [if_pos (.inl rfl)]
theorem ws_bigp (u : Nat) (h : 9223372036854775807 < u) : ws false u true = (0, false) := by
  unfold ws
  rw [if_pos]
  rcases Nat.lt_or_ge 9223372036854775808 u with h2 | h2
  · exact .inr (.inl h2)
  · exact .inr (.inr ⟨by omega, rfl⟩)
theorem ws_okp (u : Nat) (h : u ≤ 9223372036854775807) : ws false u true = ((u : Int), true) := by
  unfold ws
  rw [if_neg]
  · rfl
  · rintro (h3 | h3 | h3)
    · cases h3
    · omega
    · omega
theorem ws_bign (u : Nat) (h : 9223372036854775808 < u) : ws true u true = (0, false) := by
  unfold ws
  rw [if_pos (.inr (.inl h))]
theorem ws_okn (u : Nat) (h : u ≤ 9223372036854775808) : ws true u true = (-(u : Int), true) := by
  unfold ws
  rw [if_neg]
  · rfl
  · rintro (h3 | h3 | h3)
    · cases h3
    · omega
    · cases h3.2
theorem rfloor_any (s : Bool) (A B : Option Addr) (n c m d p q i : Nat) (xs ys : List Nat) (w : World) (hx : Num w A n c xs p) (hy : Num w B m d ys q) (hq : 0 < q) (pp : p < 4294967296 ^ i) (pq : q < 4294967296 ^ i) (hi : i ≤ 400000) :
    Calls Tryz.prog 71 #[.agg #[.bool s, .slice A n c, .slice B m d]] w (Gives (.tuple #[.int .i64 (rv2 s p q s).1, .bool (rv2 s p q s).2]) w) := by
  unfold rv2
  cases s
  · have e : rsz p q false = p / q := by simp [rsz]
    rw [e]
    generalize hu : (if p / q < 18446744073709551616 then p / q else 0) = u
    generalize hz : decide (p / q < 18446744073709551616) = z
    cases z
    · rw [ws_no]; exact rfl_p_no A B n c m d p q i xs ys w hx hy hq pp pq hi u false hu hz rfl
    · rcases Nat.lt_or_ge 9223372036854775807 u with h | h
      · rw [ws_bigp u h]; exact rfl_p_bigp A B n c m d p q i xs ys w hx hy hq pp pq hi u true hu hz rfl h
      · rw [ws_okp u h]; exact rfl_p_okp A B n c m d p q i xs ys w hx hy hq pp pq hi u true hu hz rfl h
  · rcases Nat.eq_zero_or_pos (p % q) with hr | hr
    · have e : rsz p q true = p / q := by simp [rsz, hr]
      rw [e]
      generalize hu : (if p / q < 18446744073709551616 then p / q else 0) = u
      generalize hz : decide (p / q < 18446744073709551616) = z
      cases z
      · rw [ws_no]; exact rfl_t_no A B n c m d p q i xs ys w hx hy hq pp pq hi hr u false hu hz rfl
      · rcases Nat.lt_or_ge 9223372036854775808 u with h | h
        · rw [ws_bign u h]; exact rfl_t_bign A B n c m d p q i xs ys w hx hy hq pp pq hi hr u true hu hz rfl h
        · rw [ws_okn u h]
          rcases Nat.eq_zero_or_pos u with h0 | h0
          · have G := rfl_t_zeron A B n c m d p q i xs ys w hx hy hq pp pq hi hr u true hu hz rfl h0
            rw [h0]
            exact G
          · exact rfl_t_okn A B n c m d p q i xs ys w hx hy hq pp pq hi hr u true hu hz rfl h h0
    · have e : rsz p q true = p / q + 1 := by simp [rsz, hr]
      rw [e]
      generalize hu : (if p / q + 1 < 18446744073709551616 then p / q + 1 else 0) = u
      generalize hz : decide (p / q + 1 < 18446744073709551616) = z
      cases z
      · rw [ws_no]; exact rfl_a_no A B n c m d p q i xs ys w hx hy hq pp pq hi hr u false hu hz rfl
      · rcases Nat.lt_or_ge 9223372036854775808 u with h | h
        · rw [ws_bign u h]; exact rfl_a_bign A B n c m d p q i xs ys w hx hy hq pp pq hi hr u true hu hz rfl h
        · rw [ws_okn u h]
          rcases Nat.eq_zero_or_pos u with h0 | h0
          · have G := rfl_a_zeron A B n c m d p q i xs ys w hx hy hq pp pq hi hr u true hu hz rfl h0
            rw [h0]
            exact G
          · exact rfl_a_okn A B n c m d p q i xs ys w hx hy hq pp pq hi hr u true hu hz rfl h h0
end Go.Proofs.YtbllnkhbahenkaaGreatDoor
namespace Go.Proofs.YtbllnkhbahenkaaGreatDoor
open Go.RowKit
theorem rsz_one (K : Nat) (s : Bool) : rsz K 1 s = K := by simp [rsz, Nat.mod_one, Nat.div_one]
theorem rv2_one (s : Bool) (K : Nat) : rv2 s K 1 s = ws s (if K < 18446744073709551616 then K else 0) (decide (K < 18446744073709551616)) := by unfold rv2; rw [rsz_one]
set_option maxRecDepth 100000 in
set_option maxHeartbeats 1000000 in
theorem rcl_p0 (A B : Option Addr) (n c m d p q i : Nat) (xs ys : List Nat) (w : World) (hx : Num w A n c xs p) (hy : Num w B m d ys q) (hq : 0 < q) (pp : p < 4294967296 ^ i) (pq : q < 4294967296 ^ i) (hi : i ≤ 300000) (hr : p % q = 0) (r1 : Int) (r2 : Bool) (hv : rv2 false (p / q) 1 false = (r1, r2)) :
    Calls Tryz.prog 40 #[.agg #[.bool false, .slice A n c, .slice B m d]] w (Gives (.tuple #[.int .i64 r1, .bool r2]) w) := by
  have b0 := (Below.refl w.heap.size w).alloc (Nat.le_refl _) (.cells #[.bool false, .slice A n c, .slice B m d] 25)
  have B0 := Lib.hid b0
  have D0 := Lib.hid (rdivMod_s (hx.keep b0) (hy.keep b0) hq pp pq (by omega) (by omega))
  have qp0 := pw_le (Nat.div_le_self p q) pp
  have qp := Lib.hid qp0
  have hi' := Lib.hid hi
  have pK1 : p / q + 1 < 4294967296 ^ (i + 2) := pw_add (j := 1) qp0 (by decide) (by omega) (by omega)
  have pK : p / q < 4294967296 ^ (i + 2) := pw_le (by omega) pK1
  have FL : Hid (∀ W A n c xs B m d ys, Num W A n c xs (p / q) → Num W B m d ys 1 → Calls Tryz.prog 71 #[.agg #[.bool false, .slice A n c, .slice B m d]] W (Gives (.tuple #[.int .i64 r1, .bool r2]) W)) := Lib.hid fun W A n c xs B m d ys k k1 => by
    have G := rfloor_any false A B n c m d (p / q) 1 (i + 2) xs ys W k k1 (by decide) pK (Nat.lt_of_lt_of_le (by decide) (Nat.pow_le_pow_right (n := 4294967296) (by decide) (show 1 ≤ i + 2 by omega))) (by omega)
    rw [hv] at G
    exact G
  have rr := Lib.hid hr
  clear hx hy hq pp pq hi hv b0 qp0 pK pK1 hr
  go_enter Tryz.func40, Tryz.ntmps40
  go_wp2_with fail
  refine D0.out.mono ?_
  rintro e w1 ⟨A1, n1, c1, x1, A2, n2, c2, x2, rfl, hN, hM, hb⟩
  have Q1 := Lib.hid hN
  have B1 := Lib.hid (B0.out.trans (hb.mono B0.out.size))
  have H1 := Lib.hid ((FB.new w false A n c B m d).keep hb)
  obtain ⟨Ha, Hb, Hc, _, _, _⟩ := H1.out.facts
  obtain rfl := Num.nzero (hM.to rr.out)
  clear hN hM hb B0 D0
  go_wp2_with fail
  refine (rfromUint_any 1 (by decide) _).mono ?_
  rintro e w5 ⟨A5, n5, c5, x5, rfl, hN, hb⟩
  have GF := Lib.hid (FL.out _ _ _ _ _ _ _ _ _ (Q1.out.keep hb) hN)
  have B5 := Lib.hid (B1.out.trans (hb.mono B1.out.size))
  clear hN hb B1 Q1 H1
  go_wp2_with fail
  refine GF.out.mono ?_
  rintro e w6 ⟨rfl, hb⟩
  have B6 := Lib.hid (B5.out.trans (hb.mono B5.out.size))
  clear hb B5 GF FL
  go_wp2
  go_ret2
  exact ⟨rfl, B6.out⟩
set_option maxRecDepth 100000 in
set_option maxHeartbeats 1000000 in
theorem rcl_p1 (A B : Option Addr) (n c m d p q i : Nat) (xs ys : List Nat) (w : World) (hx : Num w A n c xs p) (hy : Num w B m d ys q) (hq : 0 < q) (pp : p < 4294967296 ^ i) (pq : q < 4294967296 ^ i) (hi : i ≤ 300000) (hr : 0 < p % q) (r1 : Int) (r2 : Bool) (hv : rv2 false (p / q + 1) 1 false = (r1, r2)) :
    Calls Tryz.prog 40 #[.agg #[.bool false, .slice A n c, .slice B m d]] w (Gives (.tuple #[.int .i64 r1, .bool r2]) w) := by
  have b0 := (Below.refl w.heap.size w).alloc (Nat.le_refl _) (.cells #[.bool false, .slice A n c, .slice B m d] 25)
  have B0 := Lib.hid b0
  have D0 := Lib.hid (rdivMod_s (hx.keep b0) (hy.keep b0) hq pp pq (by omega) (by omega))
  have qp0 := pw_le (Nat.div_le_self p q) pp
  have qp := Lib.hid qp0
  have hi' := Lib.hid hi
  have pK1 : p / q + 1 < 4294967296 ^ (i + 2) := pw_add (j := 1) qp0 (by decide) (by omega) (by omega)
  have pK : p / q + 1 < 4294967296 ^ (i + 2) := pw_le (by omega) pK1
  have FL : Hid (∀ W A n c xs B m d ys, Num W A n c xs (p / q + 1) → Num W B m d ys 1 → Calls Tryz.prog 71 #[.agg #[.bool false, .slice A n c, .slice B m d]] W (Gives (.tuple #[.int .i64 r1, .bool r2]) W)) := Lib.hid fun W A n c xs B m d ys k k1 => by
    have G := rfloor_any false A B n c m d (p / q + 1) 1 (i + 2) xs ys W k k1 (by decide) pK (Nat.lt_of_lt_of_le (by decide) (Nat.pow_le_pow_right (n := 4294967296) (by decide) (show 1 ≤ i + 2 by omega))) (by omega)
    rw [hv] at G
    exact G
  have rr := Lib.hid hr
  clear hx hy hq pp pq hi hv b0 qp0 pK pK1 hr
  go_enter Tryz.func40, Tryz.ntmps40
  go_wp2_with fail
  refine D0.out.mono ?_
  rintro e w1 ⟨A1, n1, c1, x1, A2, n2, c2, x2, rfl, hN, hM, hb⟩
  have Q1 := Lib.hid hN
  have B1 := Lib.hid (B0.out.trans (hb.mono B0.out.size))
  have H1 := Lib.hid ((FB.new w false A n c B m d).keep hb)
  obtain ⟨Ha, Hb, Hc, _, _, _⟩ := H1.out.facts
  have hn2 := hM.npos rr.out
  clear hN hM hb B0 D0
  go_wp2_with fail
  refine (rfromUint_any 1 (by decide) _).mono ?_
  rintro e w2 ⟨A3, n3, c3, x3, rfl, hN, hb⟩
  have AD := Lib.hid (radd_s (Q1.out.keep hb) hN qp.out (j := 1) (by decide) (by have := hi'.out; omega) (by decide))
  have B2 := Lib.hid (B1.out.trans (hb.mono B1.out.size))
  have H2 := Lib.hid (H1.out.keep hb)
  obtain ⟨Ha, Hb, Hc, _, _, _⟩ := H2.out.facts
  clear hN hb B1 Q1 H1
  go_wp2_with fail
  refine AD.out.mono ?_
  rintro e w3 ⟨A1, n1, c1, x1, rfl, hN, hb⟩
  have Q1 := Lib.hid hN
  have B1 := Lib.hid (B2.out.trans (hb.mono B2.out.size))
  have H1 := Lib.hid (H2.out.keep hb)
  obtain ⟨Ha, Hb, Hc, _, _, _⟩ := H1.out.facts
  clear hN hb B2 AD H2
  go_wp2_with fail
  refine (rfromUint_any 1 (by decide) _).mono ?_
  rintro e w5 ⟨A5, n5, c5, x5, rfl, hN, hb⟩
  have GF := Lib.hid (FL.out _ _ _ _ _ _ _ _ _ (Q1.out.keep hb) hN)
  have B5 := Lib.hid (B1.out.trans (hb.mono B1.out.size))
  clear hN hb B1 Q1 H1
  go_wp2_with fail
  refine GF.out.mono ?_
  rintro e w6 ⟨rfl, hb⟩
  have B6 := Lib.hid (B5.out.trans (hb.mono B5.out.size))
  clear hb B5 GF FL
  go_wp2
  go_ret2
  exact ⟨rfl, B6.out⟩
set_option maxRecDepth 100000 in
set_option maxHeartbeats 1000000 in
theorem rcl_n0 (A B : Option Addr) (n c m d p q i : Nat) (xs ys : List Nat) (w : World) (hx : Num w A n c xs p) (hy : Num w B m d ys q) (hq : 0 < q) (pp : p < 4294967296 ^ i) (pq : q < 4294967296 ^ i) (hi : i ≤ 300000) (hr : p / q = 0) (r1 : Int) (r2 : Bool) (hv : rv2 false (p / q) 1 false = (r1, r2)) :
    Calls Tryz.prog 40 #[.agg #[.bool true, .slice A n c, .slice B m d]] w (Gives (.tuple #[.int .i64 r1, .bool r2]) w) := by
  have b0 := (Below.refl w.heap.size w).alloc (Nat.le_refl _) (.cells #[.bool true, .slice A n c, .slice B m d] 25)
  have B0 := Lib.hid b0
  have D0 := Lib.hid (rdivMod_s (hx.keep b0) (hy.keep b0) hq pp pq (by omega) (by omega))
  have qp0 := pw_le (Nat.div_le_self p q) pp
  have qp := Lib.hid qp0
  have hi' := Lib.hid hi
  have pK1 : p / q + 1 < 4294967296 ^ (i + 2) := pw_add (j := 1) qp0 (by decide) (by omega) (by omega)
  have pK : p / q < 4294967296 ^ (i + 2) := pw_le (by omega) pK1
  have FL : Hid (∀ W A n c xs B m d ys, Num W A n c xs (p / q) → Num W B m d ys 1 → Calls Tryz.prog 71 #[.agg #[.bool false, .slice A n c, .slice B m d]] W (Gives (.tuple #[.int .i64 r1, .bool r2]) W)) := Lib.hid fun W A n c xs B m d ys k k1 => by
    have G := rfloor_any false A B n c m d (p / q) 1 (i + 2) xs ys W k k1 (by decide) pK (Nat.lt_of_lt_of_le (by decide) (Nat.pow_le_pow_right (n := 4294967296) (by decide) (show 1 ≤ i + 2 by omega))) (by omega)
    rw [hv] at G
    exact G
  have rr := Lib.hid hr
  clear hx hy hq pp pq hi hv b0 qp0 pK pK1 hr
  go_enter Tryz.func40, Tryz.ntmps40
  go_wp2_with fail
  refine D0.out.mono ?_
  rintro e w1 ⟨A1, n1, c1, x1, A2, n2, c2, x2, rfl, hN, hM, hb⟩
  have Q1 := Lib.hid hN
  have B1 := Lib.hid (B0.out.trans (hb.mono B0.out.size))
  have H1 := Lib.hid ((FB.new w true A n c B m d).keep hb)
  obtain ⟨Ha, Hb, Hc, _, _, _⟩ := H1.out.facts
  obtain rfl := Num.nzero (hN.to rr.out)
  clear hN hM hb B0 D0
  go_wp2_with fail
  refine (rfromUint_any 1 (by decide) _).mono ?_
  rintro e w5 ⟨A5, n5, c5, x5, rfl, hN, hb⟩
  have GF := Lib.hid (FL.out _ _ _ _ _ _ _ _ _ (Q1.out.keep hb) hN)
  have B5 := Lib.hid (B1.out.trans (hb.mono B1.out.size))
  clear hN hb B1 Q1 H1
  go_wp2_with fail
  refine GF.out.mono ?_
  rintro e w6 ⟨rfl, hb⟩
  have B6 := Lib.hid (B5.out.trans (hb.mono B5.out.size))
  clear hb B5 GF FL
  go_wp2
  go_ret2
  exact ⟨rfl, B6.out⟩
set_option maxRecDepth 100000 in
set_option maxHeartbeats 1000000 in
theorem rcl_n1 (A B : Option Addr) (n c m d p q i : Nat) (xs ys : List Nat) (w : World) (hx : Num w A n c xs p) (hy : Num w B m d ys q) (hq : 0 < q) (pp : p < 4294967296 ^ i) (pq : q < 4294967296 ^ i) (hi : i ≤ 300000) (hr : 0 < p / q) (r1 : Int) (r2 : Bool) (hv : rv2 true (p / q) 1 true = (r1, r2)) :
    Calls Tryz.prog 40 #[.agg #[.bool true, .slice A n c, .slice B m d]] w (Gives (.tuple #[.int .i64 r1, .bool r2]) w) := by
  have b0 := (Below.refl w.heap.size w).alloc (Nat.le_refl _) (.cells #[.bool true, .slice A n c, .slice B m d] 25)
  have B0 := Lib.hid b0
  have D0 := Lib.hid (rdivMod_s (hx.keep b0) (hy.keep b0) hq pp pq (by omega) (by omega))
  have qp0 := pw_le (Nat.div_le_self p q) pp
  have qp := Lib.hid qp0
  have hi' := Lib.hid hi
  have pK1 : p / q + 1 < 4294967296 ^ (i + 2) := pw_add (j := 1) qp0 (by decide) (by omega) (by omega)
  have pK : p / q < 4294967296 ^ (i + 2) := pw_le (by omega) pK1
  have FL : Hid (∀ W A n c xs B m d ys, Num W A n c xs (p / q) → Num W B m d ys 1 → Calls Tryz.prog 71 #[.agg #[.bool true, .slice A n c, .slice B m d]] W (Gives (.tuple #[.int .i64 r1, .bool r2]) W)) := Lib.hid fun W A n c xs B m d ys k k1 => by
    have G := rfloor_any true A B n c m d (p / q) 1 (i + 2) xs ys W k k1 (by decide) pK (Nat.lt_of_lt_of_le (by decide) (Nat.pow_le_pow_right (n := 4294967296) (by decide) (show 1 ≤ i + 2 by omega))) (by omega)
    rw [hv] at G
    exact G
  have rr := Lib.hid hr
  clear hx hy hq pp pq hi hv b0 qp0 pK pK1 hr
  go_enter Tryz.func40, Tryz.ntmps40
  go_wp2_with fail
  refine D0.out.mono ?_
  rintro e w1 ⟨A1, n1, c1, x1, A2, n2, c2, x2, rfl, hN, hM, hb⟩
  have Q1 := Lib.hid hN
  have B1 := Lib.hid (B0.out.trans (hb.mono B0.out.size))
  have H1 := Lib.hid ((FB.new w true A n c B m d).keep hb)
  obtain ⟨Ha, Hb, Hc, _, _, _⟩ := H1.out.facts
  have hn1 := hN.npos rr.out
  have hd : decide (0 < n1) = true := decide_eq_true hn1
  clear hN hM hb B0 D0
  go_wp2_with fail
  refine (rfromUint_any 1 (by decide) _).mono ?_
  rintro e w5 ⟨A5, n5, c5, x5, rfl, hN, hb⟩
  have GF := Lib.hid (FL.out _ _ _ _ _ _ _ _ _ (Q1.out.keep hb) hN)
  have B5 := Lib.hid (B1.out.trans (hb.mono B1.out.size))
  clear hN hb B1 Q1 H1
  go_wp2_with fail
  refine GF.out.mono ?_
  rintro e w6 ⟨rfl, hb⟩
  have B6 := Lib.hid (B5.out.trans (hb.mono B5.out.size))
  clear hb B5 GF FL
  go_wp2
  go_ret2
  exact ⟨rfl, B6.out⟩
theorem rceil_any (s : Bool) (A B : Option Addr) (n c m d p q i : Nat) (xs ys : List Nat) (w : World) (hx : Num w A n c xs p) (hy : Num w B m d ys q) (hq : 0 < q) (pp : p < 4294967296 ^ i) (pq : q < 4294967296 ^ i) (hi : i ≤ 300000) :
    Calls Tryz.prog 40 #[.agg #[.bool s, .slice A n c, .slice B m d]] w (Gives (.tuple #[.int .i64 (rv2 s p q (!s)).1, .bool (rv2 s p q (!s)).2]) w) := by
  cases s
  · rcases Nat.eq_zero_or_pos (p % q) with hr | hr
    · refine rcl_p0 A B n c m d p q i xs ys w hx hy hq pp pq hi hr _ _ ?_
      rw [rv2_one]
      show _ = rv2 false p q true
      have e : rsz p q true = p / q := by simp [rsz, hr]
      unfold rv2
      rw [e]
    · refine rcl_p1 A B n c m d p q i xs ys w hx hy hq pp pq hi hr _ _ ?_
      rw [rv2_one]
      show _ = rv2 false p q true
      have e : rsz p q true = p / q + 1 := by simp [rsz, hr]
      unfold rv2
      rw [e]
  · have e : rsz p q false = p / q := by simp [rsz]
    rcases Nat.eq_zero_or_pos (p / q) with hr | hr
    · refine rcl_n0 A B n c m d p q i xs ys w hx hy hq pp pq hi hr _ _ ?_
      rw [rv2_one]
      show _ = rv2 true p q false
      unfold rv2
      rw [e, hr]
      rfl
    · refine rcl_n1 A B n c m d p q i xs ys w hx hy hq pp pq hi hr _ _ ?_
      rw [rv2_one]
      show _ = rv2 true p q false
      unfold rv2
      rw [e]
end Go.Proofs.YtbllnkhbahenkaaGreatDoor
namespace Go.Proofs.YtbllnkhbahenkaaGreatDoor
open Go.RowKit
end Go.Proofs.YtbllnkhbahenkaaGreatDoor
