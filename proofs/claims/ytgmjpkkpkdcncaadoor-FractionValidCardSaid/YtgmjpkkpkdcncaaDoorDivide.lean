/- Contracts of natural.divide and DivMod: no claim of its own. -/
import Derived.Test.YtgmjpkkpkdcncaaDoorDivLong
namespace Go.Proofs.YtgmjpkkpkdcncaaDoor
open Go.RowKit
theorem Own.numOf {w : World} {B : Nat} {v : Value} {xs : List Nat} {a : Nat} (h : Own w B v xs) (hs : xs.length ≤ 35184372088832) (ht : Tight xs) (hv : dval xs = a) : ∃ A c, v = .slice A xs.length c ∧ Num w A xs.length c xs a := by
  obtain ⟨A, c, rfl, L⟩ := h.lst hs
  exact ⟨A, c, rfl, L, ht, hv⟩
theorem Num.less {w : World} {A B : Option Addr} {n c m d a b : Nat} {xs ys : List Nat} (hx : Num w A n c xs a) (hy : Num w B m d ys b) (h : n < m) : a < b := by
  have := len_lt xs ys hx.lt hy.tight (by rw [hx.len, hy.len]; exact h)
  rwa [hx.val, hy.val] at this
set_option maxRecDepth 100000 in
set_option maxHeartbeats 1000000 in
theorem divide_short (A B : Option Addr) (n c m d a b : Nat) (xs ys : List Nat) (w : World) (hx : Num w A n c xs a) (hy : Num w B m d ys b) (hm : 2 < m) (hnm : n < m) (hn : n ≤ 900000) (hm2 : m ≤ 900000) :
    Calls Tryd.prog 31 #[.slice A n c, .slice B m d] w (GivesTwo (a / b) (a % b) w) := by
  have hab := hx.less hy hnm
  have E : Hid (a / b = 0 ∧ a % b = a) := Lib.hid ⟨Nat.div_eq_of_lt hab, Nat.mod_eq_of_lt hab⟩
  have HX := Lib.hid hx
  have d2 : decide (m ≤ 2) = false := decide_eq_false (by omega)
  clear hx hy hab
  by_cases h2 : n ≤ 2
  · have d1 : decide (n ≤ 2) = true := decide_eq_true h2
    go_enter Tryd.func31, Tryd.ntmps31
    go_wp2_with fail
    refine (small_any _ _ _ _ (by omega)).mono ?_
    rintro e w' ⟨rfl, rfl⟩
    go_wp2_with fail
    refine (small_any _ _ _ _ (by omega)).mono ?_
    rintro e w' ⟨rfl, rfl⟩
    go_wp2_with fail
    refine (clone_any _ _ _ _ _ HX.out.toLst).mono ?_
    rintro e w1 ⟨v, rfl, hO, hb⟩
    obtain ⟨A1, c1, rfl, hN⟩ := hO.numOf (by rw [HX.out.len]; omega) HX.out.tight HX.out.val
    have G : Hid (GivesTwo (a / b) (a % b) w (.returned (.tuple #[.slice none 0 0, .slice A1 xs.length c1])) w1) := Lib.hid (by
      rw [E.out.1, E.out.2]
      exact ⟨_, _, _, _, _, _, _, _, rfl, Num.zero _, hN, hb⟩)
    clear hO hN hb
    generalize xs.length = l at G
    go_wp2
    go_ret2
    exact G.out
  · have d1 : decide (n ≤ 2) = false := decide_eq_false h2
    go_enter Tryd.func31, Tryd.ntmps31
    go_wp2_with fail
    refine (small_any _ _ _ _ (by omega)).mono ?_
    rintro e w' ⟨rfl, rfl⟩
    go_wp2_with fail
    refine (clone_any _ _ _ _ _ HX.out.toLst).mono ?_
    rintro e w1 ⟨v, rfl, hO, hb⟩
    obtain ⟨A1, c1, rfl, hN⟩ := hO.numOf (by rw [HX.out.len]; omega) HX.out.tight HX.out.val
    have G : Hid (GivesTwo (a / b) (a % b) w (.returned (.tuple #[.slice none 0 0, .slice A1 xs.length c1])) w1) := Lib.hid (by
      rw [E.out.1, E.out.2]
      exact ⟨_, _, _, _, _, _, _, _, rfl, Num.zero _, hN, hb⟩)
    clear hO hN hb
    generalize xs.length = l at G
    go_wp2
    go_ret2
    exact G.out
set_option maxRecDepth 100000 in
set_option maxHeartbeats 1000000 in
theorem divide_one (A B : Option Addr) (n c d a b : Nat) (xs ys : List Nat) (w : World) (hx : Num w A n c xs a) (hy : Num w B 1 d ys b) (hn2 : 2 < n) (hn : n ≤ 900000) :
    Calls Tryd.prog 31 #[.slice A n c, .slice B 1 d] w (GivesTwo (a / b) (a % b) w) := by
  have hbp := hy.pos (by omega)
  have hbl : b < 4294967296 := by have := hy.lt_pow; simpa using this
  obtain ⟨bd, rfl, _, hcell0⟩ := hy.toLst.at_ (k := 0) (by omega)
  rw [add_zero_] at hcell0
  have hyb : ys.getD 0 0 = b := by
    have h1 := hy.len
    have h2 := hy.val
    rcases ys with _ | ⟨y, _ | ⟨z, zs⟩⟩
    · simp at h1
    · simpa [dval] using h2
    · simp at h1
  rw [hyb] at hcell0
  have HX := Lib.hid hx
  have HC := Lib.hid hcell0
  have d1 : decide (n ≤ 2) = false := decide_eq_false (by omega)
  clear hx hy hyb hcell0
  have HB := Lib.hid (show bd.block < w.heap.size from World.block_lt_of_cell? w _ HC.out)
  go_enter Tryd.func31, Tryd.ntmps31
  go_wp2_with fail
  refine (small_any _ _ _ _ (by omega)).mono ?_
  rintro e w' ⟨rfl, rfl⟩
  go_wp2_with fail
  refine (clone_any _ _ _ _ _ HX.out.toLst).mono ?_
  rintro e w1 ⟨v, rfl, hO, hb⟩
  obtain ⟨A1, c1, rfl, hM, hc1⟩ := hO.mine
  have DB := Lib.hid (divideByDigit_any A1 xs.length c1 b xs w1 w.heap.size hM (by rw [HX.out.len]; omega) hb.size hbp hbl)
  have hcell : w1.cell? bd = some (.int .u32 (b : Int)) := by rw [hb.cell HB.out]; exact HC.out
  have hl : xs.length = n := HX.out.len
  rw [hl] at DB hc1
  rw [hl]
  have B1 := Lib.hid hb
  clear hO hM hb hl
  go_wp2_with fail
  refine DB.out.mono ?_
  rintro e w2 ⟨cur, rfl, hM, ⟨hb2, _⟩, hv⟩
  have L := Lib.hid (hM.lst (c := c1) hc1 (by omega))
  have V := Lib.hid (hv.trans (by rw [HX.out.val]))
  have B2 := Lib.hid (B1.out.trans hb2)
  have HV := Lib.hid HX.out.val
  rw [HV.out]
  have hr : a % b < b := Nat.mod_lt _ hbp
  obtain ⟨r, hre⟩ : ∃ r, a % b = r := ⟨_, rfl⟩
  rw [hre] at hr ⊢
  have RE := Lib.hid hre
  clear hM hb2 hv DB hre
  go_wp2_with fail
  refine (trim_any _ _ _ _ _ L.out).mono ?_
  rintro e w' ⟨k, hk, rfl, ht, hv, rfl⟩
  have X1 := Lib.hid (show Num w2 A1 k k (cur.take k) (a / b) from ⟨L.out.cut hk, ht, hv.trans V.out⟩)
  clear hk ht hv
  go_wp2_with fail
  refine (fromUint_any r (by omega) _).mono ?_
  rintro e w3 ⟨A3, n3, c3, x3, rfl, h3, b3⟩
  have G : Hid (GivesTwo (a / b) r w (.returned (.tuple #[.slice A1 k k, .slice A3 n3 c3])) w3) := Lib.hid ⟨_, _, _, _, _, _, _, _, rfl, X1.out.keep b3, h3, B2.out.trans (b3.mono B2.out.size)⟩
  clear h3 b3 X1
  go_wp2
  go_ret2
  rw [RE.out]
  exact G.out
set_option maxRecDepth 100000 in
set_option maxHeartbeats 1000000 in
theorem divide_long (A B : Option Addr) (n c m d a b : Nat) (xs ys : List Nat) (w : World) (hx : Num w A n c xs a) (hy : Num w B m d ys b) (hm : 2 ≤ m) (hmn : m ≤ n) (h2 : 2 < n) (hn : n ≤ 900000) :
    Calls Tryd.prog 31 #[.slice A n c, .slice B m d] w (GivesTwo (a / b) (a % b) w) := by
  have D := Lib.hid (divideLong_any A B n c m d a b xs ys w hx hy hm hmn hn)
  have d1 : decide (n ≤ 2) = false := decide_eq_false (by omega)
  have d2 : ((m : Int) == 1) = false := beq_eq_false_iff_ne.2 (by omega)
  clear hx hy
  go_enter Tryd.func31, Tryd.ntmps31
  go_wp2_with fail
  refine (small_any _ _ _ _ (by omega)).mono ?_
  rintro e w' ⟨rfl, rfl⟩
  go_wp2_with fail
  refine D.out.mono ?_
  rintro e w1 ⟨A1, n1, c1, xs1, A2, n2, c2, xs2, rfl, h1, h2, h3⟩
  have G := Lib.hid (show GivesTwo (a / b) (a % b) w (.returned (.tuple #[.slice A1 n1 c1, .slice A2 n2 c2])) w1 from ⟨_, _, _, _, _, _, _, _, rfl, h1, h2, h3⟩)
  clear h1 h2 h3 D
  go_wp2
  go_ret2
  exact G.out
/-- Quotient and remainder of any numbers; the divisor is not zero. -/
theorem divide_any (A B : Option Addr) (n c m d a b : Nat) (xs ys : List Nat) (w : World) (hx : Num w A n c xs a) (hy : Num w B m d ys b) (hm : 0 < m) (hn : n ≤ 900000) (hm2 : m ≤ 900000) :
    Calls Tryd.prog 31 #[.slice A n c, .slice B m d] w (GivesTwo (a / b) (a % b) w) := by
  by_cases h1 : n ≤ 2 ∧ m ≤ 2
  · exact divide_small A B n c m d a b xs ys w hx hy h1.1 h1.2 (hy.pos hm)
  · rcases Nat.lt_or_ge n m with h2 | h2
    · exact divide_short A B n c m d a b xs ys w hx hy (by omega) h2 hn hm2
    · by_cases h3 : m = 1
      · subst h3
        exact divide_one A B n c d a b xs ys w hx hy (by omega) hn
      · exact divide_long A B n c m d a b xs ys w hx hy (by omega) h2 (by omega) hn
theorem divMod_any (A B : Option Addr) (n c m d a b : Nat) (xs ys : List Nat) (w : World) (hx : Num w A n c xs a) (hy : Num w B m d ys b) (hm : 0 < m) (hn : n ≤ 900000) (hm2 : m ≤ 900000) :
    Calls Tryd.prog 11 #[.slice A n c, .slice B m d] w (GivesDiv (a / b) (a % b) 0 w) :=
  divMod_of A B n c m d a b xs ys w hx hy hm (divide_any A B n n m m a b xs ys w hx.caps hy.caps hm hn hm2)
end Go.Proofs.YtgmjpkkpkdcncaaDoor
