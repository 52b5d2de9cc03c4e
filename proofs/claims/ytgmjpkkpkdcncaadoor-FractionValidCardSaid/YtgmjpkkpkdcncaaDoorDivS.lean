/- Contracts of slices.Clone, and of divide and DivMod for small numbers: no claim of its own. -/
import Derived.Test.YtgmjpkkpkdcncaaDoorMine
import Derived.Lib.LazyBuf
namespace Go.Proofs.YtgmjpkkpkdcncaaDoor
open Go.RowKit
/-- A call hands back a row of its own. -/
def GivesOwn (xs : List Nat) (w : World) (e : Ending) (w' : World) : Prop := ∃ v, e = .returned v ∧ Own w' w.heap.size v xs ∧ Below w.heap.size w w'
theorem copied_own {w w1 : World} {v1 : Value} {k : Nat} {ys : List Nat} (hown : w1.ownsRow w.heap.size 43 1 v1 (0 + k) ([] ++ Dg ys)) (hl : ∀ d ∈ ys, d < 4294967296) (hy : ys.length = k)
    (hg : (w.alloc (.cells #[] 43)).grownBy w1 (some w.heap.size)) : GivesOwn ys w (.returned v1) w1 := by
  subst hy
  refine ⟨v1, rfl, ⟨by simpa using hown, hl⟩, ?_⟩
  exact ((Below.refl _ _).alloc (Nat.le_refl _) _).grown hg (by simp) (by intro g hg'; injection hg' with hg'; omega)
set_option maxRecDepth 100000 in
set_option maxHeartbeats 400000 in
theorem clone_any (A : Option Addr) (n c : Nat) (xs : List Nat) (w : World) (h : Lst w A n c xs) :
    Calls Tryd.prog 42 #[.slice A n c] w (GivesOwn xs w) := by
  obtain ⟨i0, hi0, hz0, hz1, hz2⟩ := info_parts infoU32
  have hc := h.cap
  have hm := h.room
  have H := Lib.hid h
  clear h
  rcases A with _ | ad
  · obtain rfl : n = 0 := by
      rcases Nat.eq_zero_or_pos n with h0 | h0
      · exact h0
      · obtain ⟨ad, e, _⟩ := H.out.at_ h0; cases e
    obtain rfl : xs = [] := List.eq_nil_of_length_eq_zero H.out.len
    have e1 : ∀ w' : World, (binOp .eql 23 (.slice none 0 c) (.slice none 0 0)).run Tryd.prog w' = .ok (.bool true) w' := fun w' => Lib.run_eql_slice_nil w' _ _ _ _ _ _ _ Tryd.underlying23
    go_enter Tryd.func42, Tryd.ntmps42
    go_wp2
    go_ret
    exact ⟨_, rfl, Own.nil _ _, Below.refl _ _⟩
  · have e1 : ∀ w' : World, (binOp .eql 23 (.slice (some ad) n c) (.slice none 0 0)).run Tryd.prog w' = .ok (.bool false) w' := fun w' => Lib.run_eql_slice_nil w' _ _ _ _ _ _ _ Tryd.underlying23
    go_enter Tryd.func42, Tryd.ntmps42
    go_wp2_with (at_builtin; refine wpList_append_any _ rfl _ _ _ rfl w.heap.size 43 i0 _ 1 4 Tryd.underlying23 hi0 hz0 hz1 hz2 rfl (by omega) (.slice (some ⟨w.heap.size, 0, none⟩) 0 0) 0 [] rfl (World.ownsRow_made w #[] 0 (Nat.le_refl _) (by simp) (by simp)) w.heap.size (some ad) n c (Dg xs) rfl (H.out.reads.alloc (Nat.le_refl _) _) (dg_oneCell _) (by simp only [maxLen]; omega) (by omega) (by simp) ?_; intro v1 w1 hown hg hat)
    go_ret
    exact copied_own hown H.out.lt H.out.len hg
def GivesTwo (q r : Nat) (w : World) (e : Ending) (w' : World) : Prop :=
  ∃ A n c xs A' n' c' xs', e = .returned (.tuple #[.slice A n c, .slice A' n' c']) ∧ Num w' A n c xs q ∧ Num w' A' n' c' xs' r ∧ Below w.heap.size w w'
theorem two_close {w w1 w2 : World} {q r : Nat} {A A' : Option Addr} {n c n' c' : Nat} {xs xs' : List Nat} (h1 : Num w1 A n c xs q) (b1 : Below w.heap.size w w1) (h2 : Num w2 A' n' c' xs' r) (b2 : Below w1.heap.size w1 w2) : GivesTwo q r w (.returned (.tuple #[.slice A n c, .slice A' n' c'])) w2 :=
  ⟨A, n, c, xs, A', n', c', xs', rfl, h1.keep b2, h2, b1.trans (b2.mono b1.size)⟩
theorem two_close' {w w1 w2 : World} {q r : Nat} {A A' : Option Addr} {n c n' c' : Nat} {xs xs' : List Nat} (h1 : Num w1 A' n' c' xs' r) (b1 : Below w.heap.size w w1) (h2 : Num w2 A n c xs q) (b2 : Below w1.heap.size w1 w2) : GivesTwo q r w (.returned (.tuple #[.slice A n c, .slice A' n' c'])) w2 :=
  ⟨A, n, c, xs, A', n', c', xs', rfl, h2, h1.keep b2, b1.trans (b2.mono b1.size)⟩
theorem GivesTwo.eq {q r q' r' : Nat} {w w' : World} {e : Ending} (h : q = q') (k : r = r') (g : GivesTwo q r w e w') : GivesTwo q' r' w e w' := by subst h; subst k; exact g
theorem two_drew {w w1 w2 : World} {q r : Nat} {A A' : Option Addr} {n c n' c' : Nat} {xs xs' : List Nat} (h1 : Num w1 A n c xs q) (b1 : Below w.drew.heap.size w.drew w1) (h2 : Num w2 A' n' c' xs' r) (b2 : Below w1.heap.size w1 w2) : GivesTwo q r w (.returned (.tuple #[.slice A n c, .slice A' n' c'])) w2 :=
  two_close h1 (((Below.refl w.heap.size w).drew).trans b1) h2 b2
theorem two_drew' {w w1 w2 : World} {q r : Nat} {A A' : Option Addr} {n c n' c' : Nat} {xs xs' : List Nat} (h1 : Num w1 A' n' c' xs' r) (b1 : Below w.drew.heap.size w.drew w1) (h2 : Num w2 A n c xs q) (b2 : Below w1.heap.size w1 w2) : GivesTwo q r w (.returned (.tuple #[.slice A n c, .slice A' n' c'])) w2 :=
  two_close' h1 (((Below.refl w.heap.size w).drew).trans b1) h2 b2
theorem fromUint_int (z : Int) (h0 : 0 ≤ z) (h1 : z ≤ 18446744073709551615) (w : World) : Calls Tryd.prog 29 #[.int .u64 z] w (GivesNum z.toNat w) := by
  obtain ⟨n, rfl⟩ := Int.eq_ofNat_of_zero_le h0
  exact fromUint_any n (by omega) w
set_option maxRecDepth 100000 in
set_option maxHeartbeats 1000000 in
theorem divide_small (A B : Option Addr) (n c m d a b : Nat) (xs ys : List Nat) (w : World) (hx : Num w A n c xs a) (hy : Num w B m d ys b) (hn : n ≤ 2) (hm : m ≤ 2) (hb : 0 < b) :
    Calls Tryd.prog 31 #[.slice A n c, .slice B m d] w (GivesTwo (a / b) (a % b) w) := by
  have HX := Lib.hid hx
  have HY := Lib.hid hy
  have la := hx.small.1 hn
  have lb := hy.small.1 hm
  have q1 : ((a / b : Nat) : Int) = (a : Int) / (b : Int) := Int.natCast_ediv _ _
  have q2 : ((a % b : Nat) : Int) = (a : Int) % (b : Int) := Int.natCast_emod _ _
  have l1 : a / b ≤ a := Nat.div_le_self _ _
  have l2 : a % b ≤ a := Nat.mod_le _ _
  have c1 : (0 : Int) ≤ (a : Int) / (b : Int) := Int.ediv_nonneg (by omega) (by omega)
  have c2 : (a : Int) / (b : Int) ≤ 18446744073709551615 := by rw [← q1]; generalize a / b = q at l1; omega
  have c3 : (0 : Int) ≤ (a : Int) % (b : Int) := Int.emod_nonneg _ (by omega)
  have c4 : (a : Int) % (b : Int) ≤ 18446744073709551615 := by rw [← q2]; generalize a % b = q at l2; omega
  have c5 : (1 : Int) ≤ (b : Int) := by omega
  have t1 : Hid (((a : Int) / (b : Int)).toNat = a / b) := Lib.hid (by rw [← q1]; rfl)
  have t2 : Hid (((a : Int) % (b : Int)).toNat = a % b) := Lib.hid (by rw [← q2]; rfl)
  have F1 := Lib.hid (fun w' => fromUint_int _ c1 c2 w')
  have F2 := Lib.hid (fun w' => fromUint_int _ c3 c4 w')
  have d1 : decide (n ≤ 2) = true := decide_eq_true hn
  have d2 : decide (m ≤ 2) = true := decide_eq_true hm
  have w1 : IntKind.u64.wrap ((a : Int) / (b : Int)) = (a : Int) / (b : Int) := by rw [← q1]; exact wrap_u64 _ (by omega)
  have w2 : IntKind.u64.wrap ((a : Int) % (b : Int)) = (a : Int) % (b : Int) := by rw [← q2]; exact wrap_u64 _ (by omega)
  have w3 : (a : Int).tmod (b : Int) = (a : Int) % (b : Int) := Int.tmod_eq_emod_of_nonneg (by omega)
  have w4 : (a : Int).tdiv (b : Int) = (a : Int) / (b : Int) := Int.tdiv_eq_ediv_of_nonneg (by omega)
  clear hx hy q1 q2 l1 l2 la lb F1 F2
  go_enter Tryd.func31, Tryd.ntmps31
  go_wp2_with fail
  refine (small_any _ _ _ _ (by omega)).mono ?_
  rintro e w' ⟨rfl, rfl⟩
  go_wp2_with fail
  refine (small_any _ _ _ _ (by omega)).mono ?_
  rintro e w' ⟨rfl, rfl⟩
  go_wp2_with fail
  refine (low_any _ _ _ _ _ _ HX.out hn).mono ?_
  rintro e w' ⟨rfl, rfl⟩
  go_wp2_with fail
  refine (low_any _ _ _ _ _ _ HY.out hm).mono ?_
  rintro e w' ⟨rfl, rfl⟩
  go_wp2_with fail
  go_region_with ((go_at_call 29; refine (fromUint_int _ (by assumption) (by assumption) _).mono ?_; rintro e w' ⟨_, _, _, _, rfl, _, _⟩))
  all_goals go_wp2
  all_goals go_ret2
  all_goals refine GivesTwo.eq t1.out t2.out ?_
  all_goals first | exact two_drew (by assumption) (by assumption) (by assumption) (by assumption) | exact two_drew' (by assumption) (by assumption) (by assumption) (by assumption)
def GivesDiv (q r : Nat) (k : Int) (w : World) (e : Ending) (w' : World) : Prop :=
  ∃ A n c xs A' n' c' xs', e = .returned (.tuple #[.slice A n c, .slice A' n' c', .int .i64 k]) ∧ Num w' A n c xs q ∧ Num w' A' n' c' xs' r ∧ Below w.heap.size w w'
theorem Num.pos {w : World} {A : Option Addr} {n c a : Nat} {xs : List Nat} (h : Num w A n c xs a) (hn : 0 < n) : 0 < a := by
  have := dval_pos xs (by rw [h.len]; omega) h.tight
  have h2 : 0 < 4294967296 ^ (xs.length - 1) := Nat.pow_pos (by decide)
  rw [h.val] at this
  omega
theorem divMod_zero (A B : Option Addr) (n c d a : Nat) (xs ys : List Nat) (w : World) (hx : Num w A n c xs a) (hy : Num w B 0 d ys 0) :
    Calls Tryd.prog 11 #[.slice A n c, .slice B 0 d] w (GivesDiv 0 0 8 w) := by
  have HX := Lib.hid hx
  have HY := Lib.hid hy
  clear hx hy
  go_enter Tryd.func11, Tryd.ntmps11
  go_wp2_with fail
  refine (trim_num _ _ _ _ _ _ HX.out).mono ?_
  rintro e w' ⟨rfl, rfl⟩
  go_wp2_with fail
  refine (trim_num _ _ _ _ _ _ HY.out).mono ?_
  rintro e w' ⟨rfl, rfl⟩
  go_wp2
  go_ret3
  exact ⟨none, 0, 0, [], none, 0, 0, [], rfl, Num.zero _, Num.zero _, Below.refl _ _⟩
theorem divMod_of (A B : Option Addr) (n c m d a b : Nat) (xs ys : List Nat) (w : World) (hx : Num w A n c xs a) (hy : Num w B m d ys b) (hm : 0 < m)
    (D : Calls Tryd.prog 31 #[.slice A n n, .slice B m m] w (GivesTwo (a / b) (a % b) w)) :
    Calls Tryd.prog 11 #[.slice A n c, .slice B m d] w (GivesDiv (a / b) (a % b) 0 w) := by
  have HX := Lib.hid hx
  have HY := Lib.hid hy
  have HD := Lib.hid D
  have hb : ((m : Int) == 0) = false := beq_eq_false_iff_ne.2 (by omega)
  clear hx hy D
  go_enter Tryd.func11, Tryd.ntmps11
  go_wp2_with fail
  refine (trim_num _ _ _ _ _ _ HX.out).mono ?_
  rintro e w' ⟨rfl, rfl⟩
  go_wp2_with fail
  refine (trim_num _ _ _ _ _ _ HY.out).mono ?_
  rintro e w' ⟨rfl, rfl⟩
  go_wp2_with fail
  refine HD.out.mono ?_
  rintro e w' ⟨A1, n1, c1, xs1, A2, n2, c2, xs2, rfl, h1, h2, h3⟩
  have G := Lib.hid (show GivesDiv (a / b) (a % b) 0 w (.returned (.tuple #[.slice A1 n1 c1, .slice A2 n2 c2, .int .i64 0])) w' from ⟨_, _, _, _, _, _, _, _, rfl, h1, h2, h3⟩)
  clear h1 h2 h3 HD
  go_wp2
  go_ret3
  exact G.out
end Go.Proofs.YtgmjpkkpkdcncaaDoor
