/- Contracts in short words, for walks that are straight lines of calls: no claim of its own. -/
import Derived.Test.YtbllnkhbahenkaaGreatDoorIsRow
import Derived.Test.YtbllnkhbahenkaaGreatDoorMul
import Derived.Test.YtbllnkhbahenkaaGreatDoorSub
import Derived.Test.YtbllnkhbahenkaaGreatDoorRDivMod
import Derived.Test.YtbllnkhbahenkaaGreatDoorDivide
namespace Go.Proofs.YtbllnkhbahenkaaGreatDoor
open Go.RowKit
def GivesSubB (a b : Nat) (z : Bool) (w : World) (e : Ending) (w' : World) : Prop :=
  ∃ A n c xs, e = .returned (.tuple #[.slice A n c, .bool z]) ∧ Num w' A n c xs (a - b) ∧ Below w.heap.size w w'
theorem sub_b {A B : Option Addr} {n c m d a b : Nat} {xs ys : List Nat} {w : World} (hx : Num w A n c xs a) (hy : Num w B m d ys b) {z : Bool} (hz : decide (b ≤ a) = z) :
    Calls Tryz.prog 86 #[.slice A n c, .slice B m d] w (GivesSubB a b z w) := by subst hz; exact sub_any A B n c m d a b xs ys w hx hy
theorem rsub_b {A B : Option Addr} {n c m d a b : Nat} {xs ys : List Nat} {w : World} (hx : Num w A n c xs a) (hy : Num w B m d ys b) (hn : n ≤ 1000000) {z : Bool} (hz : decide (b ≤ a) = z) :
    Calls Tryz.prog 100 #[.slice A n c, .slice B m d] w (GivesSubB a b z w) := by subst hz; exact rsub_any A B n c m d a b xs ys w hx hy hn
theorem cmp_q {A B : Option Addr} {n c m d a b : Nat} {xs ys : List Nat} {w : World} (hx : Num w A n c xs a) (hy : Num w B m d ys b) {q : Int} (hq : cmpI a b = q) :
    Calls Tryz.prog 53 #[.slice A n c, .slice B m d] w (Gives (.int .i64 q) w) := by subst hq; exact cmp_any A B n c m d a b xs ys w hx hy
theorem rcmp_q {A B : Option Addr} {n c m d a b : Nat} {xs ys : List Nat} {w : World} (hx : Num w A n c xs a) (hy : Num w B m d ys b) {q : Int} (hq : cmpI a b = q) :
    Calls Tryz.prog 99 #[.slice A n c, .slice B m d] w fun e w' => e = .returned (.int .i64 q) ∧ w = w' := by
  subst hq
  have := rcmp_any A B n c m d xs ys w hx.toLst hy.toLst
  rwa [hx.val, hy.val] at this
theorem Num.to {w : World} {A : Option Addr} {n c a b : Nat} {xs : List Nat} (h : Num w A n c xs a) (e : a = b) : Num w A n c xs b := e ▸ h
theorem pw_add {x y i j k : Nat} (hx : x < 4294967296 ^ i) (hy : y < 4294967296 ^ j) (h1 : i < k) (h2 : j < k) : x + y < 4294967296 ^ k := by
  have a1 : (4294967296 : Nat) ^ i ≤ 4294967296 ^ (k - 1) := Nat.pow_le_pow_right (by decide) (by omega)
  have a2 : (4294967296 : Nat) ^ j ≤ 4294967296 ^ (k - 1) := Nat.pow_le_pow_right (by decide) (by omega)
  have a3 : (4294967296 : Nat) ^ k = 4294967296 ^ (k - 1) * 4294967296 := by
    rw [← Nat.pow_succ, Nat.succ_eq_add_one, show k - 1 + 1 = k by omega]
  have a4 : 4294967296 ^ (k - 1) * 2 ≤ 4294967296 ^ (k - 1) * 4294967296 := Nat.mul_le_mul_left _ (by decide)
  rw [a3]
  generalize (4294967296 : Nat) ^ (k - 1) * 4294967296 = Y at *
  omega
theorem pw_mul {x y i j : Nat} (hx : x < 4294967296 ^ i) (hy : y < 4294967296 ^ j) : x * y < 4294967296 ^ (i + j) := by
  rw [Nat.pow_add]
  exact Nat.mul_lt_mul'' hx hy
theorem pw_le {x y i : Nat} (h : x ≤ y) (hy : y < 4294967296 ^ i) : x < 4294967296 ^ i := Nat.lt_of_le_of_lt h hy
theorem Num.below {w : World} {A : Option Addr} {n c a k : Nat} {xs : List Nat} (h : Num w A n c xs a) (hn : n ≤ k) : a < 4294967296 ^ k :=
  Nat.lt_of_lt_of_le h.lt_pow (Nat.pow_le_pow_right (by decide) hn)
/-- Its list is short. -/
theorem Num.sh {w : World} {A : Option Addr} {n c a k K : Nat} {xs : List Nat} (h : Num w A n c xs a) (ha : a < 4294967296 ^ k) (hk : k ≤ K) : n ≤ K := Nat.le_trans (h.len_le ha) hk
theorem add_s {A B : Option Addr} {n c m d a b i j : Nat} {xs ys : List Nat} {w : World} (hx : Num w A n c xs a) (hy : Num w B m d ys b) (ha : a < 4294967296 ^ i) (hb : b < 4294967296 ^ j) (hi : i ≤ 1000000) (hj : j ≤ 1000000) :
    Calls Tryz.prog 75 #[.slice A n c, .slice B m d] w (GivesNum (a + b) w) := add_any A B n c m d a b xs ys w hx hy (hx.sh ha hi) (hy.sh hb hj)
theorem mul_s {A B : Option Addr} {n c m d a b i j : Nat} {xs ys : List Nat} {w : World} (hx : Num w A n c xs a) (hy : Num w B m d ys b) (ha : a < 4294967296 ^ i) (hb : b < 4294967296 ^ j) (hi : i ≤ 1000000) (hj : j ≤ 1000000) :
    Calls Tryz.prog 51 #[.slice A n c, .slice B m d] w (GivesNum (a * b) w) := mul_any A B n c m d a b xs ys w hx hy (hx.sh ha hi) (hy.sh hb hj)
/-- A number that is not zero has a digit. -/
theorem Num.npos {w : World} {A : Option Addr} {n c a : Nat} {xs : List Nat} (h : Num w A n c xs a) (ha : 0 < a) : 0 < n := by
  rcases Nat.eq_zero_or_pos n with h0 | h0
  · subst h0
    have h1 := h.len
    have h2 := h.val
    have h3 : xs = [] := List.eq_nil_of_length_eq_zero h1
    rw [h3] at h2
    simp [dval] at h2
    omega
  · exact h0
theorem Num.nzero {w : World} {A : Option Addr} {n c : Nat} {xs : List Nat} (h : Num w A n c xs 0) : n = 0 := by
  rcases Nat.eq_zero_or_pos n with h0 | h0
  · exact h0
  · have := h.pos h0; omega
theorem divMod_s {A B : Option Addr} {n c m d a b i j : Nat} {xs ys : List Nat} {w : World} (hx : Num w A n c xs a) (hy : Num w B m d ys b) (h0 : 0 < b) (ha : a < 4294967296 ^ i) (hb : b < 4294967296 ^ j) (hi : i ≤ 900000) (hj : j ≤ 900000) :
    Calls Tryz.prog 74 #[.slice A n c, .slice B m d] w (GivesDiv (a / b) (a % b) 0 w) := divMod_any A B n c m d a b xs ys w hx hy (hy.npos h0) (hx.sh ha hi) (hy.sh hb hj)
theorem rdivMod_s {A B : Option Addr} {n c m d a b i j : Nat} {xs ys : List Nat} {w : World} (hx : Num w A n c xs a) (hy : Num w B m d ys b) (h0 : 0 < b) (ha : a < 4294967296 ^ i) (hb : b < 4294967296 ^ j) (hi : i ≤ 900000) (hj : j ≤ 900000) :
    Calls Tryz.prog 63 #[.slice A n c, .slice B m d] w (GivesDiv (a / b) (a % b) 0 w) := rdivMod_any A B n c m d a b xs ys w hx hy (hy.npos h0) (hx.sh ha hi) (hy.sh hb hj)
theorem rvalid_nil (c : Nat) (A : Option Addr) (w : World) : Calls Tryz.prog 29 #[.slice A 0 c] w fun e w' => e = .returned (.bool true) ∧ w = w' := by
  go_enter Tryz.func29, Tryz.ntmps29
  go_wp2
  go_ret
  exact ⟨rfl, rfl⟩
theorem rvalid_cell (ad : Addr) (n c : Nat) (z : Int) (w : World) (h0 : 0 < n) (hn : n ≤ 9223372036854775807) (hcell : w.cell? (ad.add (n - 1)) = some (.int .u32 z)) (b : Bool) (hb : (z != 0) = b) :
    Calls Tryz.prog 29 #[.slice (some ad) n c] w fun e w' => e = .returned (.bool b) ∧ w = w' := by
  have h1 : ((n : Int) == 0) = false := beq_eq_false_iff_ne.2 (by omega)
  go_enter Tryz.func29, Tryz.ntmps29
  go_wp2
  go_ret
  exact ⟨rfl, rfl⟩
end Go.Proofs.YtbllnkhbahenkaaGreatDoor
