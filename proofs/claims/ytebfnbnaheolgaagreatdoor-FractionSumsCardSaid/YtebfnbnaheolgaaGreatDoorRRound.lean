/- RRound, RFloor, RCeil, WalkRounds, joined: no claim of its own. -/
import Derived.Test.YtebfnbnaheolgaaGreatDoorRound
import Derived.Test.YtebfnbnaheolgaaGreatDoorRMake
import Derived.Test.YtebfnbnaheolgaaGreatDoorRUint
import Derived.Test.YtebfnbnaheolgaaGreatDoorRMul
import Derived.Test.YtebfnbnaheolgaaGreatDoorShortF
namespace Go.Proofs.YtebfnbnaheolgaaGreatDoor
open Go.RowKit
theorem radd_s {A B : Option Addr} {n c m d a b i j : Nat} {xs ys : List Nat} {w : World} (hx : Num w A n c xs a) (hy : Num w B m d ys b) (ha : a < 4294967296 ^ i) (hb : b < 4294967296 ^ j) (hi : i ≤ 1000000) (hj : j ≤ 1000000) :
    Calls Tryz.prog 52 #[.slice A n c, .slice B m d] w (GivesNum (a + b) w) := radd_any A B n c m d a b xs ys w hx hy (hx.sh ha hi) (hy.sh hb hj)
end Go.Proofs.YtebfnbnaheolgaaGreatDoor
namespace Go.Proofs.YtebfnbnaheolgaaGreatDoor
open Go.RowKit
theorem ws_no (s : Bool) (u : Nat) : ws s u false = (0, false) := by unfold ws; rw [if_pos (.inl rfl)]
theorem ws_bigp (u : Nat) (h : 9223372036854775807 < u) : ws false u true = (0, false) := by
  unfold ws
  rw [if_pos]
  rcases Nat.lt_or_ge 9223372036854775808 u with h2 | h2
  · exact .inr (.inl h2)
  · exact .inr (.inr ⟨by omega, rfl⟩)
theorem ws_okp (u : Nat) (h : u ≤ 9223372036854775807) : ws false u true = ((u : Int), true) := by
  unfold ws
  rw [if_neg]
  · rfl
  · rintro (h3 | h3 | h3)
    · cases h3
    · omega
    · omega
theorem ws_bign (u : Nat) (h : 9223372036854775808 < u) : ws true u true = (0, false) := by
  unfold ws
  rw [if_pos (.inr (.inl h))]
theorem ws_okn (u : Nat) (h : u ≤ 9223372036854775808) : ws true u true = (-(u : Int), true) := by
  unfold ws
  rw [if_neg]
  · rfl
  · rintro (h3 | h3 | h3)
    · cases h3
    · omega
    · cases h3.2
end Go.Proofs.YtebfnbnaheolgaaGreatDoor
namespace Go.Proofs.YtebfnbnaheolgaaGreatDoor
open Go.RowKit
theorem rsz_one (K : Nat) (s : Bool) : rsz K 1 s = K := by simp [rsz, Nat.mod_one, Nat.div_one]
theorem rv2_one (s : Bool) (K : Nat) : rv2 s K 1 s = ws s (if K < 18446744073709551616 then K else 0) (decide (K < 18446744073709551616)) := by unfold rv2; rw [rsz_one]
end Go.Proofs.YtebfnbnaheolgaaGreatDoor
namespace Go.Proofs.YtebfnbnaheolgaaGreatDoor
open Go.RowKit
end Go.Proofs.YtebfnbnaheolgaaGreatDoor
