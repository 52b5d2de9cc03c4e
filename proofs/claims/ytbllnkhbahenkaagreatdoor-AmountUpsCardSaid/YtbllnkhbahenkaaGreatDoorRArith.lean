/- Contracts of the reference's Neg, Sign, Mul and Div over fractions: no claim of its own. -/
import Derived.Test.YtbllnkhbahenkaaGreatDoorFDiv
import Derived.Test.YtbllnkhbahenkaaGreatDoorRMake
import Derived.Test.YtbllnkhbahenkaaGreatDoorRMul
namespace Go.Proofs.YtbllnkhbahenkaaGreatDoor
open Go.RowKit
theorem rmul_s {A B : Option Addr} {n c m d a b i j : Nat} {xs ys : List Nat} {w : World} (hx : Num w A n c xs a) (hy : Num w B m d ys b) (ha : a < 4294967296 ^ i) (hb : b < 4294967296 ^ j) (hi : i ≤ 100000) (hj : j ≤ 100000) :
    Calls Tryz.prog 109 #[.slice A n c, .slice B m d] w (GivesNum (a * b) w) := rmul_any A B n c m d a b xs ys w hx hy (hx.sh ha hi) (hy.sh hb hj)
theorem rmake_s {s : Bool} {A B : Option Addr} {n c m d p q i : Nat} {xs ys : List Nat} {w : World} (hx : Num w A n c xs p) (hy : Num w B m d ys q) (hq : 0 < q) (hp : p < 4294967296 ^ i) (hq1 : q < 4294967296 ^ i) (hi : i ≤ 900000) {T : Fr} (hT : Fr.mk' s p q = T) :
    Calls Tryz.prog 27 #[.bool s, .slice A n c, .slice B m d] w (GivesFrE T 0 w) := by subst hT; exact rmake_any s A B n c m d p q i xs ys w hx hy hq hp hq1 hi
set_option maxRecDepth 100000 in
set_option maxHeartbeats 400000 in
theorem rneg_f0 (A B : Option Addr) (n c m d p q : Nat) (xs ys : List Nat) (w : World) (hx : Num w A n c xs p) (hy : Num w B m d ys q) (h : 0 < n) :
    Calls Tryz.prog 73 #[.agg #[.bool false, .slice A n c, .slice B m d]] w (GivesFr ⟨true, p, q⟩ w) := by
  have H0 := Lib.hid ((FB.new w false A n c B m d).alloc (.cells #[.bool false, .slice none 0 0, .slice none 0 0] 25))
  have HX := Lib.hid hx
  have HY := Lib.hid hy
  obtain ⟨Ha, Hb, Hc, _, _, _⟩ := H0.out.facts
  clear hx hy H0
  go_enter Tryz.func73, Tryz.ntmps73
  go_wp2
  refine bodyPost_ret (v := .agg #[.bool true, .slice A n c, .slice B m d]) (by simp [results, Tryz.results73, go_sem]) rfl ?_
  have bb : Below w.heap.size w ((w.alloc (.cells #[.bool false, .slice A n c, .slice B m d] 25)).alloc (.cells #[.bool true, .slice A n c, .slice B m d] 25)) := ((Below.refl w.heap.size w).alloc (Nat.le_refl _) _).alloc (by simp) _
  exact ⟨_, _, _, _, _, _, _, _, rfl, HX.out.keep bb, HY.out.keep bb, bb⟩
set_option maxRecDepth 100000 in
set_option maxHeartbeats 400000 in
theorem rneg_f1 (A B : Option Addr) (n c m d p q : Nat) (xs ys : List Nat) (w : World) (hx : Num w A n c xs p) (hy : Num w B m d ys q) (h : n = 0) :
    Calls Tryz.prog 73 #[.agg #[.bool false, .slice A n c, .slice B m d]] w (GivesFr ⟨false, p, q⟩ w) := by
  have H0 := Lib.hid ((FB.new w false A n c B m d).alloc (.cells #[.bool false, .slice none 0 0, .slice none 0 0] 25))
  have HX := Lib.hid hx
  have HY := Lib.hid hy
  obtain ⟨Ha, Hb, Hc, _, _, _⟩ := H0.out.facts
  subst h
  clear hx hy H0
  go_enter Tryz.func73, Tryz.ntmps73
  go_wp2
  refine bodyPost_ret (v := .agg #[.bool false, .slice A 0 c, .slice B m d]) (by simp [results, Tryz.results73, go_sem]) rfl ?_
  have bb : Below w.heap.size w ((w.alloc (.cells #[.bool false, .slice A 0 c, .slice B m d] 25)).alloc (.cells #[.bool false, .slice A 0 c, .slice B m d] 25)) := ((Below.refl w.heap.size w).alloc (Nat.le_refl _) _).alloc (by simp) _
  exact ⟨_, _, _, _, _, _, _, _, rfl, HX.out.keep bb, HY.out.keep bb, bb⟩
set_option maxRecDepth 100000 in
set_option maxHeartbeats 400000 in
theorem rneg_t0 (A B : Option Addr) (n c m d p q : Nat) (xs ys : List Nat) (w : World) (hx : Num w A n c xs p) (hy : Num w B m d ys q) :
    Calls Tryz.prog 73 #[.agg #[.bool true, .slice A n c, .slice B m d]] w (GivesFr ⟨false, p, q⟩ w) := by
  have H0 := Lib.hid ((FB.new w true A n c B m d).alloc (.cells #[.bool false, .slice none 0 0, .slice none 0 0] 25))
  have HX := Lib.hid hx
  have HY := Lib.hid hy
  obtain ⟨Ha, Hb, Hc, _, _, _⟩ := H0.out.facts
  clear hx hy H0
  go_enter Tryz.func73, Tryz.ntmps73
  go_wp2
  refine bodyPost_ret (v := .agg #[.bool false, .slice A n c, .slice B m d]) (by simp [results, Tryz.results73, go_sem]) rfl ?_
  have bb : Below w.heap.size w ((w.alloc (.cells #[.bool true, .slice A n c, .slice B m d] 25)).alloc (.cells #[.bool false, .slice A n c, .slice B m d] 25)) := ((Below.refl w.heap.size w).alloc (Nat.le_refl _) _).alloc (by simp) _
  exact ⟨_, _, _, _, _, _, _, _, rfl, HX.out.keep bb, HY.out.keep bb, bb⟩
theorem rnegFr_any (s : Bool) (A B : Option Addr) (n c m d p q : Nat) (xs ys : List Nat) (w : World) (hx : Num w A n c xs p) (hy : Num w B m d ys q) (T : Fr) (hT : Fr.neg ⟨s, p, q⟩ = T) :
    Calls Tryz.prog 73 #[.agg #[.bool s, .slice A n c, .slice B m d]] w (GivesFr T w) := by
  subst hT
  cases s
  · rcases Nat.eq_zero_or_pos n with h | h
    · have hp : p = 0 := by rcases Nat.eq_zero_or_pos p with h0 | h0; exact h0; have := hx.npos h0; omega
      refine (rneg_f1 A B n c m d p q xs ys w hx hy h).mono fun _ _ g => g.eq ?_
      subst hp; rfl
    · refine (rneg_f0 A B n c m d p q xs ys w hx hy h).mono fun _ _ g => g.eq ?_
      have := hx.pos h
      simp [Fr.neg, this]
  · exact (rneg_t0 A B n c m d p q xs ys w hx hy).mono fun _ _ g => g.eq rfl
set_option maxRecDepth 100000 in
set_option maxHeartbeats 400000 in
theorem rsign_neg (A B : Option Addr) (n c m d : Nat) (w : World) :
    Calls Tryz.prog 41 #[.agg #[.bool true, .slice A n c, .slice B m d]] w (Gives (.int .i64 (-1)) w) := by
  obtain ⟨Ha, Hb, Hc, _, _, _⟩ := (FB.new w true A n c B m d).facts
  go_enter Tryz.func41, Tryz.ntmps41
  go_wp2
  go_ret
  exact ⟨rfl, below_alloc _ _⟩
set_option maxRecDepth 100000 in
set_option maxHeartbeats 400000 in
theorem rsign_zero (A B : Option Addr) (n c m d : Nat) (w : World) (h : n = 0) :
    Calls Tryz.prog 41 #[.agg #[.bool false, .slice A n c, .slice B m d]] w (Gives (.int .i64 (0)) w) := by
  obtain ⟨Ha, Hb, Hc, _, _, _⟩ := (FB.new w false A n c B m d).facts
  subst h
  go_enter Tryz.func41, Tryz.ntmps41
  go_wp2
  go_ret
  exact ⟨rfl, below_alloc _ _⟩
set_option maxRecDepth 100000 in
set_option maxHeartbeats 400000 in
theorem rsign_pos (A B : Option Addr) (n c m d : Nat) (w : World) (h : 0 < n) (hn : n ≤ 9223372036854775807) :
    Calls Tryz.prog 41 #[.agg #[.bool false, .slice A n c, .slice B m d]] w (Gives (.int .i64 (1)) w) := by
  obtain ⟨Ha, Hb, Hc, _, _, _⟩ := (FB.new w false A n c B m d).facts
  have hz : ((n : Int) == 0) = false := beq_eq_false_iff_ne.2 (by omega)
  go_enter Tryz.func41, Tryz.ntmps41
  go_wp2
  go_ret
  exact ⟨rfl, below_alloc _ _⟩
theorem rsignFr_any (s : Bool) (A B : Option Addr) (n c m d p : Nat) (xs : List Nat) (w : World) (hx : Num w A n c xs p) (hs : s = true → 0 < p) (l : Int) (hl : sgn s p = l) :
    Calls Tryz.prog 41 #[.agg #[.bool s, .slice A n c, .slice B m d]] w (Gives (.int .i64 l) w) := by
  subst hl
  cases s
  · rcases Nat.eq_zero_or_pos n with h | h
    · have hp : p = 0 := by rcases Nat.eq_zero_or_pos p with h0 | h0; exact h0; have := hx.npos h0; omega
      subst hp
      exact rsign_zero A B n c m d w h
    · have := hx.pos h
      rw [show sgn false p = 1 by unfold sgn; rw [if_neg (by omega)]; rfl]
      exact rsign_pos A B n c m d w h (by have := hx.room; omega)
  · have := hs rfl
    rw [show sgn true p = -1 by unfold sgn; rw [if_neg (by omega)]; rfl]
    exact rsign_neg A B n c m d w
end Go.Proofs.YtbllnkhbahenkaaGreatDoor
