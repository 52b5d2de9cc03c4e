/- Contracts of natural.smallGCD and GCD: no claim of its own. -/
import Derived.Test.YtbllnkhbahenkaaGreatDoorDivide
import Derived.Test.YtbllnkhbahenkaaGreatDoorSub
import Derived.Test.YtbllnkhbahenkaaGreatDoorRDivMod
import Derived.Deep.LoopGhost
namespace Go.Proofs.YtbllnkhbahenkaaGreatDoor
open Go.RowKit
theorem gcd_turn (x y : Nat) : Nat.gcd y (x % y) = Nat.gcd x y := by
  rw [Nat.gcd_comm x y, Nat.gcd_rec y x, Nat.gcd_comm]
set_option maxRecDepth 100000 in
set_option maxHeartbeats 400000 in
theorem smallGCD_any (a b : Nat) (ha : a < 18446744073709551616) (hb : b < 18446744073709551616) (w : World) :
    Calls Tryz.prog 83 #[.int .u64 a, .int .u64 b] w fun e w' => e = .returned (.int .u64 ((Nat.gcd a b : Nat) : Int)) ∧ ∃ q, w' = w.drewN q := by
  obtain ⟨G, hG⟩ : ∃ G, Nat.gcd a b = G := ⟨_, rfl⟩
  rw [hG]
  have I0 := Lib.hid hG
  clear hG
  go_enter Tryz.func83, Tryz.ntmps83
  go_wp2
  go_loopw [0, 1] (fun xv yv wr => ∃ x y q : Nat, x < 18446744073709551616 ∧ y < 18446744073709551616 ∧ xv = .int .u64 x ∧ yv = .int .u64 y ∧ wr = w.drewN q ∧ Hid (Nat.gcd x y = G)) (fun _ yv _ => (intOf yv).toNat)
  case atStart => exact ⟨a, b, 0, ha, hb, rfl, rfl, rfl, I0⟩
  case round =>
    obtain ⟨x, y, q, hx, hy, rfl, rfl, rfl, hi⟩ := hrel
    rcases Nat.eq_zero_or_pos y with h0 | h0
    · have F : Hid (x = G) := Lib.hid (by have := hi.out; rwa [h0, Nat.gcd_zero_right] at this)
      have hy0 : ¬ (0 : Int) < (y : Int) := by omega
      clear hi I0 h0
      go_wp2
      go_ret
      exact ⟨by rw [← F.out]; rfl, _, rfl⟩
    · obtain ⟨M, hM⟩ : ∃ M, x % y = M := ⟨_, rfl⟩
      have hMl : M < y := by rw [← hM]; exact Nat.mod_lt _ h0
      have S : Hid (Nat.gcd y M = G) := Lib.hid (by rw [← hM, gcd_turn]; exact hi.out)
      have e1 : (x : Int) % (y : Int) = (M : Int) := by rw [← hM]; exact (Int.natCast_emod _ _).symm
      have e2 : (x : Int).tmod (y : Int) = (M : Int) := by rw [Int.tmod_eq_emod_of_nonneg (by omega), e1]
      have y1 : (1 : Int) ≤ (y : Int) := by omega
      clear hi I0 hM
      go_wp2
      go_quiet (fail)
      go_wp2
      go_roundw
      case rel => exact ⟨y, M, _, hy, by omega, rfl, rfl, World.drewN_drewN _ _ _, S⟩
      case measure => simp [intOf]; omega
theorem GivesNum.low {w wr w' : World} {e : Ending} {a B : Nat} (h : GivesNum a wr e w') (hb : Below B w wr) (hB : B = w.heap.size) : GivesNum a w e w' := h.from_ hb hB
set_option maxRecDepth 100000 in
set_option maxHeartbeats 1000000 in
theorem gcd_wide (A B : Option Addr) (n c m d a b : Nat) (xs ys : List Nat) (w : World) (hx : Num w A n c xs a) (hy : Num w B m d ys b) (hnm : m ≤ n) (hn : n ≤ 900000) (_hm : m ≤ 900000) :
    Calls Tryz.prog 49 #[.slice A n c, .slice B m d] w (GivesNum (Nat.gcd a b) w) := by
  obtain ⟨G, hG⟩ : ∃ G, Nat.gcd a b = G := ⟨_, rfl⟩
  have HG : Hid (G = Nat.gcd a b) := Lib.hid (by rw [← hG])
  have I0 := Lib.hid (show Num w A n n xs a ∧ Num w B m m ys b ∧ Nat.gcd a b = G ∧ Below w.heap.size w w from ⟨hx.caps, hy.caps, hG, Below.refl _ _⟩)
  have HX := Lib.hid hx
  have HY := Lib.hid hy
  have dnm : decide (n < m) = false := decide_eq_false (by omega)
  clear hx hy hG
  go_enter Tryz.func49, Tryz.ntmps49
  go_wp2_with fail
  refine (trim_num _ _ _ _ _ _ HX.out).mono ?_
  rintro e w' ⟨rfl, rfl⟩
  go_wp2_with fail
  refine (trim_num _ _ _ _ _ _ HY.out).mono ?_
  rintro e w' ⟨rfl, rfl⟩
  go_wp2_with fail
  go_loopg [0, 1] b (fun g av bv wr => ∃ (A' : Option Addr) (n' c' : Nat) (xs' : List Nat) (x' : Nat) (B' : Option Addr) (m' d' : Nat) (ys' : List Nat), m' ≤ n' ∧ n' ≤ 900000 ∧ av = .slice A' n' c' ∧ bv = .slice B' m' d' ∧ Hid (Num wr A' n' c' xs' x' ∧ Num wr B' m' d' ys' g ∧ Nat.gcd x' g = G ∧ Below w.heap.size w wr))
  case atStart => exact ⟨_, _, _, _, _, _, _, _, _, by omega, by omega, rfl, rfl, I0⟩
  case round =>
    clear I0 HX HY
    obtain ⟨A', n', c', xs', x', B', m', d', ys', hmn, hn', rfl, rfl, hi⟩ := hrel
    by_cases h2 : n' ≤ 2
    · have d1 : decide (n' ≤ 2) = true := decide_eq_true h2
      have NX := Lib.hid hi.out.1
      have NY := Lib.hid hi.out.2.1
      have GE := Lib.hid hi.out.2.2.1
      have BB := Lib.hid hi.out.2.2.2
      have sx := NX.out.small.1 h2
      have sy := NY.out.small.1 (by omega)
      clear hi
      go_wp2_with fail
      refine (small_any _ _ _ _ (by omega)).mono ?_
      rintro e w' ⟨rfl, rfl⟩
      go_wp2_with fail
      refine (small_any _ _ _ _ (by omega)).mono ?_
      rintro e w' ⟨rfl, rfl⟩
      go_wp2_with fail
      refine (low_any _ _ _ _ _ _ NX.out h2).mono ?_
      rintro e w' ⟨rfl, rfl⟩
      go_wp2_with fail
      refine (low_any _ _ _ _ _ _ NY.out (by omega)).mono ?_
      rintro e w' ⟨rfl, rfl⟩
      go_wp2_with fail
      refine (smallGCD_any _ _ sx sy _).mono ?_
      rintro e w' ⟨rfl, q, rfl⟩
      rw [GE.out]
      have Gl : G < 18446744073709551616 := by
        rw [← GE.out]
        rcases Nat.eq_zero_or_pos x' with h0 | h0
        · rw [h0, Nat.gcd_zero_left]; exact sy
        · exact Nat.lt_of_le_of_lt (Nat.gcd_le_left _ h0) sx
      go_wp2_with fail
      refine (fromUint_any G Gl _).mono ?_
      rintro e w3 ⟨A3, n3, c3, x3, rfl, h3, b3⟩
      have R : Hid (GivesNum G w (.returned (.slice A3 n3 c3)) w3) := Lib.hid ⟨_, _, _, _, rfl, h3, (below_drewN BB.out q).trans (b3.mono (by have := BB.out.size; simpa using this))⟩
      clear h3 b3
      go_wp2
      go_ret
      rw [← HG.out]
      exact R.out
    · have d1 : decide (n' ≤ 2) = false := decide_eq_false h2
      rcases Nat.eq_zero_or_pos m' with h0 | h0
      · subst h0
        have NX := Lib.hid hi.out.1
        have GX : Hid (x' = G) := Lib.hid (by
          have h1 := hi.out.2.1.len
          have h3 := hi.out.2.1.val
          have h4 : ys' = [] := List.eq_nil_of_length_eq_zero h1
          rw [h4] at h3
          have h5 := hi.out.2.2.1
          rw [← h3] at h5
          simpa [dval] using h5)
        have BB := Lib.hid hi.out.2.2.2
        clear hi
        go_wp2_with fail
        refine (small_any _ _ _ _ (by omega)).mono ?_
        rintro e w' ⟨rfl, rfl⟩
        go_wp2_with fail
        refine (small_any _ _ _ _ (by omega)).mono ?_
        rintro e w' ⟨rfl, rfl⟩
        go_wp2_with fail
        refine (clone_any _ _ _ _ _ NX.out.toLst).mono ?_
        rintro e w1 ⟨v, rfl, hO, hb⟩
        obtain ⟨A1, c1, rfl, hN⟩ := hO.numOf (by rw [NX.out.len]; omega) NX.out.tight NX.out.val
        have R : Hid (GivesNum G w (.returned (.slice A1 xs'.length c1)) w1) := Lib.hid ⟨_, _, _, _, rfl, hN.to' GX.out, BB.out.trans (hb.mono BB.out.size)⟩
        clear hO hN hb
        generalize xs'.length = l at R
        go_wp2
        go_ret
        rw [← HG.out]
        exact R.out
      · have D := Lib.hid (divide_any A' B' n' c' m' d' x' gk xs' ys' wr hi.out.1 hi.out.2.1 h0 hn' (by omega))
        have NY := Lib.hid hi.out.2.1
        have GP := Lib.hid (hi.out.2.1.pos h0)
        have GE := Lib.hid hi.out.2.2.1
        have BB := Lib.hid hi.out.2.2.2
        clear hi
        go_wp2_with fail
        refine (small_any _ _ _ _ (by omega)).mono ?_
        rintro e w' ⟨rfl, rfl⟩
        go_wp2_with fail
        refine D.out.mono ?_
        rintro e w1 ⟨A1, n1, c1, xs1, A2, n2, c2, xs2, rfl, h1, h2', h3⟩
        have hlt : x' % gk < gk := Nat.mod_lt _ GP.out
        have hle : n2 ≤ m' := NY.out.len_mono h2' (Nat.le_of_lt hlt)
        have HLT := Lib.hid hlt
        have R := Lib.hid (show Num w1 B' m' d' ys' gk ∧ Num w1 A2 n2 c2 xs2 (x' % gk) ∧ Nat.gcd gk (x' % gk) = G ∧ Below w.heap.size w w1 from ⟨NY.out.keep h3, h2', by rw [gcd_turn]; exact GE.out, BB.out.trans (h3.mono BB.out.size)⟩)
        clear h1 h2' h3 D hlt
        go_wp2
        go_roundg (x' % gk)
        case measure => exact HLT.out
        case rel => exact ⟨_, _, _, _, _, _, _, _, _, hle, by omega, rfl, rfl, R⟩
set_option maxRecDepth 100000 in
set_option maxHeartbeats 1000000 in
theorem gcd_swap (A B : Option Addr) (n c m d a b : Nat) (xs ys : List Nat) (w : World) (hx : Num w A n c xs a) (hy : Num w B m d ys b) (hnm : n < m) (_hn : n ≤ 900000) (hm : m ≤ 900000) :
    Calls Tryz.prog 49 #[.slice A n c, .slice B m d] w (GivesNum (Nat.gcd a b) w) := by
  obtain ⟨G, hG⟩ : ∃ G, Nat.gcd b a = G := ⟨_, rfl⟩
  have HG : Hid (G = Nat.gcd a b) := Lib.hid (by rw [← hG, Nat.gcd_comm])
  have I0 := Lib.hid (show Num w B m m ys b ∧ Num w A n n xs a ∧ Nat.gcd b a = G ∧ Below w.heap.size w w from ⟨hy.caps, hx.caps, hG, Below.refl _ _⟩)
  have HX := Lib.hid hx
  have HY := Lib.hid hy
  have dnm : decide (n < m) = true := decide_eq_true hnm
  clear hx hy hG
  go_enter Tryz.func49, Tryz.ntmps49
  go_wp2_with fail
  refine (trim_num _ _ _ _ _ _ HX.out).mono ?_
  rintro e w' ⟨rfl, rfl⟩
  go_wp2_with fail
  refine (trim_num _ _ _ _ _ _ HY.out).mono ?_
  rintro e w' ⟨rfl, rfl⟩
  go_wp2_with fail
  go_loopg [0, 1] a (fun g av bv wr => ∃ (A' : Option Addr) (n' c' : Nat) (xs' : List Nat) (x' : Nat) (B' : Option Addr) (m' d' : Nat) (ys' : List Nat), m' ≤ n' ∧ n' ≤ 900000 ∧ av = .slice A' n' c' ∧ bv = .slice B' m' d' ∧ Hid (Num wr A' n' c' xs' x' ∧ Num wr B' m' d' ys' g ∧ Nat.gcd x' g = G ∧ Below w.heap.size w wr))
  case atStart => exact ⟨_, _, _, _, _, _, _, _, _, by omega, by omega, rfl, rfl, I0⟩
  case round =>
    clear I0 HX HY
    obtain ⟨A', n', c', xs', x', B', m', d', ys', hmn, hn', rfl, rfl, hi⟩ := hrel
    by_cases h2 : n' ≤ 2
    · have d1 : decide (n' ≤ 2) = true := decide_eq_true h2
      have NX := Lib.hid hi.out.1
      have NY := Lib.hid hi.out.2.1
      have GE := Lib.hid hi.out.2.2.1
      have BB := Lib.hid hi.out.2.2.2
      have sx := NX.out.small.1 h2
      have sy := NY.out.small.1 (by omega)
      clear hi
      go_wp2_with fail
      refine (small_any _ _ _ _ (by omega)).mono ?_
      rintro e w' ⟨rfl, rfl⟩
      go_wp2_with fail
      refine (small_any _ _ _ _ (by omega)).mono ?_
      rintro e w' ⟨rfl, rfl⟩
      go_wp2_with fail
      refine (low_any _ _ _ _ _ _ NX.out h2).mono ?_
      rintro e w' ⟨rfl, rfl⟩
      go_wp2_with fail
      refine (low_any _ _ _ _ _ _ NY.out (by omega)).mono ?_
      rintro e w' ⟨rfl, rfl⟩
      go_wp2_with fail
      refine (smallGCD_any _ _ sx sy _).mono ?_
      rintro e w' ⟨rfl, q, rfl⟩
      rw [GE.out]
      have Gl : G < 18446744073709551616 := by
        rw [← GE.out]
        rcases Nat.eq_zero_or_pos x' with h0 | h0
        · rw [h0, Nat.gcd_zero_left]; exact sy
        · exact Nat.lt_of_le_of_lt (Nat.gcd_le_left _ h0) sx
      go_wp2_with fail
      refine (fromUint_any G Gl _).mono ?_
      rintro e w3 ⟨A3, n3, c3, x3, rfl, h3, b3⟩
      have R : Hid (GivesNum G w (.returned (.slice A3 n3 c3)) w3) := Lib.hid ⟨_, _, _, _, rfl, h3, (below_drewN BB.out q).trans (b3.mono (by have := BB.out.size; simpa using this))⟩
      clear h3 b3
      go_wp2
      go_ret
      rw [← HG.out]
      exact R.out
    · have d1 : decide (n' ≤ 2) = false := decide_eq_false h2
      rcases Nat.eq_zero_or_pos m' with h0 | h0
      · subst h0
        have NX := Lib.hid hi.out.1
        have GX : Hid (x' = G) := Lib.hid (by
          have h1 := hi.out.2.1.len
          have h3 := hi.out.2.1.val
          have h4 : ys' = [] := List.eq_nil_of_length_eq_zero h1
          rw [h4] at h3
          have h5 := hi.out.2.2.1
          rw [← h3] at h5
          simpa [dval] using h5)
        have BB := Lib.hid hi.out.2.2.2
        clear hi
        go_wp2_with fail
        refine (small_any _ _ _ _ (by omega)).mono ?_
        rintro e w' ⟨rfl, rfl⟩
        go_wp2_with fail
        refine (small_any _ _ _ _ (by omega)).mono ?_
        rintro e w' ⟨rfl, rfl⟩
        go_wp2_with fail
        refine (clone_any _ _ _ _ _ NX.out.toLst).mono ?_
        rintro e w1 ⟨v, rfl, hO, hb⟩
        obtain ⟨A1, c1, rfl, hN⟩ := hO.numOf (by rw [NX.out.len]; omega) NX.out.tight NX.out.val
        have R : Hid (GivesNum G w (.returned (.slice A1 xs'.length c1)) w1) := Lib.hid ⟨_, _, _, _, rfl, hN.to' GX.out, BB.out.trans (hb.mono BB.out.size)⟩
        clear hO hN hb
        generalize xs'.length = l at R
        go_wp2
        go_ret
        rw [← HG.out]
        exact R.out
      · have D := Lib.hid (divide_any A' B' n' c' m' d' x' gk xs' ys' wr hi.out.1 hi.out.2.1 h0 hn' (by omega))
        have NY := Lib.hid hi.out.2.1
        have GP := Lib.hid (hi.out.2.1.pos h0)
        have GE := Lib.hid hi.out.2.2.1
        have BB := Lib.hid hi.out.2.2.2
        clear hi
        go_wp2_with fail
        refine (small_any _ _ _ _ (by omega)).mono ?_
        rintro e w' ⟨rfl, rfl⟩
        go_wp2_with fail
        refine D.out.mono ?_
        rintro e w1 ⟨A1, n1, c1, xs1, A2, n2, c2, xs2, rfl, h1, h2', h3⟩
        have hlt : x' % gk < gk := Nat.mod_lt _ GP.out
        have hle : n2 ≤ m' := NY.out.len_mono h2' (Nat.le_of_lt hlt)
        have HLT := Lib.hid hlt
        have R := Lib.hid (show Num w1 B' m' d' ys' gk ∧ Num w1 A2 n2 c2 xs2 (x' % gk) ∧ Nat.gcd gk (x' % gk) = G ∧ Below w.heap.size w w1 from ⟨NY.out.keep h3, h2', by rw [gcd_turn]; exact GE.out, BB.out.trans (h3.mono BB.out.size)⟩)
        clear h1 h2' h3 D hlt
        go_wp2
        go_roundg (x' % gk)
        case measure => exact HLT.out
        case rel => exact ⟨_, _, _, _, _, _, _, _, _, hle, by omega, rfl, rfl, R⟩
theorem gcd_any (A B : Option Addr) (n c m d a b : Nat) (xs ys : List Nat) (w : World) (hx : Num w A n c xs a) (hy : Num w B m d ys b) (hn : n ≤ 900000) (hm : m ≤ 900000) :
    Calls Tryz.prog 49 #[.slice A n c, .slice B m d] w (GivesNum (Nat.gcd a b) w) := by
  rcases Nat.lt_or_ge n m with h | h
  · exact gcd_swap A B n c m d a b xs ys w hx hy h hn hm
  · exact gcd_wide A B n c m d a b xs ys w hx hy h hn hm
end Go.Proofs.YtbllnkhbahenkaaGreatDoor
