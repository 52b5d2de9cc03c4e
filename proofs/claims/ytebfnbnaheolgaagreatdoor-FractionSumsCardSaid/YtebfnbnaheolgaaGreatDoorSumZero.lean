/- Sums and dots of lists without elements: no claim of its own. -/
import Derived.Test.YtebfnbnaheolgaaGreatDoorRDot
namespace Go.Proofs.YtebfnbnaheolgaaGreatDoor
open Go.RowKit
set_option maxRecDepth 100000 in
set_option maxHeartbeats 2000000 in
theorem fsum_zero (A : Option Addr) (cap : Nat) (w : World) :
    Calls Tryz.prog 8 #[.slice A 0 cap] w (GivesFr Fr.zero w) := by
  have b0 := below_alloc w (.cells #[.bool false, .slice none 0 0, .slice none 0 0] 27)
  have B0 := Lib.hid b0
  have zR := FB.new w false none 0 0 none 0 0
  have R0 := Lib.hid zR
  have Z0 := opFZero
  obtain ⟨Ra, Rb, Rc, Rd, Re, Rf⟩ := zR.facts
  clear b0 zR
  go_enter Tryz.func8, Tryz.ntmps8
  go_wp2_with fail
  refine (Z0.out _).mono ?_
  rintro e w1 ⟨AE, nE, cE, xE, AG, nG, cG, xG, rfl, hn, hn', hb⟩
  have ba := below_alloc w1 (.cells #[.bool Fr.zero.s, .slice AE nE cE, .slice AG nG cG] 27)
  have zS : FrAt w1.heap.size Fr.zero AE nE cE AG nG cG xE xG (w1.alloc (.cells #[.bool Fr.zero.s, .slice AE nE cE, .slice AG nG cG] 27)) := FrAt.made hn hn' rfl
  have R1 := Lib.hid ((R0.out.keep hb).keep ba)
  have B1 := Lib.hid ((B0.out.trans (hb.mono B0.out.size)).trans (ba.mono ((B0.out.trans (hb.mono B0.out.size)).size)))
  have NX := Lib.hid zS.x
  have NY := Lib.hid zS.y
  obtain ⟨Sa, Sb, Sc, Sd, Se, Sf⟩ := zS.h.facts
  have hlt : w.heap.size < w1.heap.size := (R0.out.keep hb).lt
  clear hb hn hn' ba zS Ra Rb Rc Rd Re Rf R0 B0 Z0
  obtain ⟨Ra, Rb, Rc, Rd, Re, Rf⟩ := R1.out.facts
  go_wp2_with fail
  generalize w1.alloc (.cells #[.bool Fr.zero.s, .slice AE nE cE, .slice AG nG cG] 27) = W1 at *
  generalize w1.heap.size = g at *
  refine wp_loop_rounds 1 ?_
  rw [rounds_succ]
  go_wp2
  refine bodyPost_ret (v := .agg #[.bool Fr.zero.s, .slice AE nE cE, .slice AG nG cG]) (by simp [results, Tryz.results8, go_sem, Ra, Rb, Rc]) rfl ?_
  exact giveFr (t := Fr.zero) B1.out (Nat.le_refl _) R1.out NX.out NY.out
set_option maxRecDepth 100000 in
set_option maxHeartbeats 2000000 in
theorem rsum_zero (A : Option Addr) (cap : Nat) (w : World) :
    Calls Tryz.prog 9 #[.slice A 0 cap] w (GivesFr Fr.zero w) := by
  have b0 := below_alloc w (.cells #[.bool false, .slice none 0 0, .slice none 0 0] 27)
  have B0 := Lib.hid b0
  have zR := FB.new w false none 0 0 none 0 0
  have R0 := Lib.hid zR
  have Z0 := opZero
  obtain ⟨Ra, Rb, Rc, Rd, Re, Rf⟩ := zR.facts
  clear b0 zR
  go_enter Tryz.func9, Tryz.ntmps9
  go_wp2_with fail
  refine (Z0.out _).mono ?_
  rintro e w1 ⟨AE, nE, cE, xE, AG, nG, cG, xG, rfl, hn, hn', hb⟩
  have ba := below_alloc w1 (.cells #[.bool Fr.zero.s, .slice AE nE cE, .slice AG nG cG] 27)
  have zS : FrAt w1.heap.size Fr.zero AE nE cE AG nG cG xE xG (w1.alloc (.cells #[.bool Fr.zero.s, .slice AE nE cE, .slice AG nG cG] 27)) := FrAt.made hn hn' rfl
  have R1 := Lib.hid ((R0.out.keep hb).keep ba)
  have B1 := Lib.hid ((B0.out.trans (hb.mono B0.out.size)).trans (ba.mono ((B0.out.trans (hb.mono B0.out.size)).size)))
  have NX := Lib.hid zS.x
  have NY := Lib.hid zS.y
  obtain ⟨Sa, Sb, Sc, Sd, Se, Sf⟩ := zS.h.facts
  have hlt : w.heap.size < w1.heap.size := (R0.out.keep hb).lt
  clear hb hn hn' ba zS Ra Rb Rc Rd Re Rf R0 B0 Z0
  obtain ⟨Ra, Rb, Rc, Rd, Re, Rf⟩ := R1.out.facts
  go_wp2_with fail
  generalize w1.alloc (.cells #[.bool Fr.zero.s, .slice AE nE cE, .slice AG nG cG] 27) = W1 at *
  generalize w1.heap.size = g at *
  refine wp_loop_rounds 1 ?_
  rw [rounds_succ]
  go_wp2
  refine bodyPost_ret (v := .agg #[.bool Fr.zero.s, .slice AE nE cE, .slice AG nG cG]) (by simp [results, Tryz.results9, go_sem, Ra, Rb, Rc]) rfl ?_
  exact giveFr (t := Fr.zero) B1.out (Nat.le_refl _) R1.out NX.out NY.out
set_option maxRecDepth 100000 in
set_option maxHeartbeats 2000000 in
theorem fdot_zero (A A' : Option Addr) (len cap len' cap' : Nat) (w : World) (hN : min len len' = 0) (hl : len ≤ 5) (hl' : len' ≤ 5) :
    Calls Tryz.prog 10 #[.slice A len cap, .slice A' len' cap'] w (GivesFr Fr.zero w) := by
  have b0 := below_alloc w (.cells #[.bool false, .slice none 0 0, .slice none 0 0] 27)
  have B0 := Lib.hid b0
  have zR := FB.new w false none 0 0 none 0 0
  have R0 := Lib.hid zR
  have Z0 := opFZero
  have hmin : (if (len' : Int) < (len : Int) then (len' : Int) else (len : Int)) = 0 := by split <;> omega
  clear hN
  obtain ⟨Ra, Rb, Rc, Rd, Re, Rf⟩ := zR.facts
  clear b0 zR
  go_enter Tryz.func10, Tryz.ntmps10
  go_wp2_with fail
  refine (Z0.out _).mono ?_
  rintro e w1 ⟨AE, nE, cE, xE, AG, nG, cG, xG, rfl, hn, hn', hb⟩
  have ba := below_alloc w1 (.cells #[.bool Fr.zero.s, .slice AE nE cE, .slice AG nG cG] 27)
  have zS : FrAt w1.heap.size Fr.zero AE nE cE AG nG cG xE xG (w1.alloc (.cells #[.bool Fr.zero.s, .slice AE nE cE, .slice AG nG cG] 27)) := FrAt.made hn hn' rfl
  have R1 := Lib.hid ((R0.out.keep hb).keep ba)
  have B1 := Lib.hid ((B0.out.trans (hb.mono B0.out.size)).trans (ba.mono ((B0.out.trans (hb.mono B0.out.size)).size)))
  have NX := Lib.hid zS.x
  have NY := Lib.hid zS.y
  obtain ⟨Sa, Sb, Sc, Sd, Se, Sf⟩ := zS.h.facts
  have hlt : w.heap.size < w1.heap.size := (R0.out.keep hb).lt
  clear hb hn hn' ba zS Ra Rb Rc Rd Re Rf R0 B0 Z0
  obtain ⟨Ra, Rb, Rc, Rd, Re, Rf⟩ := R1.out.facts
  go_wp2_with fail
  generalize w1.alloc (.cells #[.bool Fr.zero.s, .slice AE nE cE, .slice AG nG cG] 27) = W1 at *
  generalize w1.heap.size = g at *
  refine wp_loop_rounds 1 ?_
  rw [rounds_succ]
  go_wp2
  refine bodyPost_ret (v := .agg #[.bool Fr.zero.s, .slice AE nE cE, .slice AG nG cG]) (by simp [results, Tryz.results10, go_sem, Ra, Rb, Rc]) rfl ?_
  exact giveFr (t := Fr.zero) B1.out (Nat.le_refl _) R1.out NX.out NY.out
set_option maxRecDepth 100000 in
set_option maxHeartbeats 2000000 in
theorem rdot_zero1 (A A' : Option Addr) (cap len' cap' : Nat) (w : World) (hl' : len' ≤ 5) :
    Calls Tryz.prog 11 #[.slice A 0 cap, .slice A' len' cap'] w (GivesFr Fr.zero w) := by
  have b0 := below_alloc w (.cells #[.bool false, .slice none 0 0, .slice none 0 0] 27)
  have B0 := Lib.hid b0
  have zR := FB.new w false none 0 0 none 0 0
  have R0 := Lib.hid zR
  have Z0 := opZero
  obtain ⟨Ra, Rb, Rc, Rd, Re, Rf⟩ := zR.facts
  clear b0 zR
  go_enter Tryz.func11, Tryz.ntmps11
  go_wp2_with fail
  refine (Z0.out _).mono ?_
  rintro e w1 ⟨AE, nE, cE, xE, AG, nG, cG, xG, rfl, hn, hn', hb⟩
  have ba := below_alloc w1 (.cells #[.bool Fr.zero.s, .slice AE nE cE, .slice AG nG cG] 27)
  have zS : FrAt w1.heap.size Fr.zero AE nE cE AG nG cG xE xG (w1.alloc (.cells #[.bool Fr.zero.s, .slice AE nE cE, .slice AG nG cG] 27)) := FrAt.made hn hn' rfl
  have R1 := Lib.hid ((R0.out.keep hb).keep ba)
  have B1 := Lib.hid ((B0.out.trans (hb.mono B0.out.size)).trans (ba.mono ((B0.out.trans (hb.mono B0.out.size)).size)))
  have NX := Lib.hid zS.x
  have NY := Lib.hid zS.y
  obtain ⟨Sa, Sb, Sc, Sd, Se, Sf⟩ := zS.h.facts
  have hlt : w.heap.size < w1.heap.size := (R0.out.keep hb).lt
  clear hb hn hn' ba zS Ra Rb Rc Rd Re Rf R0 B0 Z0
  obtain ⟨Ra, Rb, Rc, Rd, Re, Rf⟩ := R1.out.facts
  go_wp2_with fail
  generalize w1.alloc (.cells #[.bool Fr.zero.s, .slice AE nE cE, .slice AG nG cG] 27) = W1 at *
  generalize w1.heap.size = g at *
  refine wp_loop_rounds 1 ?_
  rw [rounds_succ]
  go_wp2
  refine bodyPost_ret (v := .agg #[.bool Fr.zero.s, .slice AE nE cE, .slice AG nG cG]) (by simp [results, Tryz.results11, go_sem, Ra, Rb, Rc]) rfl ?_
  exact giveFr (t := Fr.zero) B1.out (Nat.le_refl _) R1.out NX.out NY.out
set_option maxRecDepth 100000 in
set_option maxHeartbeats 2000000 in
theorem rdot_zero2 (A A' : Option Addr) (len cap cap' : Nat) (w : World) (hp : 0 < len) (hl : len ≤ 5) :
    Calls Tryz.prog 11 #[.slice A len cap, .slice A' 0 cap'] w (GivesFr Fr.zero w) := by
  have b0 := below_alloc w (.cells #[.bool false, .slice none 0 0, .slice none 0 0] 27)
  have B0 := Lib.hid b0
  have zR := FB.new w false none 0 0 none 0 0
  have R0 := Lib.hid zR
  have Z0 := opZero
  obtain ⟨Ra, Rb, Rc, Rd, Re, Rf⟩ := zR.facts
  clear b0 zR
  go_enter Tryz.func11, Tryz.ntmps11
  go_wp2_with fail
  refine (Z0.out _).mono ?_
  rintro e w1 ⟨AE, nE, cE, xE, AG, nG, cG, xG, rfl, hn, hn', hb⟩
  have ba := below_alloc w1 (.cells #[.bool Fr.zero.s, .slice AE nE cE, .slice AG nG cG] 27)
  have zS : FrAt w1.heap.size Fr.zero AE nE cE AG nG cG xE xG (w1.alloc (.cells #[.bool Fr.zero.s, .slice AE nE cE, .slice AG nG cG] 27)) := FrAt.made hn hn' rfl
  have R1 := Lib.hid ((R0.out.keep hb).keep ba)
  have B1 := Lib.hid ((B0.out.trans (hb.mono B0.out.size)).trans (ba.mono ((B0.out.trans (hb.mono B0.out.size)).size)))
  have NX := Lib.hid zS.x
  have NY := Lib.hid zS.y
  obtain ⟨Sa, Sb, Sc, Sd, Se, Sf⟩ := zS.h.facts
  have hlt : w.heap.size < w1.heap.size := (R0.out.keep hb).lt
  clear hb hn hn' ba zS Ra Rb Rc Rd Re Rf R0 B0 Z0
  obtain ⟨Ra, Rb, Rc, Rd, Re, Rf⟩ := R1.out.facts
  go_wp2_with fail
  generalize w1.alloc (.cells #[.bool Fr.zero.s, .slice AE nE cE, .slice AG nG cG] 27) = W1 at *
  generalize w1.heap.size = g at *
  refine wp_loop_rounds 1 ?_
  rw [rounds_succ]
  go_wp2
  refine bodyPost_ret (v := .agg #[.bool Fr.zero.s, .slice AE nE cE, .slice AG nG cG]) (by simp [results, Tryz.results11, go_sem, Ra, Rb, Rc]) rfl ?_
  exact giveFr (t := Fr.zero) B1.out (Nat.le_refl _) R1.out NX.out NY.out
theorem rdot_zero (A A' : Option Addr) (len cap len' cap' : Nat) (w : World) (hN : len = 0 ∨ len' = 0) (hl : len ≤ 5) (hl' : len' ≤ 5) :
    Calls Tryz.prog 11 #[.slice A len cap, .slice A' len' cap'] w (GivesFr Fr.zero w) := by
  rcases Nat.eq_zero_or_pos len with h | h
  · subst h; exact rdot_zero1 A A' cap len' cap' w hl'
  · obtain rfl : len' = 0 := by omega
    exact rdot_zero2 A A' len cap cap' w h hl
end Go.Proofs.YtebfnbnaheolgaaGreatDoor
