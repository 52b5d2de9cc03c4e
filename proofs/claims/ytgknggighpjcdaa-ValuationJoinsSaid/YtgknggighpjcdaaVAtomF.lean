/- The law's atom. No claim of its own. -/
import Derived.Test.YtgknggighpjcdaaVTab
import Derived.Test.YtgknggighpjcdaaJK
namespace Go.Proofs.Ytgknggighpjcdaa
open Go.RowKit
theorem atom_results {w : World} {R1 : Nat} {z0 z1 z2 z3 z4 z5 z6 z7 z8 : Value} (tmps : Array Value) (h4 : tmps.getD 4 undef = .pointer (some ⟨R1, 0, none⟩)) (b1 : B9 w R1 z0 z1 z2 z3 z4 z5 z6 z7 z8) :
    (results Try.f47 tmps).run Try.prog w = .ok (.agg #[z0, z1, z2, z3, z4, z5, z6, z7, z8]) w := by
  have h4' : tmps[4]?.getD undef = .pointer (some ⟨R1, 0, none⟩) := by simpa using h4
  obtain ⟨r0, r1, r2, r3, r4, r5, r6, r7, r8⟩ := b1.cells
  simp [results, Try.results47, h4', go_sem, r0, r1, r2, r3, r4, r5, r6, r7, r8]
theorem grown_setsV {w : World} {g : Nat} (vs : List Value) (o : Nat) : w.grownBy (sets w g o vs) (some g) := by
  obtain ⟨e1, e2, e3, e4⟩ := sets_same (g := g) vs w o
  exact ⟨e1, e2, e3, by rw [e4]; exact Nat.le_refl _, fun k _ hk => sets_far (fun e => hk (by rw [e])) vs w o⟩
set_option maxRecDepth 100000 in
set_option maxHeartbeats 4000000 in
theorem atom_any (v : Int) (A : Option Addr) (n c : Nat) (L : List Int) (hL0 : n ≤ 6) (w : World) (hL : Lst intE w A n c L) : Calls Try.prog 47 #[.int .i64 v, .slice A n c] w
    (Gives (.agg #[.int .i64 1, .int .i64 (L.getD 0 0), .int .i64 (L.getD 1 0), .int .i64 (L.getD 2 0), .int .i64 (L.getD 3 0), .int .i64 (L.getD 4 0), .int .i64 (L.getD 5 0), .int .i64 v, .slice none 0 0]) w) := by
  have HLL := Lib.hid hL.len
  have HB := Lib.hid (below_two w (.cells #[.int .i64 0, .int .i64 0, .int .i64 0, .int .i64 0, .int .i64 0, .int .i64 0, .int .i64 0, .int .i64 0, .slice none 0 0] 26) (.cells #[.int .i64 0, .int .i64 0, .int .i64 0, .int .i64 0, .int .i64 0, .int .i64 0] 23))
  have X0 := Lib.hid (below_new (w.alloc (.cells #[.int .i64 0, .int .i64 0, .int .i64 0, .int .i64 0, .int .i64 0, .int .i64 0, .int .i64 0, .int .i64 0, .slice none 0 0] 26)) (.cells #[.int .i64 0, .int .i64 0, .int .i64 0, .int .i64 0, .int .i64 0, .int .i64 0] 23))
  have E0 := Lib.hid (show B9 ((w.alloc (.cells #[.int .i64 0, .int .i64 0, .int .i64 0, .int .i64 0, .int .i64 0, .int .i64 0, .int .i64 0, .int .i64 0, .slice none 0 0] 26)).alloc (.cells #[.int .i64 0, .int .i64 0, .int .i64 0, .int .i64 0, .int .i64 0, .int .i64 0] 23)) w.heap.size (.int .i64 0) (.int .i64 0) (.int .i64 0) (.int .i64 0) (.int .i64 0) (.int .i64 0) (.int .i64 0) (.int .i64 0) (.slice none 0 0) from (X0.out.block w.heap.size (by simp)).trans (heap_new w _))
  have S0 := Lib.hid (show BB ((w.alloc (.cells #[.int .i64 0, .int .i64 0, .int .i64 0, .int .i64 0, .int .i64 0, .int .i64 0, .int .i64 0, .int .i64 0, .slice none 0 0] 26)).alloc (.cells #[.int .i64 0, .int .i64 0, .int .i64 0, .int .i64 0, .int .i64 0, .int .i64 0] 23)) (w.heap.size + 1) 23 [0, 0, 0, 0, 0, 0] from by
    have := BB.new (w.alloc (.cells #[.int .i64 0, .int .i64 0, .int .i64 0, .int .i64 0, .int .i64 0, .int .i64 0, .int .i64 0, .int .i64 0, .slice none 0 0] 26)) 23 0 0 0 0 0 0
    rwa [World.size_alloc] at this)
  have L0 := Lib.hid hL
  clear X0 hL
  have hZ0 : ∀ j, MB.at_ [0, 0, 0, 0, 0, 0] j = 0 := fun j => by
    unfold MB.at_
    rw [List.getD_eq_getElem?_getD]
    rcases Nat.lt_or_ge j 6 with h | h
    · have : j = 0 ∨ j = 1 ∨ j = 2 ∨ j = 3 ∨ j = 4 ∨ j = 5 := by omega
      rcases this with rfl | rfl | rfl | rfl | rfl | rfl <;> rfl
    · rw [List.getElem?_eq_none (by simpa using h)]; rfl
  have HZ0 := Lib.hid hZ0
  clear hZ0
  go_enter Try.func47, Try.ntmps47
  go_upto_region 2 with (fail)
  generalize (w.alloc (.cells #[.int .i64 0, .int .i64 0, .int .i64 0, .int .i64 0, .int .i64 0, .int .i64 0, .int .i64 0, .int .i64 0, .slice none 0 0] 26)).alloc (.cells #[.int .i64 0, .int .i64 0, .int .i64 0, .int .i64 0, .int .i64 0, .int .i64 0] 23) = w1 at *
  go_wp2_with fail
  go_loopw [6] (fun t wr => ∃ (i : Nat) (zs : List Int), i ≤ n ∧ t = .int .i64 i ∧ Below w.heap.size w wr ∧ B9 wr w.heap.size (.int .i64 0) (.int .i64 0) (.int .i64 0) (.int .i64 0) (.int .i64 0) (.int .i64 0) (.int .i64 0) (.int .i64 0) (.slice none 0 0) ∧ BB wr (w.heap.size + 1) 23 zs ∧ ∀ j, MB.at_ zs j = if j < i then L.getD j 0 else 0) (fun t _ => n - (intOf t).toNat)
  case atStart => exact ⟨0, _, by omega, rfl, HB.out, E0.out, S0.out, fun j => by rw [if_neg (by omega)]; exact HZ0.out j⟩
  case round =>
    obtain ⟨i, zs, hi, rfl, hbw, hE, hS, hz⟩ := hrel
    have HB1 := Lib.hid hbw
    have E1 := Lib.hid hE
    have S1 := Lib.hid hS
    have HZ := Lib.hid hz
    clear hbw hE hS hz HB E0 S0
    by_cases hlt : i < n
    · have hi6 : i < 6 := by omega
      have hl := L0.out.keep HB1.out
      obtain ⟨ad, x, rfl, hx, hxr, hadl, ca⟩ := int_at hl hlt
      have HX : Hid (L.getD i 0 = x) := Lib.hid (by rw [List.getD_eq_getElem?_getD, hx]; rfl)
      have c1 := S1.out.cell hi6
      have f1 := S1.out.free i
      clear hl hx
      go_wp2
      go_roundw
      case rel => exact ⟨i + 1, zs.set i x, by omega, by go_num, HB1.out.setCell (p := ⟨w.heap.size + 1, i, none⟩) (by show w.heap.size ≤ w.heap.size + 1; omega) _, B9.same E1.out (heap_setCell_other wr _ w.heap.size _ (by simp)), S1.out.set i x, fun j => by
        by_cases e : j = i
        · rw [e, at_set_same _ (by rw [S1.out.2]; exact hi6), if_pos (by omega), HX.out]
        · rw [at_set_other _ e, HZ.out j]
          by_cases h : j < i
          · rw [if_pos h, if_pos (by omega)]
          · rw [if_neg h, if_neg (by omega)]⟩
      case measure => simp [intOf]; omega
    · obtain rfl : i = n := by omega
      have hzs : zs = [L.getD 0 0, L.getD 1 0, L.getD 2 0, L.getD 3 0, L.getD 4 0, L.getD 5 0] := MB.ext6 S1.out.2 rfl fun j hj => by
        have e : MB.at_ zs j = L.getD j 0 := by
          rw [HZ.out j]
          by_cases h : j < i
          · rw [if_pos h]
          · rw [if_neg h, List.getD_eq_getElem?_getD, List.getElem?_eq_none (by rw [HLL.out]; omega)]; rfl
        rw [e]
        have : j = 0 ∨ j = 1 ∨ j = 2 ∨ j = 3 ∨ j = 4 ∨ j = 5 := by omega
        rcases this with rfl | rfl | rfl | rfl | rfl | rfl <;> rfl
      subst hzs
      generalize L.getD 0 0 = l0 at *
      generalize L.getD 1 0 = l1 at *
      generalize L.getD 2 0 = l2 at *
      generalize L.getD 3 0 = l3 at *
      generalize L.getD 4 0 = l4 at *
      generalize L.getD 5 0 = l5 at *
      obtain ⟨e0, e1, e2, e3, e4, e5, e6, e7, e8⟩ := E1.out.cells
      obtain ⟨g0, g1, g2, g3, g4, g5, g6, g7, g8⟩ := E1.out.free
      obtain ⟨r0, r1, r2, r3, r4, r5⟩ := cells6 S1.out
      clear HZ
      go_wp2
      refine bodyPost_ret (atom_results _ rfl (by rw [nest_0]; exact E1.out.put _ _ _ _ _ _ _ _ _)) rfl ⟨rfl, ?_⟩
      rw [nest_0]
      exact HB1.out.grown (grown_setsV _ _) HB1.out.size (fun k hk => by injection hk with hk; omega)
end Go.Proofs.Ytgknggighpjcdaa
