/- The walk of NaturalAdds: no claim of its own. -/
import Derived.Test.YtbjkkiehpfnogaaDoorIsRow
import Derived.Test.YtbjkkiehpfnogaaDoorAdd
import Derived.Test.YtbjkkiehpfnogaaDoorRSub
namespace Go.Proofs.YtbjkkiehpfnogaaDoor
open Go.RowKit
def GivesSubB (a b : Nat) (z : Bool) (w : World) (e : Ending) (w' : World) : Prop :=
  ∃ A n c xs, e = .returned (.tuple #[.slice A n c, .bool z]) ∧ Num w' A n c xs (a - b) ∧ Below w.heap.size w w'
theorem sub_b {A B : Option Addr} {n c m d a b : Nat} {xs ys : List Nat} {w : World} (hx : Num w A n c xs a) (hy : Num w B m d ys b) {z : Bool} (hz : decide (b ≤ a) = z) :
    Calls Tryd.prog 21 #[.slice A n c, .slice B m d] w (GivesSubB a b z w) := by subst hz; exact sub_any A B n c m d a b xs ys w hx hy
theorem rsub_b {A B : Option Addr} {n c m d a b : Nat} {xs ys : List Nat} {w : World} (hx : Num w A n c xs a) (hy : Num w B m d ys b) (hn : n ≤ 1000000) {z : Bool} (hz : decide (b ≤ a) = z) :
    Calls Tryd.prog 22 #[.slice A n c, .slice B m d] w (GivesSubB a b z w) := by subst hz; exact rsub_any A B n c m d a b xs ys w hx hy hn
theorem cmp_q {A B : Option Addr} {n c m d a b : Nat} {xs ys : List Nat} {w : World} (hx : Num w A n c xs a) (hy : Num w B m d ys b) {q : Int} (hq : cmpI a b = q) :
    Calls Tryd.prog 18 #[.slice A n c, .slice B m d] w (Gives (.int .i64 q) w) := by subst hq; exact cmp_any A B n c m d a b xs ys w hx hy
theorem rcmp_q {A B : Option Addr} {n c m d a b : Nat} {xs ys : List Nat} {w : World} (hx : Num w A n c xs a) (hy : Num w B m d ys b) {q : Int} (hq : cmpI a b = q) :
    Calls Tryd.prog 23 #[.slice A n c, .slice B m d] w fun e w' => e = .returned (.int .i64 q) ∧ w = w' := by
  subst hq
  have := rcmp_any A B n c m d xs ys w hx.toLst hy.toLst
  rwa [hx.val, hy.val] at this
set_option maxRecDepth 100000 in
set_option maxHeartbeats 2000000 in
theorem adds_yes (a0 : Option Addr) (len0 cap0 : Nat) (a1 : Option Addr) (len1 cap1 : Nat) (w : World) (xs ys : List Nat) (a b : Nat) (N0 : Num w a0 len0 cap0 xs a) (N1 : Num w a1 len1 cap1 ys b) (h0 : len0 ≤ 40) (h1 : len1 ≤ 40)
    (f0 : Calls Tryd.prog 13 #[.slice a0 len0 cap0, .int .i64 40] w fun e w'' => e = .returned (.bool true) ∧ w = w'') (f1 : Calls Tryd.prog 13 #[.slice a1 len1 cap1, .int .i64 40] w fun e w'' => e = .returned (.bool true) ∧ w = w'') :
    Calls Tryd.prog 4 #[.slice a0 len0 cap0, .slice a1 len1 cap1] w (Gives (.bool true) w) := by
  have KA0 := Lib.hid N0
  have KB0 := Lib.hid N1
  have B0 := Lib.hid (Below.refl w.heap.size w)
  obtain ⟨q, hq'⟩ : ∃ q, cmpI a b = q := ⟨_, rfl⟩
  obtain ⟨z, hz'⟩ : ∃ z, decide (b ≤ a) = z := ⟨_, rfl⟩
  have hq := Lib.hid hq'
  have hz := Lib.hid hz'
  have e1 : (q == q) = true := beq_self_eq_true _
  have e2 : (z == z) = true := beq_self_eq_true _
  have F0 := Lib.hid f0
  have F1 := Lib.hid f1
  clear N0 N1 hq' hz' f0 f1
  go_enter Tryd.func4, Tryd.ntmps4
  go_wp2_with fail
  refine F0.out.mono ?_
  rintro e w' ⟨rfl, rfl⟩
  go_wp2_with fail
  refine F1.out.mono ?_
  rintro e w' ⟨rfl, rfl⟩
  clear F0 F1
  go_wp2_with fail
  refine (sub_b KA0.out KB0.out hz.out).mono ?_
  rintro e w1 ⟨_, _, _, _, rfl, hn, hb⟩
  have D1 := Lib.hid (hn)
  have KA1 := Lib.hid (KA0.out.keep hb)
  have KB1 := Lib.hid (KB0.out.keep hb)
  have B1 := Lib.hid (B0.out.trans (hb.mono B0.out.size))
  clear hb B0 KA0 KB0 hn
  go_wp2_with fail
  refine (rsub_b KA1.out KB1.out (by omega) hz.out).mono ?_
  rintro e w2 ⟨_, _, _, _, rfl, hn, hb⟩
  have C2 := Lib.hid (hn)
  have KA2 := Lib.hid (KA1.out.keep hb)
  have KB2 := Lib.hid (KB1.out.keep hb)
  have D2 := Lib.hid (D1.out.keep hb)
  have B2 := Lib.hid (B1.out.trans (hb.mono B1.out.size))
  clear hb B1 KA1 KB1 D1 hn
  go_wp2_with fail
  refine (cmp_q KA2.out KB2.out hq.out).mono ?_
  rintro e w3 ⟨rfl, hb⟩
  have KA3 := Lib.hid (KA2.out.keep hb)
  have KB3 := Lib.hid (KB2.out.keep hb)
  have D3 := Lib.hid (D2.out.keep hb)
  have C3 := Lib.hid (C2.out.keep hb)
  have B3 := Lib.hid (B2.out.trans (hb.mono B2.out.size))
  clear hb B2 KA2 KB2 D2 C2 
  go_wp2_with fail
  refine (rcmp_q KA3.out KB3.out hq.out).mono ?_
  rintro e w' ⟨rfl, rfl⟩
  go_wp2_with fail
  refine (add_any _ _ _ _ _ _ _ _ _ _ _ KA3.out KB3.out (by omega) (by omega)).mono ?_
  rintro e w4 ⟨_, _, _, _, rfl, hn, hb⟩
  have S4 := Lib.hid (hn)
  have KA4 := Lib.hid (KA3.out.keep hb)
  have KB4 := Lib.hid (KB3.out.keep hb)
  have D4 := Lib.hid (D3.out.keep hb)
  have C4 := Lib.hid (C3.out.keep hb)
  have B4 := Lib.hid (B3.out.trans (hb.mono B3.out.size))
  clear hb B3 KA3 KB3 D3 C3 hn
  go_wp2_with fail
  refine (radd_any _ _ _ _ _ _ _ _ _ _ _ KA4.out KB4.out (by omega) (by omega)).mono ?_
  rintro e w5 ⟨_, _, _, _, rfl, hn, hb⟩
  have T5 := Lib.hid (hn)
  have KA5 := Lib.hid (KA4.out.keep hb)
  have KB5 := Lib.hid (KB4.out.keep hb)
  have D5 := Lib.hid (D4.out.keep hb)
  have C5 := Lib.hid (C4.out.keep hb)
  have S5 := Lib.hid (S4.out.keep hb)
  have B5 := Lib.hid (B4.out.trans (hb.mono B4.out.size))
  clear hb B4 KA4 KB4 D4 C4 S4 hn
  go_wp2_with fail
  refine (same_num _ _ _ _ _ _ _ _ _ _ S5.out T5.out).mono ?_
  rintro e w6 ⟨rfl, hb⟩
  have D6 := Lib.hid (D5.out.keep hb)
  have C6 := Lib.hid (C5.out.keep hb)
  have B6 := Lib.hid (B5.out.trans (hb.mono B5.out.size))
  clear hb B5 KA5 KB5 D5 C5 S5 T5 
  go_wp2_with fail
  refine (same_num _ _ _ _ _ _ _ _ _ _ D6.out C6.out).mono ?_
  rintro e w7 ⟨rfl, hb⟩
  have B7 := Lib.hid (B6.out.trans (hb.mono B6.out.size))
  clear hb B6 D6 C6 
  go_wp2_with fail
  refine (lives_any _).mono ?_
  rintro e w99 ⟨rfl, hb⟩
  have B99 := Lib.hid (B7.out.trans (hb.mono B7.out.size))
  clear hb
  go_wp2
  go_ret
  exact ⟨rfl, B99.out⟩
set_option maxRecDepth 100000 in
set_option maxHeartbeats 1000000 in
theorem adds_walk (a0 : Option Addr) (len0 cap0 : Nat) (z0 : List Int) (a1 : Option Addr) (len1 cap1 : Nat) (z1 : List Int) (w : World) (w0 : IsRow .u32 w a0 len0 cap0 z0) (w1 : IsRow .u32 w a1 len1 cap1 z1) :
    Calls Tryd.prog 4 #[.slice a0 len0 cap0, .slice a1 len1 cap1] w (Gives (.bool true) w) := by
  have f0 := w0.few 40 (by decide)
  have f1 := w1.few 40 (by decide)
  clear w0 w1
  rcases f0 with f0 | ⟨hl0, xs, m, N0, f0⟩
  · have F0 := Lib.hid (f0 w (Below.refl _ _))
    clear f0 f1
    go_enter Tryd.func4, Tryd.ntmps4
    go_wp2_with fail
    refine F0.out.mono ?_
    rintro e w' ⟨rfl, rfl⟩
    go_wp2_with fail
    refine (lives_any _).mono ?_
    rintro e w' ⟨rfl, hb⟩
    have B := Lib.hid hb
    clear hb
    go_wp2
    go_ret
    exact ⟨rfl, B.out⟩
  · rcases f1 with f1 | ⟨hl1, ys, n, N1, f1⟩
    · have F0 := Lib.hid (f0 w (Below.refl _ _))
      have F1 := Lib.hid (f1 w (Below.refl _ _))
      clear f0 f1 N0
      go_enter Tryd.func4, Tryd.ntmps4
      go_wp2_with fail
      refine F0.out.mono ?_
      rintro e w' ⟨rfl, rfl⟩
      go_wp2_with fail
      refine F1.out.mono ?_
      rintro e w' ⟨rfl, rfl⟩
      go_wp2_with fail
      refine (lives_any _).mono ?_
      rintro e w' ⟨rfl, hb⟩
      have B := Lib.hid hb
      clear hb
      go_wp2
      go_ret
      exact ⟨rfl, B.out⟩
    · exact adds_yes a0 len0 cap0 a1 len1 cap1 w xs ys m n N0 N1 hl0 hl1 (f0 w (Below.refl _ _)) (f1 w (Below.refl _ _))
end Go.Proofs.YtbjkkiehpfnogaaDoor
