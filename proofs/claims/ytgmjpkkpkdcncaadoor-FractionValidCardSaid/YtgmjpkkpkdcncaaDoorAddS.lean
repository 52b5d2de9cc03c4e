/- Contracts of fraction.addSigned and Add: no claim of its own. -/
import Derived.Test.YtgmjpkkpkdcncaaDoorOpp
namespace Go.Proofs.YtgmjpkkpkdcncaaDoor
open Go.RowKit
/-- The sum of two signed numbers: its sign and its size. -/
def addS (s : Bool) (l : Nat) (t : Bool) (r : Nat) : Bool × Nat := if s = t then (s, l + r) else if r ≤ l then (s && decide (0 < l - r), l - r) else (t, r - l)
theorem addS_num (s : Bool) (l : Nat) (t : Bool) (r : Nat) : Fr.num (addS s l t r).1 (addS s l t r).2 = Fr.num s l + Fr.num t r := by
  unfold addS
  cases s <;> cases t <;> simp [Fr.num]
  · split
    · simp; omega
    · simp; omega
  · split
    · rename_i h
      by_cases h2 : r < l
      · simp [h2]; omega
      · simp [h2]; omega
    · simp; omega
  · omega
theorem addS_pos (s : Bool) (l : Nat) (t : Bool) (r : Nat) (hl : 0 < l) (hr : 0 < r) (h : (addS s l t r).1 = true) : 0 < (addS s l t r).2 := by
  unfold addS at h ⊢
  split
  · show 0 < l + r; omega
  · split
    · rename_i h1 h2
      rw [if_neg h1, if_pos h2] at h
      simp at h
      show 0 < l - r; omega
    · show 0 < r - l; omega
theorem addS_le (s : Bool) (l : Nat) (t : Bool) (r : Nat) : (addS s l t r).2 ≤ l + r := by
  unfold addS
  split
  · exact Nat.le_refl _
  · split
    · show l - r ≤ l + r; omega
    · show r - l ≤ l + r; omega
/-- A call hands back a sign and a number. -/
def GivesSg (s : Bool) (a : Nat) (w : World) (e : Ending) (w' : World) : Prop := ∃ A n c xs, e = .returned (.tuple #[.bool s, .slice A n c]) ∧ Num w' A n c xs a ∧ Below w.heap.size w w'
theorem GivesSg.eq {s t : Bool} {a b : Nat} (h : (s, a) = (t, b)) {w w' : World} {e : Ending} (g : GivesSg s a w e w') : GivesSg t b w e w' := by cases h; exact g
theorem sub_yes {A B : Option Addr} {n c m d a b : Nat} {xs ys : List Nat} {w : World} (hx : Num w A n c xs a) (hy : Num w B m d ys b) {z : Bool} (hz : decide (b ≤ a) = z) :
    Calls Tryd.prog 91 #[.slice A n c, .slice B m d] w (GivesSubB a b z w) := sub_b hx hy hz
set_option maxRecDepth 100000 in
set_option maxHeartbeats 1000000 in
theorem adds_falsefalse (A B : Option Addr) (n c m d a b i : Nat) (xs ys : List Nat) (w : World) (hx : Num w A n c xs a) (hy : Num w B m d ys b) (pa : a < 4294967296 ^ i) (pb : b < 4294967296 ^ i) (hi : i ≤ 400000) :
    Calls Tryd.prog 79 #[.bool false, .slice A n c, .bool false, .slice B m d] w (GivesSg false (a + b) w) := by
  have X0 := Lib.hid hx
  have Y0 := Lib.hid hy
  have PA := Lib.hid pa
  have PB := Lib.hid pb
  have B0 := Lib.hid (Below.refl w.heap.size w)
  clear hx hy pa pb
  go_enter Tryd.func79, Tryd.ntmps79
  go_wp2_with fail
  refine (add_s X0.out Y0.out PA.out PB.out (by omega) (by omega)).mono ?_
  rintro e w1 ⟨AP, nP, cP, xP, rfl, hn, hb⟩
  have P1 := Lib.hid (hn)
  have B1 := Lib.hid (B0.out.trans (hb.mono B0.out.size))
  clear hb B0 X0 Y0 hn
  go_wp2
  go_ret2
  exact ⟨_, _, _, _, rfl, P1.out, B1.out⟩
set_option maxRecDepth 100000 in
set_option maxHeartbeats 1000000 in
theorem adds_truetrue (A B : Option Addr) (n c m d a b i : Nat) (xs ys : List Nat) (w : World) (hx : Num w A n c xs a) (hy : Num w B m d ys b) (pa : a < 4294967296 ^ i) (pb : b < 4294967296 ^ i) (hi : i ≤ 400000) :
    Calls Tryd.prog 79 #[.bool true, .slice A n c, .bool true, .slice B m d] w (GivesSg true (a + b) w) := by
  have X0 := Lib.hid hx
  have Y0 := Lib.hid hy
  have PA := Lib.hid pa
  have PB := Lib.hid pb
  have B0 := Lib.hid (Below.refl w.heap.size w)
  clear hx hy pa pb
  go_enter Tryd.func79, Tryd.ntmps79
  go_wp2_with fail
  refine (add_s X0.out Y0.out PA.out PB.out (by omega) (by omega)).mono ?_
  rintro e w1 ⟨AP, nP, cP, xP, rfl, hn, hb⟩
  have P1 := Lib.hid (hn)
  have B1 := Lib.hid (B0.out.trans (hb.mono B0.out.size))
  clear hb B0 X0 Y0 hn
  go_wp2
  go_ret2
  exact ⟨_, _, _, _, rfl, P1.out, B1.out⟩
set_option maxRecDepth 100000 in
set_option maxHeartbeats 1000000 in
theorem adds_falsetrue_ge (A B : Option Addr) (n c m d a b i : Nat) (xs ys : List Nat) (w : World) (hx : Num w A n c xs a) (hy : Num w B m d ys b) (pa : a < 4294967296 ^ i) (pb : b < 4294967296 ^ i) (hi : i ≤ 400000) (h : b ≤ a) (zb : Bool) (hzb : decide (a - b = 0) = zb) :
    Calls Tryd.prog 79 #[.bool false, .slice A n c, .bool true, .slice B m d] w (GivesSg false (a - b) w) := by
  have X0 := Lib.hid hx
  have Y0 := Lib.hid hy
  have PA := Lib.hid pa
  have PB := Lib.hid pb
  have B0 := Lib.hid (Below.refl w.heap.size w)
  have DE := Lib.hid (decide_eq_true h)
  have PS := Lib.hid (pw_le (Nat.sub_le a b) pa)
  have ZB := Lib.hid hzb
  clear hx hy pa pb h hzb
  go_enter Tryd.func79, Tryd.ntmps79
  go_wp2_with fail
  refine (sub_b X0.out Y0.out DE.out).mono ?_
  rintro e w1 ⟨AP, nP, cP, xP, rfl, hn, hb⟩
  have P1 := Lib.hid (hn)
  have B1 := Lib.hid (B0.out.trans (hb.mono B0.out.size))
  clear hb B0 X0 Y0 hn
  go_wp2
  go_ret2
  exact ⟨_, _, _, _, rfl, P1.out, B1.out⟩
set_option maxRecDepth 100000 in
set_option maxHeartbeats 1000000 in
theorem adds_falsetrue_lt (A B : Option Addr) (n c m d a b i : Nat) (xs ys : List Nat) (w : World) (hx : Num w A n c xs a) (hy : Num w B m d ys b) (pa : a < 4294967296 ^ i) (pb : b < 4294967296 ^ i) (hi : i ≤ 400000) (h : a < b) :
    Calls Tryd.prog 79 #[.bool false, .slice A n c, .bool true, .slice B m d] w (GivesSg true (b - a) w) := by
  have X0 := Lib.hid hx
  have Y0 := Lib.hid hy
  have PA := Lib.hid pa
  have PB := Lib.hid pb
  have B0 := Lib.hid (Below.refl w.heap.size w)
  have DE : Hid (decide (b ≤ a) = false) := Lib.hid (decide_eq_false (by omega))
  have DE2 : Hid (decide (a ≤ b) = true) := Lib.hid (decide_eq_true (by omega))
  clear hx hy pa pb h
  go_enter Tryd.func79, Tryd.ntmps79
  go_wp2_with fail
  refine (sub_b X0.out Y0.out DE.out).mono ?_
  rintro e w1 ⟨_, _, _, _, rfl, _, hb⟩
  have X1 := Lib.hid (X0.out.keep hb)
  have Y1 := Lib.hid (Y0.out.keep hb)
  have B1 := Lib.hid (B0.out.trans (hb.mono B0.out.size))
  clear hb B0 X0 Y0 
  go_wp2_with fail
  refine (sub_b Y1.out X1.out DE2.out).mono ?_
  rintro e w2 ⟨AP, nP, cP, xP, rfl, hn, hb⟩
  have P2 := Lib.hid (hn)
  have B2 := Lib.hid (B1.out.trans (hb.mono B1.out.size))
  clear hb B1 X1 Y1 hn
  go_wp2
  go_ret2
  exact ⟨_, _, _, _, rfl, P2.out, B2.out⟩
set_option maxRecDepth 100000 in
set_option maxHeartbeats 1000000 in
theorem adds_truefalse_ge (A B : Option Addr) (n c m d a b i : Nat) (xs ys : List Nat) (w : World) (hx : Num w A n c xs a) (hy : Num w B m d ys b) (pa : a < 4294967296 ^ i) (pb : b < 4294967296 ^ i) (hi : i ≤ 400000) (h : b ≤ a) (zb : Bool) (hzb : decide (a - b = 0) = zb) :
    Calls Tryd.prog 79 #[.bool true, .slice A n c, .bool false, .slice B m d] w (GivesSg (!zb) (a - b) w) := by
  have X0 := Lib.hid hx
  have Y0 := Lib.hid hy
  have PA := Lib.hid pa
  have PB := Lib.hid pb
  have B0 := Lib.hid (Below.refl w.heap.size w)
  have DE := Lib.hid (decide_eq_true h)
  have PS := Lib.hid (pw_le (Nat.sub_le a b) pa)
  have ZB := Lib.hid hzb
  clear hx hy pa pb h hzb
  go_enter Tryd.func79, Tryd.ntmps79
  go_wp2_with fail
  refine (sub_b X0.out Y0.out DE.out).mono ?_
  rintro e w1 ⟨AP, nP, cP, xP, rfl, hn, hb⟩
  have P1 := Lib.hid (hn)
  have B1 := Lib.hid (B0.out.trans (hb.mono B0.out.size))
  clear hb B0 X0 Y0 hn
  go_wp2_with fail
  refine (isZero_s P1.out PS.out (by omega) ZB.out).mono ?_
  rintro e w' ⟨rfl, rfl⟩
  go_wp2
  go_ret2
  exact ⟨_, _, _, _, rfl, P1.out, B1.out⟩
set_option maxRecDepth 100000 in
set_option maxHeartbeats 1000000 in
theorem adds_truefalse_lt (A B : Option Addr) (n c m d a b i : Nat) (xs ys : List Nat) (w : World) (hx : Num w A n c xs a) (hy : Num w B m d ys b) (pa : a < 4294967296 ^ i) (pb : b < 4294967296 ^ i) (hi : i ≤ 400000) (h : a < b) :
    Calls Tryd.prog 79 #[.bool true, .slice A n c, .bool false, .slice B m d] w (GivesSg false (b - a) w) := by
  have X0 := Lib.hid hx
  have Y0 := Lib.hid hy
  have PA := Lib.hid pa
  have PB := Lib.hid pb
  have B0 := Lib.hid (Below.refl w.heap.size w)
  have DE : Hid (decide (b ≤ a) = false) := Lib.hid (decide_eq_false (by omega))
  have DE2 : Hid (decide (a ≤ b) = true) := Lib.hid (decide_eq_true (by omega))
  clear hx hy pa pb h
  go_enter Tryd.func79, Tryd.ntmps79
  go_wp2_with fail
  refine (sub_b X0.out Y0.out DE.out).mono ?_
  rintro e w1 ⟨_, _, _, _, rfl, _, hb⟩
  have X1 := Lib.hid (X0.out.keep hb)
  have Y1 := Lib.hid (Y0.out.keep hb)
  have B1 := Lib.hid (B0.out.trans (hb.mono B0.out.size))
  clear hb B0 X0 Y0 
  go_wp2_with fail
  refine (sub_b Y1.out X1.out DE2.out).mono ?_
  rintro e w2 ⟨AP, nP, cP, xP, rfl, hn, hb⟩
  have P2 := Lib.hid (hn)
  have B2 := Lib.hid (B1.out.trans (hb.mono B1.out.size))
  clear hb B1 X1 Y1 hn
  go_wp2
  go_ret2
  exact ⟨_, _, _, _, rfl, P2.out, B2.out⟩
theorem addSigned_any (s t : Bool) (A B : Option Addr) (n c m d a b i : Nat) (xs ys : List Nat) (w : World) (hx : Num w A n c xs a) (hy : Num w B m d ys b) (pa : a < 4294967296 ^ i) (pb : b < 4294967296 ^ i) (hi : i ≤ 400000) :
    Calls Tryd.prog 79 #[.bool s, .slice A n c, .bool t, .slice B m d] w (GivesSg (addS s a t b).1 (addS s a t b).2 w) := by
  have ez : ∀ z : Nat, (!decide (z = 0)) = decide (0 < z) := fun z => by
    by_cases h : z = 0
    · subst h; rfl
    · rw [decide_eq_false h, decide_eq_true (by omega)]; rfl
  cases s <;> cases t
  · exact adds_falsefalse A B n c m d a b i xs ys w hx hy pa pb hi
  · rcases Nat.lt_or_ge a b with h | h
    · exact (adds_falsetrue_lt A B n c m d a b i xs ys w hx hy pa pb hi h).mono fun _ _ g => g.eq (by simp [addS, Nat.not_le.2 h])
    · exact (adds_falsetrue_ge A B n c m d a b i xs ys w hx hy pa pb hi h _ rfl).mono fun _ _ g => g.eq (by simp [addS, h])
  · rcases Nat.lt_or_ge a b with h | h
    · exact (adds_truefalse_lt A B n c m d a b i xs ys w hx hy pa pb hi h).mono fun _ _ g => g.eq (by simp [addS, Nat.not_le.2 h])
    · exact (adds_truefalse_ge A B n c m d a b i xs ys w hx hy pa pb hi h _ rfl).mono fun _ _ g => g.eq (by rw [ez]; simp [addS, h])
  · exact adds_truetrue A B n c m d a b i xs ys w hx hy pa pb hi
end Go.Proofs.YtgmjpkkpkdcncaaDoor
