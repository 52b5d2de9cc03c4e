/- Words for fractions, and contracts of the small functions of package fraction: no claim of its own. -/
import Derived.Test.YtgmjpkkpkdcncaaDoorShort
import Derived.Test.YtgmjpkkpkdcncaaDoorMathF
import Derived.Test.YtgmjpkkpkdcncaaDoorGcd
import Derived.Test.YtgmjpkkpkdcncaaDoorBitsN
import Derived.Deep.RegionHeld3
namespace Go.Proofs.YtgmjpkkpkdcncaaDoor
open Go.RowKit
/-- A call hands back the fraction t; nothing that was there has turned. -/
def GivesFr (t : Fr) (w : World) (e : Ending) (w' : World) : Prop :=
  ∃ A n c xs B m d ys, e = .returned (.agg #[.bool t.s, .slice A n c, .slice B m d]) ∧ Num w' A n c xs t.p ∧ Num w' B m d ys t.q ∧ Below w.heap.size w w'
/-- The fraction t and the error k. -/
def GivesFrE (t : Fr) (k : Int) (w : World) (e : Ending) (w' : World) : Prop :=
  ∃ A n c xs B m d ys, e = .returned (.tuple #[.agg #[.bool t.s, .slice A n c, .slice B m d], .int .i64 k]) ∧ Num w' A n c xs t.p ∧ Num w' B m d ys t.q ∧ Below w.heap.size w w'
theorem isBits_zero {k : Nat} (h : isBits k 0) : k = 0 := by
  rcases h.2 with h0 | h0
  · exact h0
  · have : 0 < 2 ^ (k - 1) := Nat.pow_pos (by decide)
    omega
theorem isBits_pos {k a : Nat} (h : isBits k a) (ha : 0 < a) : 0 < k := by
  rcases Nat.eq_zero_or_pos k with h0 | h0
  · subst h0
    have := h.1
    simp at this
    omega
  · exact h0
theorem isZero_yes (A : Option Addr) (n c a : Nat) (xs : List Nat) (w : World) (h : Num w A n c xs a) (hn : n ≤ 1000000) (ha : a = 0) :
    Calls Tryd.prog 61 #[.slice A n c] w fun e w' => e = .returned (.bool true) ∧ w = w' := by
  subst ha
  have C := Lib.hid (bits_any A n c 0 xs w h hn)
  clear h
  go_enter Tryd.func61, Tryd.ntmps61
  go_wp2_with fail
  refine C.out.mono ?_
  rintro e w' ⟨k, rfl, hk, rfl⟩
  obtain rfl := isBits_zero hk
  clear hk
  go_wp2
  go_ret
  exact ⟨rfl, rfl⟩
theorem isZero_no (A : Option Addr) (n c a : Nat) (xs : List Nat) (w : World) (h : Num w A n c xs a) (hn : n ≤ 1000000) (ha : 0 < a) :
    Calls Tryd.prog 61 #[.slice A n c] w fun e w' => e = .returned (.bool false) ∧ w = w' := by
  have C := Lib.hid (bits_any A n c a xs w h hn)
  have HA := Lib.hid ha
  clear h ha
  go_enter Tryd.func61, Tryd.ntmps61
  go_wp2_with fail
  refine C.out.mono ?_
  rintro e w' ⟨k, rfl, hk, rfl⟩
  have hk0 := isBits_pos hk HA.out
  have hz : ((k : Int) == 0) = false := beq_eq_false_iff_ne.2 (by omega)
  clear hk
  go_wp2
  go_ret
  exact ⟨rfl, rfl⟩
theorem isZero_any (A : Option Addr) (n c a : Nat) (xs : List Nat) (w : World) (h : Num w A n c xs a) (hn : n ≤ 1000000) (b : Bool) (hb : decide (a = 0) = b) :
    Calls Tryd.prog 61 #[.slice A n c] w fun e w' => e = .returned (.bool b) ∧ w = w' := by
  subst hb
  by_cases ha : a = 0
  · rw [decide_eq_true ha]; exact isZero_yes A n c a xs w h hn ha
  · rw [decide_eq_false ha]; exact isZero_no A n c a xs w h hn (by omega)
/-- A list of one digit. -/
theorem Num.one {w : World} {A : Option Addr} {c a : Nat} {xs : List Nat} (h : Num w A 1 c xs a) : xs = [a] := by
  have h1 := h.len
  have h2 := h.val
  rcases xs with _ | ⟨x, _ | ⟨y, ys⟩⟩
  · simp at h1
  · simp [dval] at h2; rw [h2]
  · simp at h1
theorem isOne_any (A : Option Addr) (n c a : Nat) (xs : List Nat) (w : World) (h : Num w A n c xs a) (b : Bool) (hb : decide (a = 1) = b) :
    Calls Tryd.prog 62 #[.slice A n c] w fun e w' => e = .returned (.bool b) ∧ w = w' := by
  have hr := h.room
  by_cases h1 : n = 1
  · subst h1
    have hx := h.one
    obtain ⟨ad, rfl, _, hc⟩ := h.toLst.at_ (k := 0) (by omega)
    rw [hx, add_zero_] at hc
    simp only [List.getD_cons_zero] at hc
    have hc1 := h.cap
    have e : ((a : Int) == 1) = b := by
      rw [← hb]
      by_cases h : a = 1
      · subst h; rfl
      · rw [decide_eq_false h]; exact beq_eq_false_iff_ne.2 (by omega)
    clear h hx hb
    go_enter Tryd.func62, Tryd.ntmps62
    go_wp2
    go_ret
    exact ⟨rfl, rfl⟩
  · have e : Hid (b = false) := Lib.hid (by
      rw [← hb]
      refine decide_eq_false fun ha => h1 ?_
      have h2 := h.len_le (k := 1) (by rw [ha]; decide)
      have h3 := h.npos (by omega)
      omega)
    have hz : ((n : Int) == 1) = false := beq_eq_false_iff_ne.2 (by omega)
    clear h hb h1
    go_enter Tryd.func62, Tryd.ntmps62
    go_wp2
    go_ret
    exact ⟨by rw [e.out]; rfl, rfl⟩
/-- Quotient by a divisor; it may be the number itself. -/
theorem quotient_any (A B : Option Addr) (n c m d a b : Nat) (xs ys : List Nat) (w : World) (hx : Num w A n c xs a) (hy : Num w B m d ys b) (hb : 0 < b) (hn : n ≤ 900000) (hm : m ≤ 900000) :
    Calls Tryd.prog 78 #[.slice A n c, .slice B m d] w (GivesNum (a / b) w) := by
  by_cases h1 : b = 1
  · have C := Lib.hid (isOne_any B m d b ys w hy true (decide_eq_true h1))
    have G : Hid (GivesNum (a / b) w (.returned (.slice A n c)) w) := Lib.hid ⟨_, _, _, _, rfl, hx.to (by rw [h1, Nat.div_one]), Below.refl _ _⟩
    clear hx hy h1
    go_enter Tryd.func78, Tryd.ntmps78
    go_wp2_with fail
    refine C.out.mono ?_
    rintro e w' ⟨rfl, rfl⟩
    go_wp2
    go_ret
    exact G.out
  · have C := Lib.hid (isOne_any B m d b ys w hy false (decide_eq_false h1))
    have D := Lib.hid (divMod_any A B n c m d a b xs ys w hx hy (hy.npos hb) hn hm)
    clear hx hy h1
    go_enter Tryd.func78, Tryd.ntmps78
    go_wp2_with fail
    refine C.out.mono ?_
    rintro e w' ⟨rfl, rfl⟩
    go_wp2_with fail
    refine D.out.mono ?_
    rintro e w1 ⟨A1, n1, c1, x1, A2, n2, c2, x2, rfl, hq, hr, hbl⟩
    have G : Hid (GivesNum (a / b) w (.returned (.slice A1 n1 c1)) w1) := Lib.hid ⟨_, _, _, _, rfl, hq, hbl⟩
    clear hq hr hbl C D
    go_wp2
    go_ret
    exact G.out
end Go.Proofs.YtgmjpkkpkdcncaaDoor
