/- Frac, Clone, Make, Opp, joined: no claim of its own. -/
import Derived.Test.YtbllnkhbahenkaaDoorShort
import Derived.Test.YtbllnkhbahenkaaDoorMaths
import Derived.Test.YtbllnkhbahenkaaDoorGcd
import Derived.Test.YtbllnkhbahenkaaDoorBitsN
import Derived.Deep.RegionHeld3
import Derived.BigRegion
namespace Go.Proofs.YtbllnkhbahenkaaDoor
open Go.RowKit
/-- A call hands back the fraction t; nothing that was there has turned. -/
def GivesFr (t : Fr) (w : World) (e : Ending) (w' : World) : Prop :=
  ∃ A n c xs B m d ys, e = .returned (.agg #[.bool t.s, .slice A n c, .slice B m d]) ∧ Num w' A n c xs t.p ∧ Num w' B m d ys t.q ∧ Below w.heap.size w w'
/-- The fraction t and the error k. -/
def GivesFrE (t : Fr) (k : Int) (w : World) (e : Ending) (w' : World) : Prop :=
  ∃ A n c xs B m d ys, e = .returned (.tuple #[.agg #[.bool t.s, .slice A n c, .slice B m d], .int .i64 k]) ∧ Num w' A n c xs t.p ∧ Num w' B m d ys t.q ∧ Below w.heap.size w w'
theorem isBits_zero {k : Nat} (h : isBits k 0) : k = 0 := by
  rcases h.2 with h0 | h0
  · exact h0
  · have : 0 < 2 ^ (k - 1) := Nat.pow_pos (by decide)
    omega
theorem isBits_pos {k a : Nat} (h : isBits k a) (ha : 0 < a) : 0 < k := by
  rcases Nat.eq_zero_or_pos k with h0 | h0
  · subst h0
    have := h.1
    simp at this
    omega
  · exact h0
theorem isZero_yes (A : Option Addr) (n c a : Nat) (xs : List Nat) (w : World) (h : Num w A n c xs a) (hn : n ≤ 1000000) (ha : a = 0) :
    Calls Tryd.prog 40 #[.slice A n c] w fun e w' => e = .returned (.bool true) ∧ w = w' := by
  subst ha
  have C := Lib.hid (bits_any A n c 0 xs w h hn)
  clear h
  go_enter Tryd.func40, Tryd.ntmps40
  go_wp2_with fail
  refine C.out.mono ?_
  rintro e w' ⟨k, rfl, hk, rfl⟩
  obtain rfl := isBits_zero hk
  clear hk
  go_wp2
  go_ret
  exact ⟨rfl, rfl⟩
theorem isZero_no (A : Option Addr) (n c a : Nat) (xs : List Nat) (w : World) (h : Num w A n c xs a) (hn : n ≤ 1000000) (ha : 0 < a) :
    Calls Tryd.prog 40 #[.slice A n c] w fun e w' => e = .returned (.bool false) ∧ w = w' := by
  have C := Lib.hid (bits_any A n c a xs w h hn)
  have HA := Lib.hid ha
  clear h ha
  go_enter Tryd.func40, Tryd.ntmps40
  go_wp2_with fail
  refine C.out.mono ?_
  rintro e w' ⟨k, rfl, hk, rfl⟩
  have hk0 := isBits_pos hk HA.out
  have hz : ((k : Int) == 0) = false := beq_eq_false_iff_ne.2 (by omega)
  clear hk
  go_wp2
  go_ret
  exact ⟨rfl, rfl⟩
theorem isZero_any (A : Option Addr) (n c a : Nat) (xs : List Nat) (w : World) (h : Num w A n c xs a) (hn : n ≤ 1000000) (b : Bool) (hb : decide (a = 0) = b) :
    Calls Tryd.prog 40 #[.slice A n c] w fun e w' => e = .returned (.bool b) ∧ w = w' := by
  subst hb
  by_cases ha : a = 0
  · rw [decide_eq_true ha]; exact isZero_yes A n c a xs w h hn ha
  · rw [decide_eq_false ha]; exact isZero_no A n c a xs w h hn (by omega)
/-- A list of one digit. -/
theorem Num.one {w : World} {A : Option Addr} {c a : Nat} {xs : List Nat} (h : Num w A 1 c xs a) : xs = [a] := by
  have h1 := h.len
  have h2 := h.val
  rcases xs with _ | ⟨x, _ | ⟨y, ys⟩⟩
  · simp at h1
  · simp [dval] at h2; rw [h2]
  · simp at h1
end Go.Proofs.YtbllnkhbahenkaaDoor
namespace Go.Proofs.YtbllnkhbahenkaaDoor
open Go.RowKit
theorem clone_num {A : Option Addr} {n c a : Nat} {xs : List Nat} {w : World} (hx : Num w A n c xs a) (hn : n ≤ 900000) : Calls Tryd.prog 89 #[.slice A n c] w (GivesNum a w) :=
  (clone_any A n c xs w hx.toLst).mono fun e w' ⟨v, he, hO, hb⟩ => by
    obtain ⟨A1, c1, rfl, hN⟩ := hO.numOf (by rw [hx.len]; omega) hx.tight hx.val
    exact ⟨A1, _, c1, xs, he, hN, hb⟩
/-- Block g is a fraction's variable. -/
def FB (w : World) (g : Nat) (s : Bool) (A : Option Addr) (n c : Nat) (B : Option Addr) (m d : Nat) : Prop := w.heap[g]? = some (.cells #[.bool s, .slice A n c, .slice B m d] 38 (0, 0))
section
variable {w w1 : World} {g : Nat} {s : Bool} {A B : Option Addr} {n c m d : Nat}
theorem FB.lt (h : FB w g s A n c B m d) : g < w.heap.size := (Array.getElem?_eq_some_iff.1 h).1
theorem FB.keep (h : FB w g s A n c B m d) (hb : Below w.heap.size w w1) : FB w1 g s A n c B m d := (hb.block g h.lt).trans h
theorem FB.drew (h : FB w g s A n c B m d) : FB w.drew g s A n c B m d := h
theorem FB.drewN (h : FB w g s A n c B m d) (q : Nat) : FB (w.drewN q) g s A n c B m d := h
theorem FB.alloc (h : FB w g s A n c B m d) (o : Obj) : FB (w.alloc o) g s A n c B m d := h.keep ((Below.refl _ _).alloc (Nat.le_refl _) _)
theorem FB.new (w : World) (s : Bool) (A : Option Addr) (n c : Nat) (B : Option Addr) (m d : Nat) : FB (w.alloc (.cells #[.bool s, .slice A n c, .slice B m d] 38)) w.heap.size s A n c B m d := heap_alloc_new w _
theorem FB.facts (h : FB w g s A n c B m d) : w.cell? ⟨g, 0, none⟩ = some (.bool s) ∧ w.cell? ⟨g, 1, none⟩ = some (.slice A n c) ∧ w.cell? ⟨g, 2, none⟩ = some (.slice B m d) ∧ w.frozen? ⟨g, 0, none⟩ = false ∧ w.frozen? ⟨g, 1, none⟩ = false ∧ w.frozen? ⟨g, 2, none⟩ = false := by
  have e : w.heap[g]? = some (.cells #[.bool s, .slice A n c, .slice B m d] 38 (0, 0)) := h
  refine ⟨?_, ?_, ?_, ?_, ?_, ?_⟩
  all_goals first | (rw [cell_of_row w g _ _ _ _ e]; rfl) | simp [World.frozen?, e]
/-- A number's digits lie in no fraction's variable. -/
theorem Num.apart {A' : Option Addr} {k l a : Nat} {xs : List Nat} (h : Num w A' k l xs a) (b : FB w g s A n c B m d) : 0 < k → ∀ ad, A' = some ad → ad.block ≠ g := by
  intro hk ad e he
  obtain ⟨ad', e', _, hc⟩ := h.toLst.at_ hk
  rw [e] at e'
  injection e' with e'
  subst e'
  rw [add_zero_] at hc
  have hb : w.heap[ad.block]? = some (.cells #[.bool s, .slice A n c, .slice B m d] 38 (0, 0)) := by rw [he]; exact b
  unfold World.cell? at hc
  rw [hb] at hc
  simp only at hc
  split at hc
  · cases hc
  · rcases ad with ⟨bl, off, sp⟩
    simp only at hc
    match off with
    | 0 => simp at hc
    | 1 => simp at hc
    | 2 => simp at hc
    | k + 3 => simp at hc
theorem Num.grown {A' : Option Addr} {k l a : Nat} {xs : List Nat} (h : Num w A' k l xs a) (b : FB w g s A n c B m d) (hg : w.grownBy w1 (some g)) : Num w1 A' k l xs a :=
  ⟨h.toLst.off hg (h.apart b), h.tight, h.val⟩
end
/-- A fraction stored into a variable. -/
def stFr (w : World) (g : Nat) (s : Bool) (A : Option Addr) (n c : Nat) (B : Option Addr) (m d : Nat) : World :=
  ((w.setCell ⟨g, 0, none⟩ (.bool s)).setCell ⟨g, 1, none⟩ (.slice A n c)).setCell ⟨g, 2, none⟩ (.slice B m d)
theorem grown_st (w : World) (g : Nat) (s : Bool) (A : Option Addr) (n c : Nat) (B : Option Addr) (m d : Nat) : w.grownBy (stFr w g s A n c B m d) (some g) :=
  grown_trans (grown_trans (grown_set _ _ _ _) (grown_set _ _ _ _)) (grown_set _ _ _ _)
theorem FB.st {w : World} {g : Nat} {z : Bool} {X Y : Option Addr} {x1 x2 y1 y2 : Nat} (h : FB w g z X x1 x2 Y y1 y2) (s : Bool) (A : Option Addr) (n c : Nat) (B : Option Addr) (m d : Nat) : FB (stFr w g s A n c B m d) g s A n c B m d := by
  have e : w.heap[g]? = some (.cells #[.bool z, .slice X x1 x2, .slice Y y1 y2] 38 (0, 0)) := h
  have h1 := heap_setCell_same w g 0 _ _ (.bool s) e
  have h2 := heap_setCell_same _ g 1 _ _ (.slice A n c) h1
  have h3 := heap_setCell_same _ g 2 _ _ (.slice B m d) h2
  unfold FB stFr
  rw [h3]
  rfl
theorem giveFr {W w2 : World} {g : Nat} {t : Fr} {z : Bool} {X Y A B : Option Addr} {x1 x2 y1 y2 n c m d : Nat} {xs ys : List Nat} (hb : Below W.heap.size W w2) (hg : W.heap.size ≤ g) (b : FB w2 g z X x1 x2 Y y1 y2) (N1 : Num w2 A n c xs t.p) (N2 : Num w2 B m d ys t.q) :
    GivesFr t W (.returned (.agg #[.bool t.s, .slice A n c, .slice B m d])) (stFr w2 g t.s A n c B m d) :=
  ⟨A, n, c, xs, B, m, d, ys, rfl, N1.grown b (grown_st _ _ _ _ _ _ _ _ _), N2.grown b (grown_st _ _ _ _ _ _ _ _ _), hb.trans (grown_below (grown_st _ _ _ _ _ _ _ _ _) hg hb.size)⟩
end Go.Proofs.YtbllnkhbahenkaaDoor
namespace Go.Proofs.YtbllnkhbahenkaaDoor
open Go.RowKit
theorem giveFrE {W w2 : World} {g : Nat} {t : Fr} {k : Int} {z : Bool} {X Y A B : Option Addr} {x1 x2 y1 y2 n c m d : Nat} {xs ys : List Nat} (hb : Below W.heap.size W w2) (hg : W.heap.size ≤ g) (b : FB w2 g z X x1 x2 Y y1 y2) (N1 : Num w2 A n c xs t.p) (N2 : Num w2 B m d ys t.q) :
    GivesFrE t k W (.returned (.tuple #[.agg #[.bool t.s, .slice A n c, .slice B m d], .int .i64 k])) (stFr w2 g t.s A n c B m d) :=
  ⟨A, n, c, xs, B, m, d, ys, rfl, N1.grown b (grown_st _ _ _ _ _ _ _ _ _), N2.grown b (grown_st _ _ _ _ _ _ _ _ _), hb.trans (grown_below (grown_st _ _ _ _ _ _ _ _ _) hg hb.size)⟩
theorem GivesFrE.eq {t u : Fr} (h : t = u) {k : Int} {w w' : World} {e : Ending} (g : GivesFrE t k w e w') : GivesFrE u k w e w' := h ▸ g
theorem GivesFr.eq {t u : Fr} (h : t = u) {w w' : World} {e : Ending} (g : GivesFr t w e w') : GivesFr u w e w' := h ▸ g
theorem gcd_pw {a b i : Nat} (ha : a < 4294967296 ^ i) (hb : b < 4294967296 ^ i) : Nat.gcd a b < 4294967296 ^ i := by
  rcases Nat.eq_zero_or_pos a with h | h
  · rw [h, Nat.gcd_zero_left]; exact hb
  · exact pw_le (Nat.gcd_le_left _ h) ha
theorem gcd_pwr {a b j : Nat} (hb : b < 4294967296 ^ j) (h0 : 0 < b) : Nat.gcd a b < 4294967296 ^ j := pw_le (Nat.gcd_le_right _ h0) hb
theorem isZero_s {A : Option Addr} {n c a i : Nat} {xs : List Nat} {w : World} (h : Num w A n c xs a) (ha : a < 4294967296 ^ i) (hi : i ≤ 900000) {b : Bool} (hb : decide (a = 0) = b) :
    Calls Tryd.prog 40 #[.slice A n c] w fun e w' => e = .returned (.bool b) ∧ w = w' := isZero_any A n c a xs w h (h.sh ha (by omega)) b hb
end Go.Proofs.YtbllnkhbahenkaaDoor
namespace Go.Proofs.YtbllnkhbahenkaaDoor
open Go.RowKit
set_option maxRecDepth 100000 in
set_option maxHeartbeats 400000 in
theorem signFr_zero (s : Bool) (A B : Option Addr) (n c m d p i : Nat) (xs : List Nat) (w : World) (hx : Num w A n c xs p) (hp : p < 4294967296 ^ i) (hi : i ≤ 900000) (h0 : p = 0) :
    Calls Tryd.prog 28 #[.agg #[.bool s, .slice A n c, .slice B m d]] w (Gives (.int .i64 (0)) w) := by
  skip
  have b0 := Lib.hid ((Below.refl w.heap.size w).alloc (Nat.le_refl _) (.cells #[.bool s, .slice A n c, .slice B m d] 38))
  have HX := Lib.hid (hx.keep b0.out)
  have HZ := Lib.hid (isZero_s HX.out hp hi (b := true) (by first | exact decide_eq_true (by omega) | exact decide_eq_false (by omega)))
  clear hx hp h0
  go_enter Tryd.func28, Tryd.ntmps28
  go_wp2_with fail
  refine HZ.out.mono ?_
  rintro e w' ⟨rfl, rfl⟩
  go_wp2
  go_ret
  exact ⟨rfl, b0.out⟩
set_option maxRecDepth 100000 in
set_option maxHeartbeats 400000 in
theorem signFr_neg (s : Bool) (A B : Option Addr) (n c m d p i : Nat) (xs : List Nat) (w : World) (hx : Num w A n c xs p) (hp : p < 4294967296 ^ i) (hi : i ≤ 900000) (h0 : 0 < p) (hs : s = true) :
    Calls Tryd.prog 28 #[.agg #[.bool s, .slice A n c, .slice B m d]] w (Gives (.int .i64 (-1)) w) := by
  subst hs
  have b0 := Lib.hid ((Below.refl w.heap.size w).alloc (Nat.le_refl _) (.cells #[.bool true, .slice A n c, .slice B m d] 38))
  have HX := Lib.hid (hx.keep b0.out)
  have HZ := Lib.hid (isZero_s HX.out hp hi (b := false) (by first | exact decide_eq_true (by omega) | exact decide_eq_false (by omega)))
  clear hx hp h0
  go_enter Tryd.func28, Tryd.ntmps28
  go_wp2_with fail
  refine HZ.out.mono ?_
  rintro e w' ⟨rfl, rfl⟩
  go_wp2
  go_ret
  exact ⟨rfl, b0.out⟩
set_option maxRecDepth 100000 in
set_option maxHeartbeats 400000 in
theorem signFr_pos (s : Bool) (A B : Option Addr) (n c m d p i : Nat) (xs : List Nat) (w : World) (hx : Num w A n c xs p) (hp : p < 4294967296 ^ i) (hi : i ≤ 900000) (h0 : 0 < p) (hs : s = false) :
    Calls Tryd.prog 28 #[.agg #[.bool s, .slice A n c, .slice B m d]] w (Gives (.int .i64 (1)) w) := by
  subst hs
  have b0 := Lib.hid ((Below.refl w.heap.size w).alloc (Nat.le_refl _) (.cells #[.bool false, .slice A n c, .slice B m d] 38))
  have HX := Lib.hid (hx.keep b0.out)
  have HZ := Lib.hid (isZero_s HX.out hp hi (b := false) (by first | exact decide_eq_true (by omega) | exact decide_eq_false (by omega)))
  clear hx hp h0
  go_enter Tryd.func28, Tryd.ntmps28
  go_wp2_with fail
  refine HZ.out.mono ?_
  rintro e w' ⟨rfl, rfl⟩
  go_wp2
  go_ret
  exact ⟨rfl, b0.out⟩
def sgn (s : Bool) (p : Nat) : Int := if p = 0 then 0 else if s then -1 else 1
theorem signFr_any (s : Bool) (A B : Option Addr) (n c m d p i : Nat) (xs : List Nat) (w : World) (hx : Num w A n c xs p) (hp : p < 4294967296 ^ i) (hi : i ≤ 900000) :
    Calls Tryd.prog 28 #[.agg #[.bool s, .slice A n c, .slice B m d]] w (Gives (.int .i64 (sgn s p)) w) := by
  unfold sgn
  by_cases h : p = 0
  · rw [if_pos h]; exact signFr_zero s A B n c m d p i xs w hx hp hi h
  · rw [if_neg h]
    cases s
    · exact signFr_pos false A B n c m d p i xs w hx hp hi (by omega) rfl
    · exact signFr_neg true A B n c m d p i xs w hx hp hi (by omega) rfl
end Go.Proofs.YtbllnkhbahenkaaDoor
