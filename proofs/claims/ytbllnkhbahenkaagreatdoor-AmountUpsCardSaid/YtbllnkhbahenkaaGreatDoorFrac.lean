/- Frac, Clone, Make, Opp, joined: no claim of its own. -/
import Derived.Test.YtbllnkhbahenkaaGreatDoorShort
import Derived.Test.YtbllnkhbahenkaaGreatDoorMaths
import Derived.Test.YtbllnkhbahenkaaGreatDoorGcd
import Derived.Test.YtbllnkhbahenkaaGreatDoorBitsN
import Derived.Deep.RegionHeld3
import Derived.BigRegion
namespace Go.Proofs.YtbllnkhbahenkaaGreatDoor
open Go.RowKit
/-- A call hands back the fraction t; nothing that was there has turned. -/
def GivesFr (t : Fr) (w : World) (e : Ending) (w' : World) : Prop :=
  ∃ A n c xs B m d ys, e = .returned (.agg #[.bool t.s, .slice A n c, .slice B m d]) ∧ Num w' A n c xs t.p ∧ Num w' B m d ys t.q ∧ Below w.heap.size w w'
/-- The fraction t and the error k. -/
def GivesFrE (t : Fr) (k : Int) (w : World) (e : Ending) (w' : World) : Prop :=
  ∃ A n c xs B m d ys, e = .returned (.tuple #[.agg #[.bool t.s, .slice A n c, .slice B m d], .int .i64 k]) ∧ Num w' A n c xs t.p ∧ Num w' B m d ys t.q ∧ Below w.heap.size w w'
theorem isBits_zero {k : Nat} (h : isBits k 0) : k = 0 := by
  rcases h.2 with h0 | h0
  · exact h0
  · have : 0 < 2 ^ (k - 1) := Nat.pow_pos (by decide)
    omega
theorem isBits_pos {k a : Nat} (h : isBits k a) (ha : 0 < a) : 0 < k := by
  rcases Nat.eq_zero_or_pos k with h0 | h0
  · subst h0
    have := h.1
    simp at this
    omega
  · exact h0
theorem isZero_yes (A : Option Addr) (n c a : Nat) (xs : List Nat) (w : World) (h : Num w A n c xs a) (hn : n ≤ 1000000) (ha : a = 0) :
    Calls Tryz.prog 48 #[.slice A n c] w fun e w' => e = .returned (.bool true) ∧ w = w' := by
  subst ha
  have C := Lib.hid (bits_any A n c 0 xs w h hn)
  clear h
  go_enter Tryz.func48, Tryz.ntmps48
  go_wp2_with fail
  refine C.out.mono ?_
  rintro e w' ⟨k, rfl, hk, rfl⟩
  obtain rfl := isBits_zero hk
  clear hk
  go_wp2
  go_ret
  exact ⟨rfl, rfl⟩
theorem isZero_no (A : Option Addr) (n c a : Nat) (xs : List Nat) (w : World) (h : Num w A n c xs a) (hn : n ≤ 1000000) (ha : 0 < a) :
    Calls Tryz.prog 48 #[.slice A n c] w fun e w' => e = .returned (.bool false) ∧ w = w' := by
  have C := Lib.hid (bits_any A n c a xs w h hn)
  have HA := Lib.hid ha
  clear h ha
  go_enter Tryz.func48, Tryz.ntmps48
  go_wp2_with fail
  refine C.out.mono ?_
  rintro e w' ⟨k, rfl, hk, rfl⟩
  have hk0 := isBits_pos hk HA.out
  have hz : ((k : Int) == 0) = false := beq_eq_false_iff_ne.2 (by omega)
  clear hk
  go_wp2
  go_ret
  exact ⟨rfl, rfl⟩
theorem isZero_any (A : Option Addr) (n c a : Nat) (xs : List Nat) (w : World) (h : Num w A n c xs a) (hn : n ≤ 1000000) (b : Bool) (hb : decide (a = 0) = b) :
    Calls Tryz.prog 48 #[.slice A n c] w fun e w' => e = .returned (.bool b) ∧ w = w' := by
  subst hb
  by_cases ha : a = 0
  · rw [decide_eq_true ha]; exact isZero_yes A n c a xs w h hn ha
  · rw [decide_eq_false ha]; exact isZero_no A n c a xs w h hn (by omega)
/-- A list of one digit. -/
theorem Num.one {w : World} {A : Option Addr} {c a : Nat} {xs : List Nat} (h : Num w A 1 c xs a) : xs = [a] := by
  have h1 := h.len
  have h2 := h.val
  rcases xs with _ | ⟨x, _ | ⟨y, ys⟩⟩
  · simp at h1
  · simp [dval] at h2; rw [h2]
  · simp at h1
theorem isOne_any (A : Option Addr) (n c a : Nat) (xs : List Nat) (w : World) (h : Num w A n c xs a) (b : Bool) (hb : decide (a = 1) = b) :
    Calls Tryz.prog 55 #[.slice A n c] w fun e w' => e = .returned (.bool b) ∧ w = w' := by
  have hr := h.room
  by_cases h1 : n = 1
  · subst h1
    have hx := h.one
    obtain ⟨ad, rfl, _, hc⟩ := h.toLst.at_ (k := 0) (by omega)
    rw [hx, add_zero_] at hc
    simp only [List.getD_cons_zero] at hc
    have hc1 := h.cap
    have e : ((a : Int) == 1) = b := by
      rw [← hb]
      by_cases h : a = 1
      · subst h; rfl
      · rw [decide_eq_false h]; exact beq_eq_false_iff_ne.2 (by omega)
    clear h hx hb
    go_enter Tryz.func55, Tryz.ntmps55
    go_wp2
    go_ret
    exact ⟨rfl, rfl⟩
  · have e : Hid (b = false) := Lib.hid (by
      rw [← hb]
      refine decide_eq_false fun ha => h1 ?_
      have h2 := h.len_le (k := 1) (by rw [ha]; decide)
      have h3 := h.npos (by omega)
      omega)
    have hz : ((n : Int) == 1) = false := beq_eq_false_iff_ne.2 (by omega)
    clear h hb h1
    go_enter Tryz.func55, Tryz.ntmps55
    go_wp2
    go_ret
    exact ⟨by rw [e.out]; rfl, rfl⟩
/-- Quotient by a divisor; it may be the number itself. -/
theorem quotient_any (A B : Option Addr) (n c m d a b : Nat) (xs ys : List Nat) (w : World) (hx : Num w A n c xs a) (hy : Num w B m d ys b) (hb : 0 < b) (hn : n ≤ 900000) (hm : m ≤ 900000) :
    Calls Tryz.prog 50 #[.slice A n c, .slice B m d] w (GivesNum (a / b) w) := by
  by_cases h1 : b = 1
  · have C := Lib.hid (isOne_any B m d b ys w hy true (decide_eq_true h1))
    have G : Hid (GivesNum (a / b) w (.returned (.slice A n c)) w) := Lib.hid ⟨_, _, _, _, rfl, hx.to (by rw [h1, Nat.div_one]), Below.refl _ _⟩
    clear hx hy h1
    go_enter Tryz.func50, Tryz.ntmps50
    go_wp2_with fail
    refine C.out.mono ?_
    rintro e w' ⟨rfl, rfl⟩
    go_wp2
    go_ret
    exact G.out
  · have C := Lib.hid (isOne_any B m d b ys w hy false (decide_eq_false h1))
    have D := Lib.hid (divMod_any A B n c m d a b xs ys w hx hy (hy.npos hb) hn hm)
    clear hx hy h1
    go_enter Tryz.func50, Tryz.ntmps50
    go_wp2_with fail
    refine C.out.mono ?_
    rintro e w' ⟨rfl, rfl⟩
    go_wp2_with fail
    refine D.out.mono ?_
    rintro e w1 ⟨A1, n1, c1, x1, A2, n2, c2, x2, rfl, hq, hr, hbl⟩
    have G : Hid (GivesNum (a / b) w (.returned (.slice A1 n1 c1)) w1) := Lib.hid ⟨_, _, _, _, rfl, hq, hbl⟩
    clear hq hr hbl C D
    go_wp2
    go_ret
    exact G.out
end Go.Proofs.YtbllnkhbahenkaaGreatDoor
namespace Go.Proofs.YtbllnkhbahenkaaGreatDoor
open Go.RowKit
theorem clone_num {A : Option Addr} {n c a : Nat} {xs : List Nat} {w : World} (hx : Num w A n c xs a) (hn : n ≤ 900000) : Calls Tryz.prog 78 #[.slice A n c] w (GivesNum a w) :=
  (clone_any A n c xs w hx.toLst).mono fun e w' ⟨v, he, hO, hb⟩ => by
    obtain ⟨A1, c1, rfl, hN⟩ := hO.numOf (by rw [hx.len]; omega) hx.tight hx.val
    exact ⟨A1, _, c1, xs, he, hN, hb⟩
/-- Block g is a fraction's variable. -/
def FB (w : World) (g : Nat) (s : Bool) (A : Option Addr) (n c : Nat) (B : Option Addr) (m d : Nat) : Prop := w.heap[g]? = some (.cells #[.bool s, .slice A n c, .slice B m d] 25 (0, 0))
section
variable {w w1 : World} {g : Nat} {s : Bool} {A B : Option Addr} {n c m d : Nat}
theorem FB.lt (h : FB w g s A n c B m d) : g < w.heap.size := (Array.getElem?_eq_some_iff.1 h).1
theorem FB.keep (h : FB w g s A n c B m d) (hb : Below w.heap.size w w1) : FB w1 g s A n c B m d := (hb.block g h.lt).trans h
theorem FB.drew (h : FB w g s A n c B m d) : FB w.drew g s A n c B m d := h
theorem FB.drewN (h : FB w g s A n c B m d) (q : Nat) : FB (w.drewN q) g s A n c B m d := h
theorem FB.alloc (h : FB w g s A n c B m d) (o : Obj) : FB (w.alloc o) g s A n c B m d := h.keep ((Below.refl _ _).alloc (Nat.le_refl _) _)
theorem FB.new (w : World) (s : Bool) (A : Option Addr) (n c : Nat) (B : Option Addr) (m d : Nat) : FB (w.alloc (.cells #[.bool s, .slice A n c, .slice B m d] 25)) w.heap.size s A n c B m d := heap_alloc_new w _
theorem FB.facts (h : FB w g s A n c B m d) : w.cell? ⟨g, 0, none⟩ = some (.bool s) ∧ w.cell? ⟨g, 1, none⟩ = some (.slice A n c) ∧ w.cell? ⟨g, 2, none⟩ = some (.slice B m d) ∧ w.frozen? ⟨g, 0, none⟩ = false ∧ w.frozen? ⟨g, 1, none⟩ = false ∧ w.frozen? ⟨g, 2, none⟩ = false := by
  have e : w.heap[g]? = some (.cells #[.bool s, .slice A n c, .slice B m d] 25 (0, 0)) := h
  refine ⟨?_, ?_, ?_, ?_, ?_, ?_⟩
  all_goals first | (rw [cell_of_row w g _ _ _ _ e]; rfl) | simp [World.frozen?, e]
/-- A number's digits lie in no fraction's variable. -/
theorem Num.apart {A' : Option Addr} {k l a : Nat} {xs : List Nat} (h : Num w A' k l xs a) (b : FB w g s A n c B m d) : 0 < k → ∀ ad, A' = some ad → ad.block ≠ g := by
  intro hk ad e he
  obtain ⟨ad', e', _, hc⟩ := h.toLst.at_ hk
  rw [e] at e'
  injection e' with e'
  subst e'
  rw [add_zero_] at hc
  have hb : w.heap[ad.block]? = some (.cells #[.bool s, .slice A n c, .slice B m d] 25 (0, 0)) := by rw [he]; exact b
  unfold World.cell? at hc
  rw [hb] at hc
  simp only at hc
  split at hc
  · cases hc
  · rcases ad with ⟨bl, off, sp⟩
    simp only at hc
    match off with
    | 0 => simp at hc
    | 1 => simp at hc
    | 2 => simp at hc
    | k + 3 => simp at hc
theorem Num.grown {A' : Option Addr} {k l a : Nat} {xs : List Nat} (h : Num w A' k l xs a) (b : FB w g s A n c B m d) (hg : w.grownBy w1 (some g)) : Num w1 A' k l xs a :=
  ⟨h.toLst.off hg (h.apart b), h.tight, h.val⟩
end
/-- A fraction stored into a variable. -/
def stFr (w : World) (g : Nat) (s : Bool) (A : Option Addr) (n c : Nat) (B : Option Addr) (m d : Nat) : World :=
  ((w.setCell ⟨g, 0, none⟩ (.bool s)).setCell ⟨g, 1, none⟩ (.slice A n c)).setCell ⟨g, 2, none⟩ (.slice B m d)
theorem grown_st (w : World) (g : Nat) (s : Bool) (A : Option Addr) (n c : Nat) (B : Option Addr) (m d : Nat) : w.grownBy (stFr w g s A n c B m d) (some g) :=
  grown_trans (grown_trans (grown_set _ _ _ _) (grown_set _ _ _ _)) (grown_set _ _ _ _)
theorem FB.st {w : World} {g : Nat} {z : Bool} {X Y : Option Addr} {x1 x2 y1 y2 : Nat} (h : FB w g z X x1 x2 Y y1 y2) (s : Bool) (A : Option Addr) (n c : Nat) (B : Option Addr) (m d : Nat) : FB (stFr w g s A n c B m d) g s A n c B m d := by
  have e : w.heap[g]? = some (.cells #[.bool z, .slice X x1 x2, .slice Y y1 y2] 25 (0, 0)) := h
  have h1 := heap_setCell_same w g 0 _ _ (.bool s) e
  have h2 := heap_setCell_same _ g 1 _ _ (.slice A n c) h1
  have h3 := heap_setCell_same _ g 2 _ _ (.slice B m d) h2
  unfold FB stFr
  rw [h3]
  rfl
theorem giveFr {W w2 : World} {g : Nat} {t : Fr} {z : Bool} {X Y A B : Option Addr} {x1 x2 y1 y2 n c m d : Nat} {xs ys : List Nat} (hb : Below W.heap.size W w2) (hg : W.heap.size ≤ g) (b : FB w2 g z X x1 x2 Y y1 y2) (N1 : Num w2 A n c xs t.p) (N2 : Num w2 B m d ys t.q) :
    GivesFr t W (.returned (.agg #[.bool t.s, .slice A n c, .slice B m d])) (stFr w2 g t.s A n c B m d) :=
  ⟨A, n, c, xs, B, m, d, ys, rfl, N1.grown b (grown_st _ _ _ _ _ _ _ _ _), N2.grown b (grown_st _ _ _ _ _ _ _ _ _), hb.trans (grown_below (grown_st _ _ _ _ _ _ _ _ _) hg hb.size)⟩
set_option maxRecDepth 100000 in
set_option maxHeartbeats 1000000 in
theorem cloneFr_any (s : Bool) (A B : Option Addr) (n c m d p q : Nat) (xs ys : List Nat) (w : World) (hx : Num w A n c xs p) (hy : Num w B m d ys q) (hn : n ≤ 900000) (hm : m ≤ 900000) :
    Calls Tryz.prog 46 #[.agg #[.bool s, .slice A n c, .slice B m d]] w (GivesFr ⟨s, p, q⟩ w) := by
  have HX := Lib.hid hx
  have HY := Lib.hid hy
  clear hx hy
  have b0 := Lib.hid ((((Below.refl w.heap.size w).alloc (Nat.le_refl _) (.cells #[.bool s, .slice A n c, .slice B m d] 25)).alloc (by simp) (.cells #[.bool false, .slice none 0 0, .slice none 0 0] 25)).drew)
  have H0 := Lib.hid (((FB.new w s A n c B m d).alloc (.cells #[.bool false, .slice none 0 0, .slice none 0 0] 25)).drew)
  have R0 := Lib.hid ((FB.new (w.alloc (.cells #[.bool s, .slice A n c, .slice B m d] 25)) false none 0 0 none 0 0).drew)
  rw [show (w.alloc (.cells #[.bool s, .slice A n c, .slice B m d] 25)).heap.size = w.heap.size + 1 by simp] at R0
  go_enter Tryz.func46, Tryz.ntmps46
  go_wp2
  go_region_held3 (fun w' => w'.cell? ⟨w.heap.size, 0, none⟩ = some (.bool s) ∧ w'.cell? ⟨w.heap.size, 1, none⟩ = some (.slice A n c) ∧ w'.cell? ⟨w.heap.size, 2, none⟩ = some (.slice B m d)) (go_keep) (first | (go_at_call 78; refine (clone_num (HX.out.keep b0.out) hn).mono ?_; rintro e w1 ⟨A1, n1, c1, x1, rfl, hN1, hb1⟩; have N1 := Lib.hid hN1; have B1 := Lib.hid (b0.out.trans (hb1.mono (by simp; omega))); have H1 := Lib.hid (H0.out.keep hb1); have R1 := Lib.hid (R0.out.keep hb1); obtain ⟨k0, k1, k2, _, _, _⟩ := H1.out.facts; clear hN1 hb1) | (go_at_call 78; refine (clone_num (HY.out.keep B1.out) hm).mono ?_; rintro e w2 ⟨A2, n2, c2, x2, rfl, hN2, hb2⟩; have N2 := Lib.hid hN2; have N1' := Lib.hid (N1.out.keep hb2); have B2 := Lib.hid (B1.out.trans (hb2.mono B1.out.size)); have H2 := Lib.hid (H1.out.keep hb2); have R2 := Lib.hid (R1.out.keep hb2); obtain ⟨j0, j1, j2, _, _, _⟩ := H2.out.facts; obtain ⟨r0, r1, r2, f0, f1, f2⟩ := R2.out.facts; clear hN2 hb2))
  go_wp2
  go_goals
  refine bodyPost_ret (v := .agg #[.bool s, .slice A1 n1 c1, .slice A2 n2 c2]) (by simp [results, Tryz.results46, go_sem, r0, r1, r2]) rfl ?_
  exact giveFr (t := ⟨s, p, q⟩) B2.out (by omega) R2.out N1'.out N2.out
end Go.Proofs.YtbllnkhbahenkaaGreatDoor
namespace Go.Proofs.YtbllnkhbahenkaaGreatDoor
open Go.RowKit
theorem giveFrE {W w2 : World} {g : Nat} {t : Fr} {k : Int} {z : Bool} {X Y A B : Option Addr} {x1 x2 y1 y2 n c m d : Nat} {xs ys : List Nat} (hb : Below W.heap.size W w2) (hg : W.heap.size ≤ g) (b : FB w2 g z X x1 x2 Y y1 y2) (N1 : Num w2 A n c xs t.p) (N2 : Num w2 B m d ys t.q) :
    GivesFrE t k W (.returned (.tuple #[.agg #[.bool t.s, .slice A n c, .slice B m d], .int .i64 k])) (stFr w2 g t.s A n c B m d) :=
  ⟨A, n, c, xs, B, m, d, ys, rfl, N1.grown b (grown_st _ _ _ _ _ _ _ _ _), N2.grown b (grown_st _ _ _ _ _ _ _ _ _), hb.trans (grown_below (grown_st _ _ _ _ _ _ _ _ _) hg hb.size)⟩
theorem GivesFrE.eq {t u : Fr} (h : t = u) {k : Int} {w w' : World} {e : Ending} (g : GivesFrE t k w e w') : GivesFrE u k w e w' := h ▸ g
theorem GivesFr.eq {t u : Fr} (h : t = u) {w w' : World} {e : Ending} (g : GivesFr t w e w') : GivesFr u w e w' := h ▸ g
set_option maxRecDepth 100000 in
set_option maxHeartbeats 400000 in
theorem magnitude_any (z : Int) (h0 : -9223372036854775808 ≤ z) (h1 : z ≤ 9223372036854775807) (w : World) :
    Calls Tryz.prog 44 #[.int .i64 z] w (GivesNum z.natAbs w) := by
  by_cases hz : z < 0
  · obtain ⟨M, hM⟩ : ∃ M, z.natAbs = M := ⟨_, rfl⟩
    have C := Lib.hid (fun w' => fromUint_any M (by omega) w')
    have e1 : IntKind.u64.wrap (-(z + 18446744073709551616)) = (M : Int) := by rw [IntKind.wrap_u64]; omega
    have e2 : IntKind.u64.wrap z = z + 18446744073709551616 := by rw [IntKind.wrap_u64]; omega
    rw [hM]
    clear hM
    go_enter Tryz.func44, Tryz.ntmps44
    go_wp2_with fail
    refine (C.out _).mono ?_
    rintro e w1 ⟨A1, n1, c1, x1, rfl, hn, hb⟩
    have G : Hid (GivesNum M w (.returned (.slice A1 n1 c1)) w1) := Lib.hid ⟨_, _, _, _, rfl, hn, hb⟩
    clear hn hb
    go_wp2
    go_ret
    exact G.out
  · have hz0 : 0 ≤ z := by omega
    have C := Lib.hid (fun w' => fromUint_int z hz0 (by omega) w')
    have e : Hid (z.toNat = z.natAbs) := Lib.hid (by omega)
    go_enter Tryz.func44, Tryz.ntmps44
    go_wp2_with fail
    refine (C.out _).mono ?_
    rintro e w1 ⟨A1, n1, c1, x1, rfl, hn, hb⟩
    have G : Hid (GivesNum z.natAbs w (.returned (.slice A1 n1 c1)) w1) := Lib.hid ⟨_, _, _, _, rfl, hn.to e.out, hb⟩
    clear hn hb
    go_wp2
    go_ret
    exact G.out
theorem quotient_s {A B : Option Addr} {n c m d a b i j : Nat} {xs ys : List Nat} {w : World} (hx : Num w A n c xs a) (hy : Num w B m d ys b) (h0 : 0 < b) (ha : a < 4294967296 ^ i) (hb : b < 4294967296 ^ j) (hi : i ≤ 900000) (hj : j ≤ 900000) :
    Calls Tryz.prog 50 #[.slice A n c, .slice B m d] w (GivesNum (a / b) w) := quotient_any A B n c m d a b xs ys w hx hy h0 (hx.sh ha hi) (hy.sh hb hj)
theorem gcd_s {A B : Option Addr} {n c m d a b i j : Nat} {xs ys : List Nat} {w : World} (hx : Num w A n c xs a) (hy : Num w B m d ys b) (ha : a < 4294967296 ^ i) (hb : b < 4294967296 ^ j) (hi : i ≤ 900000) (hj : j ≤ 900000) :
    Calls Tryz.prog 49 #[.slice A n c, .slice B m d] w (GivesNum (Nat.gcd a b) w) := gcd_any A B n c m d a b xs ys w hx hy (hx.sh ha hi) (hy.sh hb hj)
theorem gcd_pw {a b i : Nat} (ha : a < 4294967296 ^ i) (hb : b < 4294967296 ^ i) : Nat.gcd a b < 4294967296 ^ i := by
  rcases Nat.eq_zero_or_pos a with h | h
  · rw [h, Nat.gcd_zero_left]; exact hb
  · exact pw_le (Nat.gcd_le_left _ h) ha
theorem gcd_pwr {a b j : Nat} (hb : b < 4294967296 ^ j) (h0 : 0 < b) : Nat.gcd a b < 4294967296 ^ j := pw_le (Nat.gcd_le_right _ h0) hb
theorem isZero_s {A : Option Addr} {n c a i : Nat} {xs : List Nat} {w : World} (h : Num w A n c xs a) (ha : a < 4294967296 ^ i) (hi : i ≤ 900000) {b : Bool} (hb : decide (a = 0) = b) :
    Calls Tryz.prog 48 #[.slice A n c] w fun e w' => e = .returned (.bool b) ∧ w = w' := isZero_any A n c a xs w h (h.sh ha (by omega)) b hb
theorem cloneFr_s {s : Bool} {A B : Option Addr} {n c m d p q i j : Nat} {xs ys : List Nat} {w : World} (hx : Num w A n c xs p) (hy : Num w B m d ys q) (hp : p < 4294967296 ^ i) (hq : q < 4294967296 ^ j) (hi : i ≤ 900000) (hj : j ≤ 900000) :
    Calls Tryz.prog 46 #[.agg #[.bool s, .slice A n c, .slice B m d]] w (GivesFr ⟨s, p, q⟩ w) := cloneFr_any s A B n c m d p q xs ys w hx hy (hx.sh hp hi) (hy.sh hq hj)
set_option maxRecDepth 100000 in
set_option maxHeartbeats 1000000 in
theorem make_false (A B : Option Addr) (n c m d p q : Nat) (xs ys : List Nat) (w : World) (hx : Num w A n c xs p) (hy : Num w B m d ys q) (hq : 0 < q) (hn : n ≤ 900000) (hm : m ≤ 900000) :
    Calls Tryz.prog 43 #[.bool false, .slice A n c, .slice B m d] w (GivesFrE (Fr.mk' false p q) 0 w) := by
  have hp1 := Lib.hid hx.lt_pow
  have hq1 := Lib.hid hy.lt_pow
  have HQ := Lib.hid hq
  have b0 := (Below.refl w.heap.size w).alloc (Nat.le_refl _) (.cells #[.bool false, .slice none 0 0, .slice none 0 0] 25)
  have P0 := Lib.hid (hx.keep b0)
  have Q0 := Lib.hid (hy.keep b0)
  have R0 := Lib.hid (FB.new w false none 0 0 none 0 0)
  have B0 := Lib.hid b0
  have G0 := Lib.hid (Nat.gcd_pos_of_pos_right p hq)
  have gq := Lib.hid (gcd_pwr (a := p) hy.lt_pow hq)
  obtain ⟨zb, hzb⟩ : ∃ zb, decide (p = 0) = zb := ⟨_, rfl⟩
  have HZ := Lib.hid hzb
  have sgn : Hid ((Fr.mk' false p q).s = false) := Lib.hid (by
    simp only [Fr.mk']
    rfl)
  have z1 : Hid (decide (q = 0) = false) := Lib.hid (decide_eq_false (by omega))
  have l1 := Lib.hid (pw_le (Nat.div_le_self p (Nat.gcd p q)) hx.lt_pow)
  have l2 := Lib.hid (pw_le (Nat.div_le_self q (Nat.gcd p q)) hy.lt_pow)
  clear hx hy hq b0 hzb
  go_enter Tryz.func43, Tryz.ntmps43
  go_wp2_with fail
  refine (isZero_s Q0.out hq1.out hm z1.out).mono ?_
  rintro e w' ⟨rfl, rfl⟩
  go_wp2_with fail
  refine (gcd_s P0.out Q0.out hp1.out hq1.out hn hm).mono ?_
  rintro e w1 ⟨A1, n1, c1, x1, rfl, hN, hb⟩
  have C1 := Lib.hid hN
  have P1 := Lib.hid (P0.out.keep hb)
  have Q1 := Lib.hid (Q0.out.keep hb)
  have R1 := Lib.hid (R0.out.keep hb)
  have B1 := Lib.hid (B0.out.trans (hb.mono B0.out.size))
  clear hN hb P0 Q0 R0 B0
  go_wp2_with fail
  refine (quotient_s P1.out C1.out G0.out hp1.out gq.out hn hm).mono ?_
  rintro e w2 ⟨A2, n2, c2, x2, rfl, hN, hb⟩
  have X2 := Lib.hid hN
  have C2 := Lib.hid (C1.out.keep hb)
  have Q2 := Lib.hid (Q1.out.keep hb)
  have R2 := Lib.hid (R1.out.keep hb)
  have B2 := Lib.hid (B1.out.trans (hb.mono B1.out.size))
  clear hN hb P1 Q1 R1 B1 C1
  go_wp2_with fail
  refine (quotient_s Q2.out C2.out G0.out hq1.out gq.out hm hm).mono ?_
  rintro e w3 ⟨A3, n3, c3, x3, rfl, hN, hb⟩
  have Y3 := Lib.hid hN
  have X3 := Lib.hid (X2.out.keep hb)
  have R3 := Lib.hid (R2.out.keep hb)
  have B3 := Lib.hid (B2.out.trans (hb.mono B2.out.size))
  clear hN hb C2 Q2 R2 B2 X2
  have TE : Hid ((⟨false, p / Nat.gcd p q, q / Nat.gcd p q⟩ : Fr) = Fr.mk' false p q) := Lib.hid (by rw [← sgn.out]; rfl)
  have ba := (Below.refl w3.heap.size w3).alloc (Nat.le_refl _) (.cells #[.bool false, .slice A2 n2 c2, .slice A3 n3 c3] 25)
  have CL := Lib.hid (cloneFr_s (s := false) (X3.out.keep ba) (Y3.out.keep ba) l1.out l2.out hn hm)
  have R4 := Lib.hid (R3.out.keep ba)
  have B4 := Lib.hid (B3.out.trans (ba.mono B3.out.size))
  clear X3 Y3 R3 B3 ba sgn
  go_wp2_with fail
  refine CL.out.mono ?_
  rintro e w4 ⟨A4, n4, c4, x4, A5, n5, c5, x5, rfl, hN4, hN5, hb⟩
  have N4 := Lib.hid hN4
  have N5 := Lib.hid hN5
  have R5 := Lib.hid (R4.out.keep hb)
  have B5 := Lib.hid (B4.out.trans (hb.mono B4.out.size))
  obtain ⟨r0, r1, r2, f0, f1, f2⟩ := R5.out.facts
  clear hN4 hN5 hb R4 B4 CL
  go_wp2
  refine bodyPost_ret (v := .tuple #[.agg #[.bool false, .slice A4 n4 c4, .slice A5 n5 c5], .int .i64 0]) (by simp [results, Tryz.results43, go_sem, r0, r1, r2]) rfl ?_
  refine GivesFrE.eq TE.out ?_
  exact giveFrE (t := ⟨false, _, _⟩) B5.out (Nat.le_refl _) R5.out N4.out N5.out
set_option maxRecDepth 100000 in
set_option maxHeartbeats 1000000 in
theorem make_true (A B : Option Addr) (n c m d p q : Nat) (xs ys : List Nat) (w : World) (hx : Num w A n c xs p) (hy : Num w B m d ys q) (hq : 0 < q) (hn : n ≤ 900000) (hm : m ≤ 900000) :
    Calls Tryz.prog 43 #[.bool true, .slice A n c, .slice B m d] w (GivesFrE (Fr.mk' true p q) 0 w) := by
  have hp1 := Lib.hid hx.lt_pow
  have hq1 := Lib.hid hy.lt_pow
  have HQ := Lib.hid hq
  have b0 := (Below.refl w.heap.size w).alloc (Nat.le_refl _) (.cells #[.bool false, .slice none 0 0, .slice none 0 0] 25)
  have P0 := Lib.hid (hx.keep b0)
  have Q0 := Lib.hid (hy.keep b0)
  have R0 := Lib.hid (FB.new w false none 0 0 none 0 0)
  have B0 := Lib.hid b0
  have G0 := Lib.hid (Nat.gcd_pos_of_pos_right p hq)
  have gq := Lib.hid (gcd_pwr (a := p) hy.lt_pow hq)
  obtain ⟨zb, hzb⟩ : ∃ zb, decide (p = 0) = zb := ⟨_, rfl⟩
  have HZ := Lib.hid hzb
  have sgn : Hid ((Fr.mk' true p q).s = !zb) := Lib.hid (by
    simp only [Fr.mk']
    rw [← hzb]; by_cases h : p = 0 <;> simp [h]; omega)
  have z1 : Hid (decide (q = 0) = false) := Lib.hid (decide_eq_false (by omega))
  have l1 := Lib.hid (pw_le (Nat.div_le_self p (Nat.gcd p q)) hx.lt_pow)
  have l2 := Lib.hid (pw_le (Nat.div_le_self q (Nat.gcd p q)) hy.lt_pow)
  clear hx hy hq b0 hzb
  go_enter Tryz.func43, Tryz.ntmps43
  go_wp2_with fail
  refine (isZero_s Q0.out hq1.out hm z1.out).mono ?_
  rintro e w' ⟨rfl, rfl⟩
  go_wp2_with fail
  refine (gcd_s P0.out Q0.out hp1.out hq1.out hn hm).mono ?_
  rintro e w1 ⟨A1, n1, c1, x1, rfl, hN, hb⟩
  have C1 := Lib.hid hN
  have P1 := Lib.hid (P0.out.keep hb)
  have Q1 := Lib.hid (Q0.out.keep hb)
  have R1 := Lib.hid (R0.out.keep hb)
  have B1 := Lib.hid (B0.out.trans (hb.mono B0.out.size))
  clear hN hb P0 Q0 R0 B0
  go_wp2_with fail
  refine (isZero_s P1.out hp1.out hn HZ.out).mono ?_
  rintro e w' ⟨rfl, rfl⟩
  go_wp2_with fail
  refine (quotient_s P1.out C1.out G0.out hp1.out gq.out hn hm).mono ?_
  rintro e w2 ⟨A2, n2, c2, x2, rfl, hN, hb⟩
  have X2 := Lib.hid hN
  have C2 := Lib.hid (C1.out.keep hb)
  have Q2 := Lib.hid (Q1.out.keep hb)
  have R2 := Lib.hid (R1.out.keep hb)
  have B2 := Lib.hid (B1.out.trans (hb.mono B1.out.size))
  clear hN hb P1 Q1 R1 B1 C1
  go_wp2_with fail
  refine (quotient_s Q2.out C2.out G0.out hq1.out gq.out hm hm).mono ?_
  rintro e w3 ⟨A3, n3, c3, x3, rfl, hN, hb⟩
  have Y3 := Lib.hid hN
  have X3 := Lib.hid (X2.out.keep hb)
  have R3 := Lib.hid (R2.out.keep hb)
  have B3 := Lib.hid (B2.out.trans (hb.mono B2.out.size))
  clear hN hb C2 Q2 R2 B2 X2
  have TE : Hid ((⟨(!zb), p / Nat.gcd p q, q / Nat.gcd p q⟩ : Fr) = Fr.mk' true p q) := Lib.hid (by rw [← sgn.out]; rfl)
  have ba := (Below.refl w3.heap.size w3).alloc (Nat.le_refl _) (.cells #[.bool (!zb), .slice A2 n2 c2, .slice A3 n3 c3] 25)
  have CL := Lib.hid (cloneFr_s (s := (!zb)) (X3.out.keep ba) (Y3.out.keep ba) l1.out l2.out hn hm)
  have R4 := Lib.hid (R3.out.keep ba)
  have B4 := Lib.hid (B3.out.trans (ba.mono B3.out.size))
  clear X3 Y3 R3 B3 ba sgn
  go_wp2_with fail
  refine CL.out.mono ?_
  rintro e w4 ⟨A4, n4, c4, x4, A5, n5, c5, x5, rfl, hN4, hN5, hb⟩
  have N4 := Lib.hid hN4
  have N5 := Lib.hid hN5
  have R5 := Lib.hid (R4.out.keep hb)
  have B5 := Lib.hid (B4.out.trans (hb.mono B4.out.size))
  obtain ⟨r0, r1, r2, f0, f1, f2⟩ := R5.out.facts
  clear hN4 hN5 hb R4 B4 CL
  go_wp2
  refine bodyPost_ret (v := .tuple #[.agg #[.bool (!zb), .slice A4 n4 c4, .slice A5 n5 c5], .int .i64 0]) (by simp [results, Tryz.results43, go_sem, r0, r1, r2]) rfl ?_
  refine GivesFrE.eq TE.out ?_
  exact giveFrE (t := ⟨(!zb), _, _⟩) B5.out (Nat.le_refl _) R5.out N4.out N5.out
/-- A fraction in lowest terms. -/
theorem make_any (s : Bool) (A B : Option Addr) (n c m d p q : Nat) (xs ys : List Nat) (w : World) (hx : Num w A n c xs p) (hy : Num w B m d ys q) (hq : 0 < q) (hn : n ≤ 900000) (hm : m ≤ 900000) :
    Calls Tryz.prog 43 #[.bool s, .slice A n c, .slice B m d] w (GivesFrE (Fr.mk' s p q) 0 w) := by
  cases s
  · exact make_false A B n c m d p q xs ys w hx hy hq hn hm
  · exact make_true A B n c m d p q xs ys w hx hy hq hn hm
set_option maxRecDepth 100000 in
set_option maxHeartbeats 400000 in
theorem make_zero (s : Bool) (A B : Option Addr) (n c m d : Nat) (ys : List Nat) (w : World) (hy : Num w B m d ys 0) :
    Calls Tryz.prog 43 #[.bool s, .slice A n c, .slice B m d] w (GivesFrE ⟨false, 0, 0⟩ 8 w) := by
  have b0 := (Below.refl w.heap.size w).alloc (Nat.le_refl _) (.cells #[.bool false, .slice none 0 0, .slice none 0 0] 25)
  have Q0 := Lib.hid (hy.keep b0)
  have R0 := Lib.hid (FB.new w false none 0 0 none 0 0)
  have B0 := Lib.hid b0
  have z1 : Hid (decide ((0 : Nat) = 0) = true) := Lib.hid rfl
  have hm : Hid (m = 0) := Lib.hid hy.nzero
  clear hy b0
  go_enter Tryz.func43, Tryz.ntmps43
  go_wp2_with fail
  refine (isZero_s (i := 1) Q0.out (by decide) (by decide) z1.out).mono ?_
  rintro e w' ⟨rfl, rfl⟩
  obtain ⟨r0, r1, r2, f0, f1, f2⟩ := R0.out.facts
  go_wp2
  refine bodyPost_ret (v := .tuple #[.agg #[.bool false, .slice none 0 0, .slice none 0 0], .int .i64 8]) (by simp [results, Tryz.results43, go_sem]) rfl ?_
  first
    | exact ⟨_, _, _, _, _, _, _, _, rfl, Num.zero _, Num.zero _, B0.out⟩
    | exact giveFrE (t := ⟨false, 0, 0⟩) B0.out (Nat.le_refl _) R0.out (Num.zero _) (Num.zero _)
set_option maxRecDepth 100000 in
set_option maxHeartbeats 1000000 in
theorem new_any (a b : Int) (ha0 : -9223372036854775808 ≤ a) (ha1 : a ≤ 9223372036854775807) (hb0 : -9223372036854775808 ≤ b) (hb1 : b ≤ 9223372036854775807) (hb : b ≠ 0) (w : World) (s t : Bool) (hs : decide (a < 0) = s) (ht : decide (b < 0) = t) :
    Calls Tryz.prog 18 #[.int .i64 a, .int .i64 b] w (GivesFrE (Fr.mk' (s != t) a.natAbs b.natAbs) 0 w) := by
  have b0 := (Below.refl w.heap.size w).alloc (Nat.le_refl _) (.cells #[.bool false, .slice none 0 0, .slice none 0 0] 25)
  have R0 := Lib.hid (FB.new w false none 0 0 none 0 0)
  have B0 := Lib.hid b0
  have M1 := Lib.hid (fun w' => magnitude_any a ha0 ha1 w')
  have M2 := Lib.hid (fun w' => magnitude_any b hb0 hb1 w')
  have pa : Hid (a.natAbs < 4294967296 ^ 2) := Lib.hid (by have : (4294967296 : Nat) ^ 2 = 18446744073709551616 := by decide
                                                           omega)
  have pb : Hid (b.natAbs < 4294967296 ^ 2) := Lib.hid (by have : (4294967296 : Nat) ^ 2 = 18446744073709551616 := by decide
                                                           omega)
  have hbp : Hid (0 < b.natAbs) := Lib.hid (by omega)
  clear b0 hb
  generalize a.natAbs = p at *
  generalize b.natAbs = q at *
  go_enter Tryz.func18, Tryz.ntmps18
  go_wp2_with fail
  refine (M1.out _).mono ?_
  rintro e w1 ⟨A1, n1, c1, x1, rfl, hN, hb⟩
  have X1 := Lib.hid hN
  have R1 := Lib.hid (R0.out.keep hb)
  have B1 := Lib.hid (B0.out.trans (hb.mono B0.out.size))
  clear hN hb R0 B0
  go_wp2_with fail
  refine (M2.out _).mono ?_
  rintro e w2 ⟨A2, n2, c2, x2, rfl, hN, hb⟩
  have Y2 := Lib.hid hN
  have X2 := Lib.hid (X1.out.keep hb)
  have R2 := Lib.hid (R1.out.keep hb)
  have B2 := Lib.hid (B1.out.trans (hb.mono B1.out.size))
  clear hN hb R1 B1 X1
  have MK := Lib.hid (make_any (s != t) A1 A2 n1 c1 n2 c2 p q x1 x2 w2 X2.out Y2.out hbp.out (X2.out.sh pa.out (by decide)) (Y2.out.sh pb.out (by decide)))
  go_wp2_with fail
  refine MK.out.mono ?_
  rintro e w4 ⟨A4, n4, c4, x4, A5, n5, c5, x5, rfl, hN4, hN5, hb⟩
  have N4 := Lib.hid hN4
  have N5 := Lib.hid hN5
  have R5 := Lib.hid (R2.out.keep hb)
  have B5 := Lib.hid (B2.out.trans (hb.mono B2.out.size))
  obtain ⟨r0, r1, r2, f0, f1, f2⟩ := R5.out.facts
  obtain ⟨z, hz⟩ : ∃ z, (Fr.mk' (s != t) p q).s = z := ⟨_, rfl⟩
  have HZ := Lib.hid hz
  rw [hz]
  clear hN4 hN5 hb R2 B2 MK hz
  go_wp2
  refine bodyPost_ret (v := .tuple #[.agg #[.bool z, .slice A4 n4 c4, .slice A5 n5 c5], .int .i64 0]) (by simp [results, Tryz.results18, go_sem, r0, r1, r2]) rfl ?_
  have G := giveFrE (t := Fr.mk' (s != t) p q) (k := 0) B5.out (Nat.le_refl _) R5.out N4.out N5.out
  rw [HZ.out] at G
  exact G
end Go.Proofs.YtbllnkhbahenkaaGreatDoor
namespace Go.Proofs.YtbllnkhbahenkaaGreatDoor
open Go.RowKit
set_option maxRecDepth 100000 in
set_option maxHeartbeats 1000000 in
theorem opp_false (A B : Option Addr) (n c m d p q : Nat) (xs ys : List Nat) (w : World) (hx : Num w A n c xs p) (hy : Num w B m d ys q) (hn : n ≤ 900000) (zb : Bool) (hzb : decide (p = 0) = zb) :
    Calls Tryz.prog 47 #[.agg #[.bool false, .slice A n c, .slice B m d]] w (GivesFr ⟨!zb, p, q⟩ w) := by
  have b0 := Lib.hid ((((Below.refl w.heap.size w).alloc (Nat.le_refl _) (.cells #[.bool false, .slice A n c, .slice B m d] 25)).alloc (by simp) (.cells #[.bool false, .slice none 0 0, .slice none 0 0] 25)).drew)
  have KX := Lib.hid hx
  have KY := Lib.hid hy
  have HX := Lib.hid (hx.keep b0.out)
  have HY := Lib.hid (hy.keep b0.out)
  have H0 := Lib.hid (((FB.new w false A n c B m d).alloc (.cells #[.bool false, .slice none 0 0, .slice none 0 0] 25)).drew)
  have R0 := Lib.hid ((FB.new (w.alloc (.cells #[.bool false, .slice A n c, .slice B m d] 25)) false none 0 0 none 0 0).drew)
  rw [show (w.alloc (.cells #[.bool false, .slice A n c, .slice B m d] 25)).heap.size = w.heap.size + 1 by simp] at R0
  have HZ := Lib.hid (isZero_any A n c p xs _ HX.out (by omega) zb hzb)
  obtain ⟨r0, r1, r2, f0, f1, f2⟩ := R0.out.facts
  clear hx hy hzb
  go_enter Tryz.func47, Tryz.ntmps47
  go_wp2
  go_region_held3 (fun w' => w'.cell? ⟨w.heap.size, 0, none⟩ = some (.bool false) ∧ w'.cell? ⟨w.heap.size, 1, none⟩ = some (.slice A n c) ∧ w'.cell? ⟨w.heap.size, 2, none⟩ = some (.slice B m d)) (go_keep) (first | (go_at_call 48; refine HZ.out.mono ?_; rintro e w' ⟨rfl, rfl⟩))
  go_wp2
  refine bodyPost_ret (v := .agg #[.bool (!zb), .slice A n c, .slice B m d]) (by simp [results, Tryz.results47, go_sem]) rfl ?_
  have bb := (((Below.refl w.heap.size w).alloc (Nat.le_refl _) (.cells #[.bool false, .slice A n c, .slice B m d] 25)).alloc (by simp) (.cells #[.bool (!zb), .slice A n c, .slice B m d] 25)).drew
  exact ⟨_, _, _, _, _, _, _, _, rfl, KX.out.keep bb, KY.out.keep bb, bb⟩
set_option maxRecDepth 100000 in
set_option maxHeartbeats 1000000 in
theorem opp_true (A B : Option Addr) (n c m d p q : Nat) (xs ys : List Nat) (w : World) (hx : Num w A n c xs p) (hy : Num w B m d ys q) (_hn : n ≤ 900000)  :
    Calls Tryz.prog 47 #[.agg #[.bool true, .slice A n c, .slice B m d]] w (GivesFr ⟨false, p, q⟩ w) := by
  have b0 := Lib.hid ((((Below.refl w.heap.size w).alloc (Nat.le_refl _) (.cells #[.bool true, .slice A n c, .slice B m d] 25)).alloc (by simp) (.cells #[.bool false, .slice none 0 0, .slice none 0 0] 25)).drew)
  have KX := Lib.hid hx
  have KY := Lib.hid hy
  have HX := Lib.hid (hx.keep b0.out)
  have HY := Lib.hid (hy.keep b0.out)
  have H0 := Lib.hid (((FB.new w true A n c B m d).alloc (.cells #[.bool false, .slice none 0 0, .slice none 0 0] 25)).drew)
  have R0 := Lib.hid ((FB.new (w.alloc (.cells #[.bool true, .slice A n c, .slice B m d] 25)) false none 0 0 none 0 0).drew)
  rw [show (w.alloc (.cells #[.bool true, .slice A n c, .slice B m d] 25)).heap.size = w.heap.size + 1 by simp] at R0
  obtain ⟨r0, r1, r2, f0, f1, f2⟩ := R0.out.facts
  clear hx hy
  go_enter Tryz.func47, Tryz.ntmps47
  go_wp2
  go_big_region
  go_wp2
  refine bodyPost_ret (v := .agg #[.bool false, .slice A n c, .slice B m d]) (by simp [results, Tryz.results47, go_sem]) rfl ?_
  have bb := (((Below.refl w.heap.size w).alloc (Nat.le_refl _) (.cells #[.bool true, .slice A n c, .slice B m d] 25)).alloc (by simp) (.cells #[.bool false, .slice A n c, .slice B m d] 25)).drew
  exact ⟨_, _, _, _, _, _, _, _, rfl, KX.out.keep bb, KY.out.keep bb, bb⟩
theorem opp_any (s : Bool) (A B : Option Addr) (n c m d p q : Nat) (xs ys : List Nat) (w : World) (hx : Num w A n c xs p) (hy : Num w B m d ys q) (hn : n ≤ 900000) :
    Calls Tryz.prog 47 #[.agg #[.bool s, .slice A n c, .slice B m d]] w (GivesFr (Fr.neg ⟨s, p, q⟩) w) := by
  cases s
  · have e : (⟨!decide (p = 0), p, q⟩ : Fr) = Fr.neg ⟨false, p, q⟩ := by
      unfold Fr.neg
      have : (!decide (p = 0)) = (!false && decide (0 < p)) := by
        by_cases h : p = 0
        · subst h; rfl
        · rw [decide_eq_false h, decide_eq_true (by omega)]; rfl
      rw [this]
    exact (opp_false A B n c m d p q xs ys w hx hy hn _ rfl).mono fun _ _ h => GivesFr.eq e h
  · exact opp_true A B n c m d p q xs ys w hx hy hn
set_option maxRecDepth 100000 in
set_option maxHeartbeats 1000000 in
theorem negFr_any (s : Bool) (A B : Option Addr) (n c m d p q i : Nat) (xs ys : List Nat) (w : World) (hx : Num w A n c xs p) (hy : Num w B m d ys q) (hp : p < 4294967296 ^ i) (hq : q < 4294967296 ^ i) (hi : i ≤ 900000) :
    Calls Tryz.prog 20 #[.agg #[.bool s, .slice A n c, .slice B m d]] w (GivesFr (Fr.neg ⟨s, p, q⟩) w) := by
  have B0 := Lib.hid (((Below.refl w.heap.size w).alloc (Nat.le_refl _) (.cells #[.bool s, .slice A n c, .slice B m d] 25)).alloc (by simp) (.cells #[.bool false, .slice none 0 0, .slice none 0 0] 25))
  have X0 := Lib.hid (hx.keep B0.out)
  have Y0 := Lib.hid (hy.keep B0.out)
  have HP := Lib.hid hp
  have HQ := Lib.hid hq
  have hn : Hid (n ≤ 900000) := Lib.hid (hx.sh hp hi)
  have R0 := Lib.hid (FB.new (w.alloc (.cells #[.bool s, .slice A n c, .slice B m d] 25)) false none 0 0 none 0 0)
  rw [show (w.alloc (.cells #[.bool s, .slice A n c, .slice B m d] 25)).heap.size = w.heap.size + 1 by simp] at R0
  obtain ⟨z, hz⟩ : ∃ z, (Fr.neg ⟨s, p, q⟩).s = z := ⟨_, rfl⟩
  have OP := Lib.hid (opp_any s A B n c m d p q xs ys _ X0.out Y0.out hn.out)
  have TE : Hid ((⟨z, p, q⟩ : Fr) = Fr.neg ⟨s, p, q⟩) := Lib.hid (by rw [← hz]; rfl)
  rw [← TE.out] at OP
  clear hx hy hp hq hz
  go_enter Tryz.func20, Tryz.ntmps20
  go_wp2_with fail
  refine (OP.out).mono ?_
  rintro e w1 ⟨AU, nU, cU, xU, AV, nV, cV, xV, rfl, hn, hn', hb⟩
  have U1 := Lib.hid (hn)
  have V1 := Lib.hid (hn')
  have R1 := Lib.hid (R0.out.keep hb)
  have B1 := Lib.hid (B0.out.trans (hb.mono B0.out.size))
  clear hb B0 X0 Y0 R0 hn hn'
  go_wp2_with fail
  refine (cloneFr_s U1.out V1.out HP.out HQ.out hi hi).mono ?_
  rintro e w2 ⟨AP, nP, cP, xP, AQ, nQ, cQ, xQ, rfl, hn, hn', hb⟩
  have P2 := Lib.hid (hn)
  have Q2 := Lib.hid (hn')
  have R2 := Lib.hid (R1.out.keep hb)
  have B2 := Lib.hid (B1.out.trans (hb.mono B1.out.size))
  clear hb B1 R1 U1 V1 hn hn'
  obtain ⟨Ra, Rb, Rc, Rd, Re, Rf⟩ := R2.out.facts
  go_wp2
  refine bodyPost_ret (v := .agg #[.bool z, .slice AP nP cP, .slice AQ nQ cQ]) (by simp [results, Tryz.results20, go_sem, Ra, Rb, Rc]) rfl ?_
  refine GivesFr.eq TE.out ?_
  exact giveFr (t := ⟨z, p, q⟩) B2.out (by omega) R2.out P2.out Q2.out
set_option maxRecDepth 100000 in
set_option maxHeartbeats 400000 in
theorem signFr_zero (s : Bool) (A B : Option Addr) (n c m d p i : Nat) (xs : List Nat) (w : World) (hx : Num w A n c xs p) (hp : p < 4294967296 ^ i) (hi : i ≤ 900000) (h0 : p = 0) :
    Calls Tryz.prog 38 #[.agg #[.bool s, .slice A n c, .slice B m d]] w (Gives (.int .i64 (0)) w) := by
  skip
  have b0 := Lib.hid ((Below.refl w.heap.size w).alloc (Nat.le_refl _) (.cells #[.bool s, .slice A n c, .slice B m d] 25))
  have HX := Lib.hid (hx.keep b0.out)
  have HZ := Lib.hid (isZero_s HX.out hp hi (b := true) (by first | exact decide_eq_true (by omega) | exact decide_eq_false (by omega)))
  clear hx hp h0
  go_enter Tryz.func38, Tryz.ntmps38
  go_wp2_with fail
  refine HZ.out.mono ?_
  rintro e w' ⟨rfl, rfl⟩
  go_wp2
  go_ret
  exact ⟨rfl, b0.out⟩
set_option maxRecDepth 100000 in
set_option maxHeartbeats 400000 in
theorem signFr_neg (s : Bool) (A B : Option Addr) (n c m d p i : Nat) (xs : List Nat) (w : World) (hx : Num w A n c xs p) (hp : p < 4294967296 ^ i) (hi : i ≤ 900000) (h0 : 0 < p) (hs : s = true) :
    Calls Tryz.prog 38 #[.agg #[.bool s, .slice A n c, .slice B m d]] w (Gives (.int .i64 (-1)) w) := by
  subst hs
  have b0 := Lib.hid ((Below.refl w.heap.size w).alloc (Nat.le_refl _) (.cells #[.bool true, .slice A n c, .slice B m d] 25))
  have HX := Lib.hid (hx.keep b0.out)
  have HZ := Lib.hid (isZero_s HX.out hp hi (b := false) (by first | exact decide_eq_true (by omega) | exact decide_eq_false (by omega)))
  clear hx hp h0
  go_enter Tryz.func38, Tryz.ntmps38
  go_wp2_with fail
  refine HZ.out.mono ?_
  rintro e w' ⟨rfl, rfl⟩
  go_wp2
  go_ret
  exact ⟨rfl, b0.out⟩
set_option maxRecDepth 100000 in
set_option maxHeartbeats 400000 in
theorem signFr_pos (s : Bool) (A B : Option Addr) (n c m d p i : Nat) (xs : List Nat) (w : World) (hx : Num w A n c xs p) (hp : p < 4294967296 ^ i) (hi : i ≤ 900000) (h0 : 0 < p) (hs : s = false) :
    Calls Tryz.prog 38 #[.agg #[.bool s, .slice A n c, .slice B m d]] w (Gives (.int .i64 (1)) w) := by
  subst hs
  have b0 := Lib.hid ((Below.refl w.heap.size w).alloc (Nat.le_refl _) (.cells #[.bool false, .slice A n c, .slice B m d] 25))
  have HX := Lib.hid (hx.keep b0.out)
  have HZ := Lib.hid (isZero_s HX.out hp hi (b := false) (by first | exact decide_eq_true (by omega) | exact decide_eq_false (by omega)))
  clear hx hp h0
  go_enter Tryz.func38, Tryz.ntmps38
  go_wp2_with fail
  refine HZ.out.mono ?_
  rintro e w' ⟨rfl, rfl⟩
  go_wp2
  go_ret
  exact ⟨rfl, b0.out⟩
def sgn (s : Bool) (p : Nat) : Int := if p = 0 then 0 else if s then -1 else 1
theorem signFr_any (s : Bool) (A B : Option Addr) (n c m d p i : Nat) (xs : List Nat) (w : World) (hx : Num w A n c xs p) (hp : p < 4294967296 ^ i) (hi : i ≤ 900000) :
    Calls Tryz.prog 38 #[.agg #[.bool s, .slice A n c, .slice B m d]] w (Gives (.int .i64 (sgn s p)) w) := by
  unfold sgn
  by_cases h : p = 0
  · rw [if_pos h]; exact signFr_zero s A B n c m d p i xs w hx hp hi h
  · rw [if_neg h]
    cases s
    · exact signFr_pos false A B n c m d p i xs w hx hp hi (by omega) rfl
    · exact signFr_neg true A B n c m d p i xs w hx hp hi (by omega) rfl
end Go.Proofs.YtbllnkhbahenkaaGreatDoor
