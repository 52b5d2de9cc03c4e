/- AddS, AddF, joined: no claim of its own. -/
import Derived.Test.YtbllnkhbahenkaaGreatDoorFrac
namespace Go.Proofs.YtbllnkhbahenkaaGreatDoor
open Go.RowKit
/-- The sum of two signed numbers: its sign and its size. -/
def addS (s : Bool) (l : Nat) (t : Bool) (r : Nat) : Bool × Nat := if s = t then (s, l + r) else if r ≤ l then (s && decide (0 < l - r), l - r) else (t, r - l)
theorem addS_num (s : Bool) (l : Nat) (t : Bool) (r : Nat) : Fr.num (addS s l t r).1 (addS s l t r).2 = Fr.num s l + Fr.num t r := by
  unfold addS
  cases s <;> cases t <;> simp [Fr.num]
  · split
    · simp; omega
    · simp; omega
  · split
    · rename_i h
      by_cases h2 : r < l
      · simp []; omega
      · simp []; omega
    · simp; omega
  · omega
theorem addS_pos (s : Bool) (l : Nat) (t : Bool) (r : Nat) (hl : 0 < l) (hr : 0 < r) (h : (addS s l t r).1 = true) : 0 < (addS s l t r).2 := by
  unfold addS at h ⊢
  split
  · show 0 < l + r; omega
  · split
    · rename_i h1 h2
      rw [if_neg h1, if_pos h2] at h
      simp at h
      show 0 < l - r; omega
    · show 0 < r - l; omega
theorem addS_le (s : Bool) (l : Nat) (t : Bool) (r : Nat) : (addS s l t r).2 ≤ l + r := by
  unfold addS
  split
  · exact Nat.le_refl _
  · split
    · show l - r ≤ l + r; omega
    · show r - l ≤ l + r; omega
/-- A call hands back a sign and a number. -/
def GivesSg (s : Bool) (a : Nat) (w : World) (e : Ending) (w' : World) : Prop := ∃ A n c xs, e = .returned (.tuple #[.bool s, .slice A n c]) ∧ Num w' A n c xs a ∧ Below w.heap.size w w'
theorem GivesSg.eq {s t : Bool} {a b : Nat} (h : (s, a) = (t, b)) {w w' : World} {e : Ending} (g : GivesSg s a w e w') : GivesSg t b w e w' := by cases h; exact g
theorem sub_yes {A B : Option Addr} {n c m d a b : Nat} {xs ys : List Nat} {w : World} (hx : Num w A n c xs a) (hy : Num w B m d ys b) {z : Bool} (hz : decide (b ≤ a) = z) :
    Calls Tryz.prog 86 #[.slice A n c, .slice B m d] w (GivesSubB a b z w) := sub_b hx hy hz
set_option maxRecDepth 100000 in
set_option maxHeartbeats 1000000 in
theorem adds_falsefalse (A B : Option Addr) (n c m d a b i : Nat) (xs ys : List Nat) (w : World) (hx : Num w A n c xs a) (hy : Num w B m d ys b) (pa : a < 4294967296 ^ i) (pb : b < 4294967296 ^ i) (hi : i ≤ 400000) :
    Calls Tryz.prog 52 #[.bool false, .slice A n c, .bool false, .slice B m d] w (GivesSg false (a + b) w) := by
  have X0 := Lib.hid hx
  have Y0 := Lib.hid hy
  have PA := Lib.hid pa
  have PB := Lib.hid pb
  have B0 := Lib.hid (Below.refl w.heap.size w)
  clear hx hy pa pb
  go_enter Tryz.func52, Tryz.ntmps52
  go_wp2_with fail
  refine (add_s X0.out Y0.out PA.out PB.out (by omega) (by omega)).mono ?_
  rintro e w1 ⟨AP, nP, cP, xP, rfl, hn, hb⟩
  have P1 := Lib.hid (hn)
  have B1 := Lib.hid (B0.out.trans (hb.mono B0.out.size))
  clear hb B0 X0 Y0 hn
  go_wp2
  go_ret2
  exact ⟨_, _, _, _, rfl, P1.out, B1.out⟩
set_option maxRecDepth 100000 in
set_option maxHeartbeats 1000000 in
theorem adds_truetrue (A B : Option Addr) (n c m d a b i : Nat) (xs ys : List Nat) (w : World) (hx : Num w A n c xs a) (hy : Num w B m d ys b) (pa : a < 4294967296 ^ i) (pb : b < 4294967296 ^ i) (hi : i ≤ 400000) :
    Calls Tryz.prog 52 #[.bool true, .slice A n c, .bool true, .slice B m d] w (GivesSg true (a + b) w) := by
  have X0 := Lib.hid hx
  have Y0 := Lib.hid hy
  have PA := Lib.hid pa
  have PB := Lib.hid pb
  have B0 := Lib.hid (Below.refl w.heap.size w)
  clear hx hy pa pb
  go_enter Tryz.func52, Tryz.ntmps52
  go_wp2_with fail
  refine (add_s X0.out Y0.out PA.out PB.out (by omega) (by omega)).mono ?_
  rintro e w1 ⟨AP, nP, cP, xP, rfl, hn, hb⟩
  have P1 := Lib.hid (hn)
  have B1 := Lib.hid (B0.out.trans (hb.mono B0.out.size))
  clear hb B0 X0 Y0 hn
  go_wp2
  go_ret2
  exact ⟨_, _, _, _, rfl, P1.out, B1.out⟩
set_option maxRecDepth 100000 in
set_option maxHeartbeats 1000000 in
theorem adds_falsetrue_ge (A B : Option Addr) (n c m d a b i : Nat) (xs ys : List Nat) (w : World) (hx : Num w A n c xs a) (hy : Num w B m d ys b) (pa : a < 4294967296 ^ i) (pb : b < 4294967296 ^ i) (_hi : i ≤ 400000) (h : b ≤ a) (zb : Bool) (hzb : decide (a - b = 0) = zb) :
    Calls Tryz.prog 52 #[.bool false, .slice A n c, .bool true, .slice B m d] w (GivesSg false (a - b) w) := by
  have X0 := Lib.hid hx
  have Y0 := Lib.hid hy
  have PA := Lib.hid pa
  have PB := Lib.hid pb
  have B0 := Lib.hid (Below.refl w.heap.size w)
  have DE := Lib.hid (decide_eq_true h)
  have PS := Lib.hid (pw_le (Nat.sub_le a b) pa)
  have ZB := Lib.hid hzb
  clear hx hy pa pb h hzb
  go_enter Tryz.func52, Tryz.ntmps52
  go_wp2_with fail
  refine (sub_b X0.out Y0.out DE.out).mono ?_
  rintro e w1 ⟨AP, nP, cP, xP, rfl, hn, hb⟩
  have P1 := Lib.hid (hn)
  have B1 := Lib.hid (B0.out.trans (hb.mono B0.out.size))
  clear hb B0 X0 Y0 hn
  go_wp2
  go_ret2
  exact ⟨_, _, _, _, rfl, P1.out, B1.out⟩
set_option maxRecDepth 100000 in
set_option maxHeartbeats 1000000 in
theorem adds_falsetrue_lt (A B : Option Addr) (n c m d a b i : Nat) (xs ys : List Nat) (w : World) (hx : Num w A n c xs a) (hy : Num w B m d ys b) (pa : a < 4294967296 ^ i) (pb : b < 4294967296 ^ i) (_hi : i ≤ 400000) (h : a < b) :
    Calls Tryz.prog 52 #[.bool false, .slice A n c, .bool true, .slice B m d] w (GivesSg true (b - a) w) := by
  have X0 := Lib.hid hx
  have Y0 := Lib.hid hy
  have PA := Lib.hid pa
  have PB := Lib.hid pb
  have B0 := Lib.hid (Below.refl w.heap.size w)
  have DE : Hid (decide (b ≤ a) = false) := Lib.hid (decide_eq_false (by omega))
  have DE2 : Hid (decide (a ≤ b) = true) := Lib.hid (decide_eq_true (by omega))
  clear hx hy pa pb h
  go_enter Tryz.func52, Tryz.ntmps52
  go_wp2_with fail
  refine (sub_b X0.out Y0.out DE.out).mono ?_
  rintro e w1 ⟨_, _, _, _, rfl, _, hb⟩
  have X1 := Lib.hid (X0.out.keep hb)
  have Y1 := Lib.hid (Y0.out.keep hb)
  have B1 := Lib.hid (B0.out.trans (hb.mono B0.out.size))
  clear hb B0 X0 Y0 
  go_wp2_with fail
  refine (sub_b Y1.out X1.out DE2.out).mono ?_
  rintro e w2 ⟨AP, nP, cP, xP, rfl, hn, hb⟩
  have P2 := Lib.hid (hn)
  have B2 := Lib.hid (B1.out.trans (hb.mono B1.out.size))
  clear hb B1 X1 Y1 hn
  go_wp2
  go_ret2
  exact ⟨_, _, _, _, rfl, P2.out, B2.out⟩
set_option maxRecDepth 100000 in
set_option maxHeartbeats 1000000 in
theorem adds_truefalse_ge (A B : Option Addr) (n c m d a b i : Nat) (xs ys : List Nat) (w : World) (hx : Num w A n c xs a) (hy : Num w B m d ys b) (pa : a < 4294967296 ^ i) (pb : b < 4294967296 ^ i) (hi : i ≤ 400000) (h : b ≤ a) (zb : Bool) (hzb : decide (a - b = 0) = zb) :
    Calls Tryz.prog 52 #[.bool true, .slice A n c, .bool false, .slice B m d] w (GivesSg (!zb) (a - b) w) := by
  have X0 := Lib.hid hx
  have Y0 := Lib.hid hy
  have PA := Lib.hid pa
  have PB := Lib.hid pb
  have B0 := Lib.hid (Below.refl w.heap.size w)
  have DE := Lib.hid (decide_eq_true h)
  have PS := Lib.hid (pw_le (Nat.sub_le a b) pa)
  have ZB := Lib.hid hzb
  clear hx hy pa pb h hzb
  go_enter Tryz.func52, Tryz.ntmps52
  go_wp2_with fail
  refine (sub_b X0.out Y0.out DE.out).mono ?_
  rintro e w1 ⟨AP, nP, cP, xP, rfl, hn, hb⟩
  have P1 := Lib.hid (hn)
  have B1 := Lib.hid (B0.out.trans (hb.mono B0.out.size))
  clear hb B0 X0 Y0 hn
  go_wp2_with fail
  refine (isZero_s P1.out PS.out (by omega) ZB.out).mono ?_
  rintro e w' ⟨rfl, rfl⟩
  go_wp2
  go_ret2
  exact ⟨_, _, _, _, rfl, P1.out, B1.out⟩
set_option maxRecDepth 100000 in
set_option maxHeartbeats 1000000 in
theorem adds_truefalse_lt (A B : Option Addr) (n c m d a b i : Nat) (xs ys : List Nat) (w : World) (hx : Num w A n c xs a) (hy : Num w B m d ys b) (pa : a < 4294967296 ^ i) (pb : b < 4294967296 ^ i) (_hi : i ≤ 400000) (h : a < b) :
    Calls Tryz.prog 52 #[.bool true, .slice A n c, .bool false, .slice B m d] w (GivesSg false (b - a) w) := by
  have X0 := Lib.hid hx
  have Y0 := Lib.hid hy
  have PA := Lib.hid pa
  have PB := Lib.hid pb
  have B0 := Lib.hid (Below.refl w.heap.size w)
  have DE : Hid (decide (b ≤ a) = false) := Lib.hid (decide_eq_false (by omega))
  have DE2 : Hid (decide (a ≤ b) = true) := Lib.hid (decide_eq_true (by omega))
  clear hx hy pa pb h
  go_enter Tryz.func52, Tryz.ntmps52
  go_wp2_with fail
  refine (sub_b X0.out Y0.out DE.out).mono ?_
  rintro e w1 ⟨_, _, _, _, rfl, _, hb⟩
  have X1 := Lib.hid (X0.out.keep hb)
  have Y1 := Lib.hid (Y0.out.keep hb)
  have B1 := Lib.hid (B0.out.trans (hb.mono B0.out.size))
  clear hb B0 X0 Y0 
  go_wp2_with fail
  refine (sub_b Y1.out X1.out DE2.out).mono ?_
  rintro e w2 ⟨AP, nP, cP, xP, rfl, hn, hb⟩
  have P2 := Lib.hid (hn)
  have B2 := Lib.hid (B1.out.trans (hb.mono B1.out.size))
  clear hb B1 X1 Y1 hn
  go_wp2
  go_ret2
  exact ⟨_, _, _, _, rfl, P2.out, B2.out⟩
theorem addSigned_any (s t : Bool) (A B : Option Addr) (n c m d a b i : Nat) (xs ys : List Nat) (w : World) (hx : Num w A n c xs a) (hy : Num w B m d ys b) (pa : a < 4294967296 ^ i) (pb : b < 4294967296 ^ i) (hi : i ≤ 400000) :
    Calls Tryz.prog 52 #[.bool s, .slice A n c, .bool t, .slice B m d] w (GivesSg (addS s a t b).1 (addS s a t b).2 w) := by
  have ez : ∀ z : Nat, (!decide (z = 0)) = decide (0 < z) := fun z => by
    by_cases h : z = 0
    · subst h; rfl
    · rw [decide_eq_false h, decide_eq_true (by omega)]; rfl
  cases s <;> cases t
  · exact adds_falsefalse A B n c m d a b i xs ys w hx hy pa pb hi
  · rcases Nat.lt_or_ge a b with h | h
    · exact (adds_falsetrue_lt A B n c m d a b i xs ys w hx hy pa pb hi h).mono fun _ _ g => g.eq (by simp [addS, Nat.not_le.2 h])
    · exact (adds_falsetrue_ge A B n c m d a b i xs ys w hx hy pa pb hi h _ rfl).mono fun _ _ g => g.eq (by simp [addS, h])
  · rcases Nat.lt_or_ge a b with h | h
    · exact (adds_truefalse_lt A B n c m d a b i xs ys w hx hy pa pb hi h).mono fun _ _ g => g.eq (by simp [addS, Nat.not_le.2 h])
    · exact (adds_truefalse_ge A B n c m d a b i xs ys w hx hy pa pb hi h _ rfl).mono fun _ _ g => g.eq (by rw [ez]; simp [addS, h])
  · exact adds_truetrue A B n c m d a b i xs ys w hx hy pa pb hi
end Go.Proofs.YtbllnkhbahenkaaGreatDoor
namespace Go.Proofs.YtbllnkhbahenkaaGreatDoor
open Go.RowKit
theorem Num.drew_ {w : World} {A : Option Addr} {n c a : Nat} {xs : List Nat} (h : Num w A n c xs a) : Num w.drew A n c xs a := ⟨h.toLst.drew, h.tight, h.val⟩
theorem addSigned_s {s t : Bool} {A B : Option Addr} {n c m d a b i M : Nat} {xs ys : List Nat} {w : World} {g : Bool} (hx : Num w A n c xs a) (hy : Num w B m d ys b) (pa : a < 4294967296 ^ i) (pb : b < 4294967296 ^ i) (hi : i ≤ 400000) (hg : (addS s a t b).1 = g) (hM : (addS s a t b).2 = M) :
    Calls Tryz.prog 52 #[.bool s, .slice A n c, .bool t, .slice B m d] w (GivesSg g M w) := by subst hg; subst hM; exact addSigned_any s t A B n c m d a b i xs ys w hx hy pa pb hi
theorem Fr.Ok.zero {q : Nat} {s : Bool} (h : Fr.Ok ⟨s, 0, q⟩) : (⟨s, 0, q⟩ : Fr) = Fr.zero := by
  obtain ⟨h1, h2, h3⟩ := h
  replace h2 : Nat.gcd 0 q = 1 := h2
  rw [Nat.gcd_zero_left] at h2
  have hs : s = false := by
    cases s
    · rfl
    · have := h3 rfl; simp at this
  subst hs
  subst h2
  rfl
set_option maxRecDepth 100000 in
set_option maxHeartbeats 1000000 in
theorem addf_left (s s' : Bool) (A B A' B' : Option Addr) (n c m d n' c' m' d' p q p' q' i : Nat) (xs ys xs' ys' : List Nat) (w : World) (hx : Num w A n c xs p) (hy : Num w B m d ys q) (hx' : Num w A' n' c' xs' p') (hy' : Num w B' m' d' ys' q') (pp : p < 4294967296 ^ i) (pq : q < 4294967296 ^ i) (pp' : p' < 4294967296 ^ i) (pq' : q' < 4294967296 ^ i) (hi : i ≤ 100000) (h0 : p = 0) : Calls Tryz.prog 21 #[.agg #[.bool s, .slice A n c, .slice B m d], .agg #[.bool s', .slice A' n' c', .slice B' m' d']] w (GivesFr ⟨s', p', q'⟩ w) := by
  have B0 := Lib.hid ((((Below.refl w.heap.size w).alloc (Nat.le_refl _) (.cells #[.bool s, .slice A n c, .slice B m d] 25)).alloc (by simp) (.cells #[.bool s', .slice A' n' c', .slice B' m' d'] 25)).alloc (by simp; omega) (.cells #[.bool false, .slice none 0 0, .slice none 0 0] 25))
  have X0 := Lib.hid (hx.keep B0.out)
  have Y0 := Lib.hid (hy.keep B0.out)
  have U0 := Lib.hid (hx'.keep B0.out)
  have V0 := Lib.hid (hy'.keep B0.out)
  have H0 := Lib.hid (((FB.new w s A n c B m d).alloc (.cells #[.bool s', .slice A' n' c', .slice B' m' d'] 25)).alloc (.cells #[.bool false, .slice none 0 0, .slice none 0 0] 25))
  have K0 := Lib.hid ((FB.new (w.alloc (.cells #[.bool s, .slice A n c, .slice B m d] 25)) s' A' n' c' B' m' d').alloc (.cells #[.bool false, .slice none 0 0, .slice none 0 0] 25))
  have R0 := Lib.hid (FB.new ((w.alloc (.cells #[.bool s, .slice A n c, .slice B m d] 25)).alloc (.cells #[.bool s', .slice A' n' c', .slice B' m' d'] 25)) false none 0 0 none 0 0)
  rw [show (w.alloc (.cells #[.bool s, .slice A n c, .slice B m d] 25)).heap.size = w.heap.size + 1 by simp] at K0
  rw [show ((w.alloc (.cells #[.bool s, .slice A n c, .slice B m d] 25)).alloc (.cells #[.bool s', .slice A' n' c', .slice B' m' d'] 25)).heap.size = w.heap.size + 1 + 1 by simp] at R0
  have PP := Lib.hid pp
  have PQ := Lib.hid pq
  have PP' := Lib.hid pp'
  have PQ' := Lib.hid pq'
  have zt := Lib.hid (decide_eq_true h0)
  clear hx hy hx' hy' pp pq pp' pq' h0
  go_enter Tryz.func21, Tryz.ntmps21
  go_wp2_with fail
  refine (isZero_s X0.out PP.out (by omega) zt.out).mono ?_
  rintro e w' ⟨rfl, rfl⟩
  go_wp2_with fail
  clear X0 Y0 H0 K0
  refine (cloneFr_s U0.out V0.out PP'.out PQ'.out (by omega) (by omega)).mono ?_
  rintro e w1 ⟨AP, nP, cP, xP, AQ, nQ, cQ, xQ, rfl, hn, hn', hb⟩
  have P1 := Lib.hid (hn)
  have Q1 := Lib.hid (hn')
  have R1 := Lib.hid (R0.out.keep hb)
  have B1 := Lib.hid (B0.out.trans (hb.mono B0.out.size))
  clear hb B0 U0 V0 R0 hn hn'
  obtain ⟨Ra, Rb, Rc, Rd, Re, Rf⟩ := R1.out.facts
  go_wp2
  refine bodyPost_ret (v := .agg #[.bool s', .slice AP nP cP, .slice AQ nQ cQ]) (by simp [results, Tryz.results21, go_sem, Ra, Rb, Rc]) rfl ?_
  exact giveFr (t := ⟨s', p', q'⟩) B1.out (by omega) R1.out P1.out Q1.out
set_option maxRecDepth 100000 in
set_option maxHeartbeats 1000000 in
theorem addf_right (s s' : Bool) (A B A' B' : Option Addr) (n c m d n' c' m' d' p q p' q' i : Nat) (xs ys xs' ys' : List Nat) (w : World) (hx : Num w A n c xs p) (hy : Num w B m d ys q) (hx' : Num w A' n' c' xs' p') (hy' : Num w B' m' d' ys' q') (pp : p < 4294967296 ^ i) (pq : q < 4294967296 ^ i) (pp' : p' < 4294967296 ^ i) (pq' : q' < 4294967296 ^ i) (hi : i ≤ 100000) (h0 : 0 < p) (h1 : p' = 0) : Calls Tryz.prog 21 #[.agg #[.bool s, .slice A n c, .slice B m d], .agg #[.bool s', .slice A' n' c', .slice B' m' d']] w (GivesFr ⟨s, p, q⟩ w) := by
  have B0 := Lib.hid ((((Below.refl w.heap.size w).alloc (Nat.le_refl _) (.cells #[.bool s, .slice A n c, .slice B m d] 25)).alloc (by simp) (.cells #[.bool s', .slice A' n' c', .slice B' m' d'] 25)).alloc (by simp; omega) (.cells #[.bool false, .slice none 0 0, .slice none 0 0] 25))
  have X0 := Lib.hid (hx.keep B0.out)
  have Y0 := Lib.hid (hy.keep B0.out)
  have U0 := Lib.hid (hx'.keep B0.out)
  have V0 := Lib.hid (hy'.keep B0.out)
  have H0 := Lib.hid (((FB.new w s A n c B m d).alloc (.cells #[.bool s', .slice A' n' c', .slice B' m' d'] 25)).alloc (.cells #[.bool false, .slice none 0 0, .slice none 0 0] 25))
  have K0 := Lib.hid ((FB.new (w.alloc (.cells #[.bool s, .slice A n c, .slice B m d] 25)) s' A' n' c' B' m' d').alloc (.cells #[.bool false, .slice none 0 0, .slice none 0 0] 25))
  have R0 := Lib.hid (FB.new ((w.alloc (.cells #[.bool s, .slice A n c, .slice B m d] 25)).alloc (.cells #[.bool s', .slice A' n' c', .slice B' m' d'] 25)) false none 0 0 none 0 0)
  rw [show (w.alloc (.cells #[.bool s, .slice A n c, .slice B m d] 25)).heap.size = w.heap.size + 1 by simp] at K0
  rw [show ((w.alloc (.cells #[.bool s, .slice A n c, .slice B m d] 25)).alloc (.cells #[.bool s', .slice A' n' c', .slice B' m' d'] 25)).heap.size = w.heap.size + 1 + 1 by simp] at R0
  have PP := Lib.hid pp
  have PQ := Lib.hid pq
  have PP' := Lib.hid pp'
  have PQ' := Lib.hid pq'
  have zf : Hid (decide (p = 0) = false) := Lib.hid (decide_eq_false (by omega))
  have zt := Lib.hid (decide_eq_true h1)
  clear hx hy hx' hy' pp pq pp' pq' h0 h1
  go_enter Tryz.func21, Tryz.ntmps21
  go_wp2_with fail
  refine (isZero_s X0.out PP.out (by omega) zf.out).mono ?_
  rintro e w' ⟨rfl, rfl⟩
  go_wp2_with fail
  refine (isZero_s U0.out PP'.out (by omega) zt.out).mono ?_
  rintro e w' ⟨rfl, rfl⟩
  go_wp2_with fail
  clear U0 V0 H0 K0
  refine (cloneFr_s X0.out Y0.out PP.out PQ.out (by omega) (by omega)).mono ?_
  rintro e w1 ⟨AP, nP, cP, xP, AQ, nQ, cQ, xQ, rfl, hn, hn', hb⟩
  have P1 := Lib.hid (hn)
  have Q1 := Lib.hid (hn')
  have R1 := Lib.hid (R0.out.keep hb)
  have B1 := Lib.hid (B0.out.trans (hb.mono B0.out.size))
  clear hb B0 X0 Y0 R0 hn hn'
  obtain ⟨Ra, Rb, Rc, Rd, Re, Rf⟩ := R1.out.facts
  go_wp2
  refine bodyPost_ret (v := .agg #[.bool s, .slice AP nP cP, .slice AQ nQ cQ]) (by simp [results, Tryz.results21, go_sem, Ra, Rb, Rc]) rfl ?_
  exact giveFr (t := ⟨s, p, q⟩) B1.out (by omega) R1.out P1.out Q1.out
set_option maxRecDepth 100000 in
set_option maxHeartbeats 4000000 in
theorem addf_main (s s' : Bool) (A B A' B' : Option Addr) (n c m d n' c' m' d' p q p' q' i : Nat) (xs ys xs' ys' : List Nat) (w : World) (hx : Num w A n c xs p) (hy : Num w B m d ys q) (hx' : Num w A' n' c' xs' p') (hy' : Num w B' m' d' ys' q') (pp : p < 4294967296 ^ i) (pq : q < 4294967296 ^ i) (pp' : p' < 4294967296 ^ i) (pq' : q' < 4294967296 ^ i) (hi : i ≤ 100000) (h0 : 0 < p) (h1 : 0 < p') (hq : 0 < q) (hq' : 0 < q') (C L R' M T : Nat) (g : Bool) (hC : Nat.gcd q q' = C) (hL : p * (q' / C) = L) (hR : p' * (q / C) = R') (hg : (addS s L s' R').1 = g) (hM : (addS s L s' R').2 = M) (hT : Nat.gcd M C = T) :
    Calls Tryz.prog 21 #[.agg #[.bool s, .slice A n c, .slice B m d], .agg #[.bool s', .slice A' n' c', .slice B' m' d']] w (GivesFr ⟨g, M / T, q / C * (q' / T)⟩ w) := by
  have B0 := Lib.hid ((((Below.refl w.heap.size w).alloc (Nat.le_refl _) (.cells #[.bool s, .slice A n c, .slice B m d] 25)).alloc (by simp) (.cells #[.bool s', .slice A' n' c', .slice B' m' d'] 25)).alloc (by simp; omega) (.cells #[.bool false, .slice none 0 0, .slice none 0 0] 25))
  have X0 := Lib.hid (hx.keep B0.out)
  have Y0 := Lib.hid (hy.keep B0.out)
  have U0 := Lib.hid (hx'.keep B0.out)
  have V0 := Lib.hid (hy'.keep B0.out)
  have H0 := Lib.hid (((FB.new w s A n c B m d).alloc (.cells #[.bool s', .slice A' n' c', .slice B' m' d'] 25)).alloc (.cells #[.bool false, .slice none 0 0, .slice none 0 0] 25))
  have K0 := Lib.hid ((FB.new (w.alloc (.cells #[.bool s, .slice A n c, .slice B m d] 25)) s' A' n' c' B' m' d').alloc (.cells #[.bool false, .slice none 0 0, .slice none 0 0] 25))
  have R0 := Lib.hid (FB.new ((w.alloc (.cells #[.bool s, .slice A n c, .slice B m d] 25)).alloc (.cells #[.bool s', .slice A' n' c', .slice B' m' d'] 25)) false none 0 0 none 0 0)
  rw [show (w.alloc (.cells #[.bool s, .slice A n c, .slice B m d] 25)).heap.size = w.heap.size + 1 by simp] at K0
  rw [show ((w.alloc (.cells #[.bool s, .slice A n c, .slice B m d] 25)).alloc (.cells #[.bool s', .slice A' n' c', .slice B' m' d'] 25)).heap.size = w.heap.size + 1 + 1 by simp] at R0
  have PP := Lib.hid pp
  have PQ := Lib.hid pq
  have PP' := Lib.hid pp'
  have PQ' := Lib.hid pq'
  have zf : Hid (decide (p = 0) = false) := Lib.hid (decide_eq_false (by omega))
  have zg : Hid (decide (p' = 0) = false) := Lib.hid (decide_eq_false (by omega))
  have C0 : Hid (0 < C) := Lib.hid (by rw [← hC]; exact Nat.gcd_pos_of_pos_left _ hq)
  have T0 : Hid (0 < T) := Lib.hid (by rw [← hT]; exact Nat.gcd_pos_of_pos_right _ C0.out)
  have pC : Hid (C < 4294967296 ^ i) := Lib.hid (by rw [← hC]; exact gcd_pwr pq' hq')
  have pS : Hid (q / C < 4294967296 ^ i) := Lib.hid (pw_le (Nat.div_le_self _ _) pq)
  have pS' : Hid (q' / C < 4294967296 ^ i) := Lib.hid (pw_le (Nat.div_le_self _ _) pq')
  have pL : Hid (L < 4294967296 ^ (i + i)) := Lib.hid (by rw [← hL]; exact pw_mul pp pS'.out)
  have pR : Hid (R' < 4294967296 ^ (i + i)) := Lib.hid (by rw [← hR]; exact pw_mul pp' pS.out)
  have pM : Hid (M < 4294967296 ^ (i + i + 1)) := Lib.hid (by rw [← hM]; exact pw_le (addS_le _ _ _ _) (pw_add pL.out pR.out (by omega) (by omega)))
  have pT : Hid (T < 4294967296 ^ i) := Lib.hid (by rw [← hT]; exact gcd_pwr pC.out C0.out)
  have pQT : Hid (q' / T < 4294967296 ^ i) := Lib.hid (pw_le (Nat.div_le_self _ _) pq')
  have eC := Lib.hid hC
  have eL := Lib.hid hL
  have eR := Lib.hid hR
  have eg := Lib.hid hg
  have eM := Lib.hid hM
  have eT := Lib.hid hT
  clear hx hy hx' hy' pp pq pp' pq' h0 h1 hq hq' hC hL hR hg hM hT
  go_enter Tryz.func21, Tryz.ntmps21
  go_wp2_with fail
  refine (isZero_s X0.out PP.out (by omega) zf.out).mono ?_
  rintro e w' ⟨rfl, rfl⟩
  go_wp2_with fail
  refine (isZero_s U0.out PP'.out (by omega) zg.out).mono ?_
  rintro e w' ⟨rfl, rfl⟩
  go_wp2_with fail
  refine (gcd_s Y0.out V0.out PQ.out PQ'.out (by omega) (by omega)).mono ?_
  rintro e w1 ⟨AC, nC, cC, xC, rfl, hn, hb⟩
  have C1 := Lib.hid (hn.to eC.out)
  have X1 := Lib.hid (X0.out.keep hb)
  have Y1 := Lib.hid (Y0.out.keep hb)
  have U1 := Lib.hid (U0.out.keep hb)
  have V1 := Lib.hid (V0.out.keep hb)
  have H1 := Lib.hid (H0.out.keep hb)
  have K1 := Lib.hid (K0.out.keep hb)
  have R1 := Lib.hid (R0.out.keep hb)
  have B1 := Lib.hid (B0.out.trans (hb.mono B0.out.size))
  clear hb B0 X0 Y0 U0 V0 H0 K0 R0 hn
  obtain ⟨Ha, Hb, Hc, Hd, He, Hf⟩ := H1.out.facts
  obtain ⟨Ka, Kb, Kc, Kd, Ke, Kf⟩ := K1.out.facts
  go_wp2_with fail
  refine (quotient_s Y1.out C1.out C0.out PQ.out pC.out (by omega) (by omega)).mono ?_
  rintro e w2 ⟨AS, nS, cS, xS, rfl, hn, hb⟩
  clear Ha Hb Hc Hd He Hf Ka Kb Kc Kd Ke Kf
  have S2 := Lib.hid (hn.to rfl)
  have X2 := Lib.hid (X1.out.keep hb)
  have Y2 := Lib.hid (Y1.out.keep hb)
  have U2 := Lib.hid (U1.out.keep hb)
  have V2 := Lib.hid (V1.out.keep hb)
  have H2 := Lib.hid (H1.out.keep hb)
  have K2 := Lib.hid (K1.out.keep hb)
  have R2 := Lib.hid (R1.out.keep hb)
  have C2 := Lib.hid (C1.out.keep hb)
  have B2 := Lib.hid (B1.out.trans (hb.mono B1.out.size))
  clear hb B1 X1 Y1 U1 V1 H1 K1 R1 C1 hn
  obtain ⟨Ha, Hb, Hc, Hd, He, Hf⟩ := H2.out.facts
  obtain ⟨Ka, Kb, Kc, Kd, Ke, Kf⟩ := K2.out.facts
  go_wp2_with fail
  go_region_held3 (fun w' => w'.cell? ⟨w.heap.size, 1, none⟩ = some (.slice A n c) ∧ w'.cell? ⟨w.heap.size + 1, 2, none⟩ = some (.slice B' m' d')) (go_keep) (first | (go_at_call 50; refine (quotient_s (V2.out.drew_) (C2.out.drew_) C0.out PQ'.out pC.out (by omega) (by omega)).mono ?_; rintro e w3 ⟨AE, nE, cE, xE, rfl, hn, hb⟩; have hb := ((Below.refl w2.heap.size w2).drew).trans hb; have E3 := Lib.hid (hn); have X3 := Lib.hid (X2.out.keep hb); have Y3 := Lib.hid (Y2.out.keep hb); have U3 := Lib.hid (U2.out.keep hb); have V3 := Lib.hid (V2.out.keep hb); have H3 := Lib.hid (H2.out.keep hb); have K3 := Lib.hid (K2.out.keep hb); have R3 := Lib.hid (R2.out.keep hb); have C3 := Lib.hid (C2.out.keep hb); have S3 := Lib.hid (S2.out.keep hb); have B3 := Lib.hid (B2.out.trans (hb.mono (by have := B2.out.size; simpa using this))); obtain ⟨Ha3, Hb3, Hc3, _, _, _⟩ := H3.out.facts; obtain ⟨Ka3, Kb3, Kc3, _, _, _⟩ := K3.out.facts; clear hn hb) | (go_at_call 51; refine (mul_s X3.out E3.out PP.out pS'.out (by omega) (by omega)).mono ?_; rintro e w4 ⟨AL, nL, cL, xL, rfl, hn, hb⟩; have L4 := Lib.hid (hn.to eL.out); have X4 := Lib.hid (X3.out.keep hb); have Y4 := Lib.hid (Y3.out.keep hb); have U4 := Lib.hid (U3.out.keep hb); have V4 := Lib.hid (V3.out.keep hb); have H4 := Lib.hid (H3.out.keep hb); have K4 := Lib.hid (K3.out.keep hb); have R4 := Lib.hid (R3.out.keep hb); have C4 := Lib.hid (C3.out.keep hb); have S4 := Lib.hid (S3.out.keep hb); have B4 := Lib.hid (B3.out.trans (hb.mono (by have := B3.out.size; simpa using this))); obtain ⟨Ha4, Hb4, Hc4, _, _, _⟩ := H4.out.facts; obtain ⟨Ka4, Kb4, Kc4, _, _, _⟩ := K4.out.facts; clear hn hb))
  clear X2 Y2 U2 V2 H2 K2 R2 C2 S2 B2 X3 Y3 U3 V3 H3 K3 R3 C3 S3 B3 E3 Ha3 Hb3 Hc3 Ka3 Kb3 Kc3
  clear Ha4 Hb4 Hc4 Ka4 Kb4 Kc4
  obtain ⟨Ha, Hb, Hc, Hd, He, Hf⟩ := H4.out.facts
  obtain ⟨Ka, Kb, Kc, Kd, Ke, Kf⟩ := K4.out.facts
  go_wp2_with fail
  refine (mul_s U4.out S4.out PP'.out pS.out (by omega) (by omega)).mono ?_
  rintro e w5 ⟨AW, nW, cW, xW, rfl, hn, hb⟩
  clear Ha Hb Hc Hd He Hf Ka Kb Kc Kd Ke Kf
  have W5 := Lib.hid (hn.to eR.out)
  have V5 := Lib.hid (V4.out.keep hb)
  have H5 := Lib.hid (H4.out.keep hb)
  have K5 := Lib.hid (K4.out.keep hb)
  have R5 := Lib.hid (R4.out.keep hb)
  have C5 := Lib.hid (C4.out.keep hb)
  have S5 := Lib.hid (S4.out.keep hb)
  have L5 := Lib.hid (L4.out.keep hb)
  have B5 := Lib.hid (B4.out.trans (hb.mono B4.out.size))
  clear hb B4 X4 Y4 U4 V4 H4 K4 R4 C4 S4 L4 hn
  obtain ⟨Ha, Hb, Hc, Hd, He, Hf⟩ := H5.out.facts
  obtain ⟨Ka, Kb, Kc, Kd, Ke, Kf⟩ := K5.out.facts
  go_wp2_with fail
  refine (addSigned_s L5.out W5.out pL.out pR.out (by omega) eg.out eM.out).mono ?_
  rintro e w6 ⟨AM, nM, cM, xM, rfl, hn, hb⟩
  clear Ha Hb Hc Hd He Hf Ka Kb Kc Kd Ke Kf
  have M6 := Lib.hid (hn.to rfl)
  have V6 := Lib.hid (V5.out.keep hb)
  have H6 := Lib.hid (H5.out.keep hb)
  have K6 := Lib.hid (K5.out.keep hb)
  have R6 := Lib.hid (R5.out.keep hb)
  have C6 := Lib.hid (C5.out.keep hb)
  have S6 := Lib.hid (S5.out.keep hb)
  have B6 := Lib.hid (B5.out.trans (hb.mono B5.out.size))
  clear hb B5 V5 H5 K5 R5 C5 S5 L5 W5 hn
  obtain ⟨Ha, Hb, Hc, Hd, He, Hf⟩ := H6.out.facts
  obtain ⟨Ka, Kb, Kc, Kd, Ke, Kf⟩ := K6.out.facts
  go_wp2_with fail
  refine (gcd_s M6.out C6.out pM.out pC.out (by omega) (by omega)).mono ?_
  rintro e w7 ⟨AT, nT, cT, xT, rfl, hn, hb⟩
  clear Ha Hb Hc Hd He Hf Ka Kb Kc Kd Ke Kf
  have T7 := Lib.hid (hn.to eT.out)
  have V7 := Lib.hid (V6.out.keep hb)
  have H7 := Lib.hid (H6.out.keep hb)
  have K7 := Lib.hid (K6.out.keep hb)
  have R7 := Lib.hid (R6.out.keep hb)
  have S7 := Lib.hid (S6.out.keep hb)
  have M7 := Lib.hid (M6.out.keep hb)
  have B7 := Lib.hid (B6.out.trans (hb.mono B6.out.size))
  clear hb B6 V6 H6 K6 R6 C6 S6 M6 hn
  obtain ⟨Ha, Hb, Hc, Hd, He, Hf⟩ := H7.out.facts
  obtain ⟨Ka, Kb, Kc, Kd, Ke, Kf⟩ := K7.out.facts
  go_wp2_with fail
  have zM := M7.out.drew_
  have zT := T7.out.drew_
  have zV := V7.out.drew_
  have zS := S7.out.drew_
  have zK := K7.out.drew
  have zR := R7.out.drew
  have zB := B7.out.drew
  clear M7 T7 V7 S7 K7 R7 B7 H7 Ha Hb Hc Hd He Hf Ka Kb Kc Kd Ke Kf
  obtain ⟨Ka, Kb, Kc, Kd, Ke, Kf⟩ := zK.facts
  obtain ⟨Ra, Rb, Rc, Rd, Re, Rf⟩ := zR.facts
  go_region_held3 (fun w' => w'.cell? ⟨w.heap.size + 1, 2, none⟩ = some (.slice B' m' d')) (go_keep) (first | (go_at_call 50; (with_reducible refine (quotient_s zM zT T0.out pM.out pT.out (by omega) (by omega)).mono ?_); rintro e wq ⟨AP, nP, cP, xP, rfl, hn, hb⟩; replace zM := zM.keep hb; replace zT := zT.keep hb; replace zV := zV.keep hb; replace zS := zS.keep hb; replace zK := zK.keep hb; replace zR := zR.keep hb; replace zB := zB.trans (hb.mono zB.size); (try replace zP := zP.keep hb); (try replace zE := zE.keep hb); have zP := hn; clear hb hn Ka Kb Kc Kd Ke Kf Ra Rb Rc Rd Re Rf; obtain ⟨Ka, Kb, Kc, Kd, Ke, Kf⟩ := zK.facts; obtain ⟨Ra, Rb, Rc, Rd, Re, Rf⟩ := zR.facts) | (go_at_call 50; (with_reducible refine (quotient_s zV zT T0.out PQ'.out pT.out (by omega) (by omega)).mono ?_); rintro e wq ⟨AE, nE, cE, xE, rfl, hn, hb⟩; replace zM := zM.keep hb; replace zT := zT.keep hb; replace zV := zV.keep hb; replace zS := zS.keep hb; replace zK := zK.keep hb; replace zR := zR.keep hb; replace zB := zB.trans (hb.mono zB.size); (try replace zP := zP.keep hb); (try replace zE := zE.keep hb); have zE := hn; clear hb hn Ka Kb Kc Kd Ke Kf Ra Rb Rc Rd Re Rf; obtain ⟨Ka, Kb, Kc, Kd, Ke, Kf⟩ := zK.facts; obtain ⟨Ra, Rb, Rc, Rd, Re, Rf⟩ := zR.facts) | (go_at_call 51; (with_reducible refine (mul_s zS zE pS.out pQT.out (by omega) (by omega)).mono ?_); rintro e wq ⟨AD, nD, cD, xD, rfl, hn, hb⟩; replace zM := zM.keep hb; replace zT := zT.keep hb; replace zV := zV.keep hb; replace zS := zS.keep hb; replace zK := zK.keep hb; replace zR := zR.keep hb; replace zB := zB.trans (hb.mono zB.size); (try replace zP := zP.keep hb); (try replace zE := zE.keep hb); have zD := hn; clear hb hn Ka Kb Kc Kd Ke Kf Ra Rb Rc Rd Re Rf; obtain ⟨Ka, Kb, Kc, Kd, Ke, Kf⟩ := zK.facts; obtain ⟨Ra, Rb, Rc, Rd, Re, Rf⟩ := zR.facts))
  all_goals go_wp2
  all_goals refine bodyPost_ret (v := .agg #[.bool g, .slice AP nP cP, .slice AD nD cD]) (by simp [results, Tryz.results21, go_sem, Ra, Rb, Rc]) rfl ?_
  all_goals exact giveFr (t := ⟨g, M / T, q / C * (q' / T)⟩) zB (by omega) zR zP zD
theorem addFr_any (s s' : Bool) (A B A' B' : Option Addr) (n c m d n' c' m' d' p q p' q' i : Nat) (xs ys xs' ys' : List Nat) (w : World) (hx : Num w A n c xs p) (hy : Num w B m d ys q) (hx' : Num w A' n' c' xs' p') (hy' : Num w B' m' d' ys' q') (ok : Fr.Ok ⟨s, p, q⟩) (ok' : Fr.Ok ⟨s', p', q'⟩) (pp : p < 4294967296 ^ i) (pq : q < 4294967296 ^ i) (pp' : p' < 4294967296 ^ i) (pq' : q' < 4294967296 ^ i) (hi : i ≤ 100000) :
    Calls Tryz.prog 21 #[.agg #[.bool s, .slice A n c, .slice B m d], .agg #[.bool s', .slice A' n' c', .slice B' m' d']] w (GivesFr (Fr.add ⟨s, p, q⟩ ⟨s', p', q'⟩) w) := by
  rcases Nat.eq_zero_or_pos p with h0 | h0
  · refine (addf_left s s' A B A' B' n c m d n' c' m' d' p q p' q' i xs ys xs' ys' w hx hy hx' hy' pp pq pp' pq' hi h0).mono fun _ _ g => g.eq ?_
    subst h0
    rw [ok.zero, Fr.zero_add ok']
  · rcases Nat.eq_zero_or_pos p' with h1 | h1
    · refine (addf_right s s' A B A' B' n c m d n' c' m' d' p q p' q' i xs ys xs' ys' w hx hy hx' hy' pp pq pp' pq' hi h0 h1).mono fun _ _ g => g.eq ?_
      subst h1
      rw [ok'.zero, Fr.add_zero ok]
    · refine (addf_main s s' A B A' B' n c m d n' c' m' d' p q p' q' i xs ys xs' ys' w hx hy hx' hy' pp pq pp' pq' hi h0 h1 ok.1 ok'.1 _ _ _ _ _ _ rfl rfl rfl rfl rfl rfl).mono fun _ _ g => g.eq ?_
      refine Fr.add_prog ok ok' ?_ ?_
      · rw [addS_num, Fr.num_mul, Fr.num_mul]; rfl
      · have hg : 0 < Nat.gcd q q' := Nat.gcd_pos_of_pos_left _ ok.1
        exact addS_pos _ _ _ _ (Nat.mul_pos h0 (Nat.div_pos (Nat.le_of_dvd ok'.1 (Nat.gcd_dvd_right _ _)) hg)) (Nat.mul_pos h1 (Nat.div_pos (Nat.le_of_dvd ok.1 (Nat.gcd_dvd_left _ _)) hg))
end Go.Proofs.YtbllnkhbahenkaaGreatDoor
