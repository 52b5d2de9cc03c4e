/- A reader reads a fraction: no claim of its own. -/
import Derived.Test.YtebfnbnaheolgaaWNum
import Derived.Test.YtebfnbnaheolgaaWValid
namespace Go.Proofs.Ytebfnbnaheolgaa
open Go.RowKit
/-- The number behind another read, or nothing. -/
def natS2 (r : List UInt8 × Nat) : List Nat × List UInt8 × Nat := if r.2 ≠ 0 then ([], [], r.2) else natS r.1
/-- What Fraction reads: the sign, the digits, the bytes left, the error (that of validity is not in it). -/
def fracS (l : List UInt8) : Bool × List Nat × List Nat × List UInt8 × Nat :=
  let r0 := uintS l 1
  let r1 := natS2 (r0.2.1, r0.2.2)
  let r2 := natS2 (r1.2.1, r1.2.2)
  (decide (r0.1 = 1), r1.1, r2.1, r2.2.1, r2.2.2)
theorem digS_dead : ∀ (k : Nat) (l : List UInt8) (acc : List Nat), (digS k l acc).2.2 ≠ 0 → (digS k l acc).2.1 = []
  | 0, _, _, h => absurd rfl h
  | k + 1, l, acc, h => by
    rw [digS] at h ⊢
    split
    · rfl
    · rename_i h1; rw [if_neg h1] at h; exact digS_dead k _ _ h
theorem natS_dead {l : List UInt8} (h : (natS l).2.2 ≠ 0) : (natS l).2.1 = [] := by
  unfold natS at h ⊢
  split
  · rfl
  · rename_i h1; rw [if_neg h1] at h; exact digS_dead _ _ _ h
theorem natS2_dead {r : List UInt8 × Nat} (h : (natS2 r).2.2 ≠ 0) : (natS2 r).2.1 = [] := by
  unfold natS2 at h ⊢
  split
  · rfl
  · rename_i h1; rw [if_neg h1] at h; exact natS_dead h
theorem digS_len : ∀ (k : Nat) (l : List UInt8) (acc : List Nat), (digS k l acc).2.1.length ≤ l.length
  | 0, _, _ => Nat.le_refl _
  | k + 1, l, acc => by
    rw [digS]
    split
    · simp
    · exact Nat.le_trans (digS_len k _ _) (uintS_len l _)
theorem natS_len (l : List UInt8) : (natS l).2.1.length ≤ l.length := by
  unfold natS
  split
  · simp
  · exact Nat.le_trans (digS_len _ _ _) (uintS_len l _)
theorem natS2_len (r : List UInt8 × Nat) : (natS2 r).2.1.length ≤ r.1.length := by
  unfold natS2
  split
  · simp
  · exact natS_len _
/-- The closure on a reader with an error or without. -/
theorem number_both (p g : Nat) (l : List UInt8) (e : Nat) (w : World) (hp : PV w p (.pointer (some ⟨g, 0, none⟩))) (hpg : p ≠ g) (h : RP w g l e) (hd : e ≠ 0 → l = []) (hl : l.length ≤ 1000000) :
    Calls Try.prog 44 #[.pointer (some ⟨p, 0, none⟩)] w (NumPost g (natS2 (l, e)) w) := by
  by_cases he : e = 0
  · subst he
    have e1 : natS2 (l, 0) = natS l := by unfold natS2; exact if_neg (fun h => h rfl)
    rw [e1]
    exact numberR_any p g l w hp hpg h hl
  · obtain rfl := hd he
    have e1 : natS2 ([], e) = ([], [], e) := by unfold natS2; exact if_pos he
    rw [e1]
    refine (numberR_dead p _ e w hp.cell (h.dead (by omega))).mono ?_
    rintro en w' ⟨rfl, rfl⟩
    exact ⟨none, 0, 0, rfl, zeroLst _, by decide, (fun ad h => by cases h), h, World.grownBy.refl w _⟩
theorem Lst.offset {A : Option Addr} {n c B : Nat} {xs : List Nat} {w w' : World} {g : Nat} (h : Lst w A n c xs) (hg : w.grownBy w' (some g)) (ha : ∀ ad, A = some ad → B ≤ ad.block) (hB : g < B) : Lst w' A n c xs :=
  h.off hg (fun _ ad e => by have := ha ad e; omega)
theorem Lst.sizes {A : Option Addr} {n c : Nat} {xs : List Nat} {w : World} (h : Lst w A n c xs) {k : Nat} (hk : n ≤ k) : xs.length ≤ k := by rw [h.len]; exact hk
/-- A reader's Fraction hands back a fraction, or the zero value and an error. -/
def FracPost (g : Nat) (l : List UInt8) (w : World) (en : Ending) (w' : World) : Prop :=
  if (fracS l).2.2.2.2 ≠ 0 then en = .returned (.agg #[.bool false, .slice none 0 0, .slice none 0 0]) ∧ RP w' g [] (fracS l).2.2.2.2 ∧ w.grownBy w' (some g)
  else if validB (fracS l).1 (fracS l).2.1 (fracS l).2.2.1 = false then en = .returned (.agg #[.bool false, .slice none 0 0, .slice none 0 0]) ∧ RP w' g [] 2 ∧ w.grownBy w' (some g)
  else ∃ A n c B m d, en = .returned (.agg #[.bool (fracS l).1, .slice A n c, .slice B m d]) ∧ Lst w' A n c (fracS l).2.1 ∧ Lst w' B m d (fracS l).2.2.1 ∧ RP w' g (fracS l).2.2.2.1 0 ∧ w.grownBy w' (some g) ∧ n ≤ 2000 ∧ m ≤ 2000
theorem RP.offs {w w1 : World} {g f o : Nat} {l : List UInt8} {e : Int} {v : Value} (h : RP w g l e) (hne : g ≠ f) (hw : w1 = w.setCell ⟨f, o, none⟩ v) : RP w1 g l e := by subst hw; exact h.off (grown_set w f o v) hne
theorem grown_other {w w1 w2 : World} {g f : Nat} (h : w.grownBy w1 (some g)) (k : w1.grownBy w2 (some f)) (hf : w.heap.size ≤ f) : w.grownBy w2 (some g) :=
  ⟨k.os.trans h.os, k.tape.trans h.tape, k.output.trans h.output, Nat.le_trans h.size k.size, fun i hi hne => (k.block i (Nat.lt_of_lt_of_le hi h.size) (by intro e; injection e with e; omega)).trans (h.block i hi hne)⟩
theorem grown_of_below {w w1 : World} (g : Nat) (h : Below w.heap.size w w1) : w.grownBy w1 (some g) := ⟨h.os, h.tape, h.output, h.size, fun k hk _ => h.block k hk⟩
/-- What holds while the fraction is read: the variables p (the reader), p + 1 (the result), p + 2 (the fraction). -/
structure FrIn (w : World) (g : Nat) (l : List UInt8) (e : Nat) (s : Bool) (A : Option Addr) (n c : Nat) (B : Option Addr) (m d : Nat) (xs ys : List Nat) (W : World) : Prop where
  p : PV W w.heap.size (.pointer (some ⟨g, 0, none⟩))
  r : FB W (w.heap.size + 1) false none 0 0 none 0 0
  f : FB W (w.heap.size + 1 + 1) s A n c B m d
  rd : RP W g l e
  gr : w.grownBy W (some g)
  lt : g < w.heap.size
  x : Lst W A n c xs
  y : Lst W B m d ys
  xa : ∀ ad, A = some ad → w.heap.size + 1 + 1 < ad.block
  ya : ∀ ad, B = some ad → w.heap.size + 1 + 1 < ad.block
section
variable {w : World} {g : Nat} {l : List UInt8} {e : Nat} {s : Bool} {A : Option Addr} {n c : Nat} {B : Option Addr} {m d : Nat} {xs ys : List Nat} {W : World}
theorem FrIn.num (h : FrIn w g l e s A n c B m d xs ys W) {l' : List UInt8} {e' : Nat} {W' : World} (hr : RP W' g l' e') (hg : W.grownBy W' (some g)) : FrIn w g l' e' s A n c B m d xs ys W' :=
  ⟨h.p.off hg (by have := h.lt; omega), h.r.off1 hg (by have := h.lt; omega), h.f.off1 hg (by have := h.lt; omega), hr, grown_trans h.gr hg, h.lt,
    h.x.offset hg (fun ad ha => Nat.le_of_lt (h.xa ad ha)) (by have := h.lt; omega), h.y.offset hg (fun ad ha => Nat.le_of_lt (h.ya ad ha)) (by have := h.lt; omega), h.xa, h.ya⟩
theorem Lst.set_ {A' : Option Addr} {n' c' : Nat} {zs : List Nat} (h : Lst W A' n' c' zs) {f o : Nat} {v : Value} (ha : ∀ ad, A' = some ad → f < ad.block) : Lst (W.setCell ⟨f, o, none⟩ v) A' n' c' zs :=
  h.off (grown_set W f o v) (fun _ ad e => by have := ha ad e; omega)
theorem FrIn.s0 (h : FrIn w g l e s A n c B m d xs ys W) (s' : Bool) : FrIn w g l e s' A n c B m d xs ys (W.setCell ⟨w.heap.size + 1 + 1, 0, none⟩ (.bool s')) :=
  ⟨h.p.off (grown_set _ _ _ _) (by omega), h.r.off1 (grown_set _ _ _ _) (by omega), h.f.s0 s', h.rd.off (grown_set _ _ _ _) (by have := h.lt; omega), grown_other h.gr (grown_set _ _ _ _) (by omega), h.lt, h.x.set_ h.xa, h.y.set_ h.ya, h.xa, h.ya⟩
theorem FrIn.s1 (h : FrIn w g l e s A n c B m d xs ys W) {A' : Option Addr} {n' c' : Nat} {zs : List Nat} (hz : Lst W A' n' c' zs) (ha : ∀ ad, A' = some ad → w.heap.size + 1 + 1 < ad.block) : FrIn w g l e s A' n' c' B m d zs ys (W.setCell ⟨w.heap.size + 1 + 1, 1, none⟩ (.slice A' n' c')) :=
  ⟨h.p.off (grown_set _ _ _ _) (by omega), h.r.off1 (grown_set _ _ _ _) (by omega), h.f.s1 A' n' c', h.rd.off (grown_set _ _ _ _) (by have := h.lt; omega), grown_other h.gr (grown_set _ _ _ _) (by omega), h.lt, hz.set_ ha, h.y.set_ h.ya, ha, h.ya⟩
theorem FrIn.s2 (h : FrIn w g l e s A n c B m d xs ys W) {A' : Option Addr} {n' c' : Nat} {zs : List Nat} (hz : Lst W A' n' c' zs) (ha : ∀ ad, A' = some ad → w.heap.size + 1 + 1 < ad.block) : FrIn w g l e s A n c A' n' c' xs zs (W.setCell ⟨w.heap.size + 1 + 1, 2, none⟩ (.slice A' n' c')) :=
  ⟨h.p.off (grown_set _ _ _ _) (by omega), h.r.off1 (grown_set _ _ _ _) (by omega), h.f.s2 A' n' c', h.rd.off (grown_set _ _ _ _) (by have := h.lt; omega), grown_other h.gr (grown_set _ _ _ _) (by omega), h.lt, h.x.set_ h.xa, hz.set_ ha, h.xa, ha⟩
theorem FrIn.big (h : FrIn w g l e s A n c B m d xs ys W) : w.heap.size + 1 + 1 < W.heap.size := h.f.lt
theorem FrIn.start (h : RP w g l e) : FrIn w g l e false none 0 0 none 0 0 [] [] (fracWorld w (some ⟨g, 0, none⟩)) :=
  ⟨fracWorld_p _ _, fracWorld_r _ _, fracWorld_f _ _, h.keep (fracWorld_below _ _), grown_of_below g (fracWorld_below _ _), h.lt, zeroLst _, zeroLst _, (fun _ h => by cases h), (fun _ h => by cases h)⟩
end
/-- The last store: the result. -/
theorem FrIn.res {w : World} {g : Nat} {l : List UInt8} {e : Nat} {s : Bool} {A : Option Addr} {n c : Nat} {B : Option Addr} {m d : Nat} {xs ys : List Nat} {W : World} (h : FrIn w g l e s A n c B m d xs ys W) (s' : Bool) (A' : Option Addr) (n' c' : Nat) (B' : Option Addr) (m' d' : Nat) :
    RP (stFr W (w.heap.size + 1) s' A' n' c' B' m' d') g l e ∧ w.grownBy (stFr W (w.heap.size + 1) s' A' n' c' B' m' d') (some g) :=
  ⟨h.rd.off (grown_st _ _ _ _ _ _ _ _ _) (by have := h.lt; omega), grown_other h.gr (grown_st _ _ _ _ _ _ _ _ _) (by omega)⟩
theorem post_err {g : Nat} {l : List UInt8} {w : World} {en : Ending} {w' : World} {s : Bool} {xs ys : List Nat} {l3 : List UInt8} {e3 : Nat} (hf : fracS l = (s, xs, ys, l3, e3)) (he : e3 ≠ 0)
    (h : en = .returned (.agg #[.bool false, .slice none 0 0, .slice none 0 0]) ∧ RP w' g [] e3 ∧ w.grownBy w' (some g)) : FracPost g l w en w' := by
  unfold FracPost; rw [hf]; rw [if_pos he]; exact h
theorem post_bad {g : Nat} {l : List UInt8} {w : World} {en : Ending} {w' : World} {s : Bool} {xs ys : List Nat} {l3 : List UInt8} (hf : fracS l = (s, xs, ys, l3, 0)) (hv : validB s xs ys = false)
    (h : en = .returned (.agg #[.bool false, .slice none 0 0, .slice none 0 0]) ∧ RP w' g [] 2 ∧ w.grownBy w' (some g)) : FracPost g l w en w' := by
  unfold FracPost; rw [hf]; rw [if_neg (fun h => h rfl), if_pos hv]; exact h
theorem post_ok {g : Nat} {l : List UInt8} {w : World} {en : Ending} {w' : World} {s : Bool} {xs ys : List Nat} {l3 : List UInt8} (hf : fracS l = (s, xs, ys, l3, 0)) (hv : validB s xs ys = true)
    (h : ∃ A n c B m d, en = .returned (.agg #[.bool s, .slice A n c, .slice B m d]) ∧ Lst w' A n c xs ∧ Lst w' B m d ys ∧ RP w' g l3 0 ∧ w.grownBy w' (some g) ∧ n ≤ 2000 ∧ m ≤ 2000) : FracPost g l w en w' := by
  unfold FracPost; rw [hf]; rw [if_neg (fun h => h rfl), if_neg (by rw [hv]; decide)]; exact h
set_option maxRecDepth 100000 in
set_option maxHeartbeats 4000000 in
theorem fractionR_any (g : Nat) (l : List UInt8) (w : World) (h : RP w g l 0) (hl : l.length ≤ 1000000) :
    Calls Try.prog 26 #[.pointer (some ⟨g, 0, none⟩)] w (FracPost g l w) := by
  have hmf : ∀ (fn : Fn) (first cap : Array Value) (w : World), (Instr.makeFunc fn first cap).run Try.prog w = .ok (.func fn first cap) w := fun _ _ _ _ => rfl
  have I0 := Lib.hid (FrIn.start h)
  have p0 := I0.out.p.cell
  obtain ⟨f0, f1, f2, f3, f4, f5⟩ := I0.out.f.facts
  have U := uintR_any g l 1 (fracWorld w (some ⟨g, 0, none⟩)) I0.out.rd hl
  obtain ⟨x0, l1, e1, h0⟩ : ∃ x0 l1 e1, uintS l 1 = (x0, l1, e1) := ⟨_, _, _, rfl⟩
  obtain ⟨xs, l2, e2, h1⟩ : ∃ xs l2 e2, natS2 (l1, e1) = (xs, l2, e2) := ⟨_, _, _, rfl⟩
  obtain ⟨ys, l3, e3, h2⟩ : ∃ ys l3 e3, natS2 (l2, e2) = (ys, l3, e3) := ⟨_, _, _, rfl⟩
  have FS : Hid (fracS l = (decide (x0 = 1), xs, ys, l3, e3)) := Lib.hid (by simp only [fracS, h0, h1, h2])
  have d1 : e1 ≠ 0 → l1 = [] := fun he => by have := uintS_dead (l := l) (most := 1); rw [h0] at this; exact (this he).2
  have d2 : e2 ≠ 0 → l2 = [] := fun he => by have := natS2_dead (r := (l1, e1)); rw [h1] at this; exact this he
  have d3 : e3 ≠ 0 → l3 = [] := fun he => by have := natS2_dead (r := (l2, e2)); rw [h2] at this; exact this he
  have q1 : l1.length ≤ 1000000 := by have := uintS_ok_len l 1 hl; rwa [h0] at this
  have q2 : l2.length ≤ 1000000 := by have := natS2_len (l1, e1); rw [h1] at this; exact Nat.le_trans this q1
  rw [h0] at U
  have N1 : Hid (∀ (p : Nat) (W : World), PV W p (.pointer (some ⟨g, 0, none⟩)) → p ≠ g → RP W g l1 e1 → Calls Try.prog 44 #[.pointer (some ⟨p, 0, none⟩)] W (NumPost g (xs, l2, e2) W)) := Lib.hid (fun p W a b c => h1 ▸ number_both p g l1 e1 W a b c d1 q1)
  have N2 : Hid (∀ (p : Nat) (W : World), PV W p (.pointer (some ⟨g, 0, none⟩)) → p ≠ g → RP W g l2 e2 → Calls Try.prog 44 #[.pointer (some ⟨p, 0, none⟩)] W (NumPost g (ys, l3, e3) W)) := Lib.hid (fun p W a b c => h2 ▸ number_both p g l2 e2 W a b c d2 q2)
  have U1 := Lib.hid U
  have D3 := Lib.hid d3
  have e01 : ((x0 : Int) == 1) = decide (x0 = 1) := by
    by_cases hx : x0 = 1
    · subst hx; rfl
    · rw [decide_eq_false hx]; exact beq_eq_false_iff_ne.2 (by omega)
  have EQ := fracWorld_eq w (some ⟨g, 0, none⟩)
  have hgw := h.lt
  clear h U h0 h1 h2 d1 d2 d3 q1 q2
  generalize decide (x0 = 1) = s at *
  go_enter Try.func26, Try.ntmps26
  go_wp2_with fail
  clear EQ
  generalize hW : fracWorld w (some ⟨g, 0, none⟩) = W at *
  clear hW
  refine U1.out.mono ?_
  rintro en W1 ⟨rfl, hr, hG⟩
  have I1 := Lib.hid (I0.out.num hr hG)
  clear hr hG I0 p0 f0 f1 f2 f3 f4 f5 U1
  obtain ⟨f0, f1, f2, f3, f4, f5⟩ := I1.out.f.facts
  go_wp2_with fail
  have I2 := Lib.hid (I1.out.s0 s)
  clear I1 f0 f1 f2 f3 f4 f5
  generalize W1.setCell ⟨w.heap.size + 1 + 1, 0, none⟩ (.bool s) = W2 at *
  refine (N1.out _ _ I2.out.p (by omega) I2.out.rd).mono ?_
  rintro en W3 ⟨A1, n1, c1, rfl, hz, hz2, hz3, hr, hG⟩
  have hbig := I2.out.big
  have I3 := Lib.hid (I2.out.num hr hG)
  have LX := Lib.hid hz
  have LA : Hid (∀ ad, A1 = some ad → w.heap.size + 1 + 1 < ad.block) := Lib.hid (fun ad ha => by have := hz3 ad ha; omega)
  clear hz hz3 hr hG hbig I2
  obtain ⟨f0, f1, f2, f3, f4, f5⟩ := I3.out.f.facts
  go_wp2_with fail
  have I4 := Lib.hid (I3.out.s1 LX.out LA.out)
  clear I3 f0 f1 f2 f3 f4 f5 LX LA
  generalize W3.setCell ⟨w.heap.size + 1 + 1, 1, none⟩ (.slice A1 n1 c1) = W4 at *
  refine (N2.out _ _ I4.out.p (by omega) I4.out.rd).mono ?_
  rintro en W5 ⟨A2, n2, c2, rfl, hz, hz4, hz3, hr, hG⟩
  have hbig := I4.out.big
  have I5 := Lib.hid (I4.out.num hr hG)
  have LX := Lib.hid hz
  have LA : Hid (∀ ad, A2 = some ad → w.heap.size + 1 + 1 < ad.block) := Lib.hid (fun ad ha => by have := hz3 ad ha; omega)
  clear hz hz3 hr hG hbig I4 N1 N2
  obtain ⟨f0, f1, f2, f3, f4, f5⟩ := I5.out.f.facts
  have I6 := Lib.hid (I5.out.s2 LX.out LA.out)
  have p6 := I6.out.p.cell
  go_wp2_with fail
  clear I5 f0 f1 f2 f3 f4 f5 LX LA
  generalize W5.setCell ⟨w.heap.size + 1 + 1, 2, none⟩ (.slice A2 n2 c2) = W6 at *
  obtain ⟨f0, f1, f2, f3, f4, f5⟩ := I6.out.f.facts
  obtain ⟨r0, r1, r2, r3, r4, r5⟩ := I6.out.r.facts
  have E := Lib.hid (err_live g l3 e3 W6 I6.out.rd)
  by_cases he : e3 = 0
  · subst he
    refine E.out.mono ?_
    rintro en w' ⟨rfl, rfl⟩
    have V := Lib.hid (fvalid_any s A1 A2 n1 c1 n2 c2 xs ys W6 I6.out.x I6.out.y hz2 hz4)
    cases hv : validB s xs ys
    · rw [hv] at V
      go_wp2_with fail
      refine V.out.mono ?_
      rintro en W7 ⟨rfl, hb⟩
      have I7 := Lib.hid (I6.out.num (I6.out.rd.keep hb) (grown_of_below g hb))
      have p7 := I7.out.p.cell
      clear hb I6 f0 f1 f2 f3 f4 f5 r0 r1 r2 r3 r4 r5 p6 V E
      have FF := Lib.hid (fail_live g l3 2 W7 I7.out.rd (by decide))
      go_wp2_with fail
      refine FF.out.mono ?_
      rintro en W8 ⟨rfl, hr, hG⟩
      have I8 := Lib.hid (FrIn.num (e' := 2) I7.out hr hG)
      clear hr hG I7 p7 FF
      obtain ⟨r0, r1, r2, r3, r4, r5⟩ := I8.out.r.facts
      go_wp2
      refine bodyPost_ret (v := .agg #[.bool false, .slice none 0 0, .slice none 0 0]) (by simp [results, Try.results26, go_sem, r0, r1, r2]) rfl ?_
      exact post_bad FS.out hv ⟨rfl, I8.out.res false none 0 0 none 0 0⟩
    · rw [hv] at V
      go_wp2_with fail
      refine V.out.mono ?_
      rintro en W7 ⟨rfl, hb⟩
      have I7 := Lib.hid (I6.out.num (I6.out.rd.keep hb) (grown_of_below g hb))
      clear hb I6 f0 f1 f2 f3 f4 f5 r0 r1 r2 r3 r4 r5 p6 V E
      obtain ⟨f0, f1, f2, f3, f4, f5⟩ := I7.out.f.facts
      obtain ⟨r0, r1, r2, r3, r4, r5⟩ := I7.out.r.facts
      go_wp2
      refine bodyPost_ret (v := .agg #[.bool s, .slice A1 n1 c1, .slice A2 n2 c2]) (by simp [results, Try.results26, go_sem, r0, r1, r2]) rfl ?_
      obtain ⟨q1, q2⟩ := I7.out.res s A1 n1 c1 A2 n2 c2
      exact post_ok FS.out hv ⟨A1, n1, c1, A2, n2, c2, rfl, I7.out.x.off (grown_st _ _ _ _ _ _ _ _ _) (fun _ ad e => by have := I7.out.xa ad e; omega), I7.out.y.off (grown_st _ _ _ _ _ _ _ _ _) (fun _ ad e => by have := I7.out.ya ad e; omega), q1, q2, hz2, hz4⟩
  · have n0 : ((e3 : Int) != 0) = true := bne_iff_ne.2 (by omega)
    have HE := Lib.hid he
    clear he
    refine E.out.mono ?_
    rintro en w' ⟨rfl, rfl⟩
    go_wp2
    refine bodyPost_ret (v := .agg #[.bool false, .slice none 0 0, .slice none 0 0]) (by simp [results, Try.results26, go_sem, r0, r1, r2]) rfl ?_
    obtain ⟨q1, q2⟩ := I6.out.res false none 0 0 none 0 0
    rw [D3.out HE.out] at q1
    exact post_err FS.out HE.out ⟨rfl, q1, q2⟩
end Go.Proofs.Ytebfnbnaheolgaa
