/- The reference's reader: Fraction. No claim of its own. -/
import Derived.Test.YtebfnbnaheolgaaWRefRead3
namespace Go.Proofs.Ytebfnbnaheolgaa
open Go.RowKit
/-- What Fraction hands back, by the state behind it. -/
def RFracPost (g : Nat) (l : List UInt8) (w : World) (en : Ending) (w' : World) : Prop :=
  if (fracS l).2.2.2.2 ≠ 0 then en = .returned (.agg #[.bool false, .slice none 0 0, .slice none 0 0]) ∧ RR w' g [] (fracS l).2.2.2.2 ∧ w.grownBy w' (some g)
  else if validB (fracS l).1 (fracS l).2.1 (fracS l).2.2.1 = false then en = .returned (.agg #[.bool false, .slice none 0 0, .slice none 0 0]) ∧ RR w' g [] 2 ∧ w.grownBy w' (some g)
  else ∃ A n c B m d, en = .returned (.agg #[.bool (fracS l).1, .slice A n c, .slice B m d]) ∧ Lst w' A n c (fracS l).2.1 ∧ Lst w' B m d (fracS l).2.2.1 ∧ RR w' g (fracS l).2.2.2.1 0 ∧ w.grownBy w' (some g)
theorem rpost_err {g : Nat} {l : List UInt8} {w : World} {en : Ending} {w' : World} {s : Bool} {xs ys : List Nat} {l3 : List UInt8} {e3 : Nat} (hf : fracS l = (s, xs, ys, l3, e3)) (he : e3 ≠ 0)
    (h : en = .returned (.agg #[.bool false, .slice none 0 0, .slice none 0 0]) ∧ RR w' g [] e3 ∧ w.grownBy w' (some g)) : RFracPost g l w en w' := by
  unfold RFracPost; rw [hf]; rw [if_pos he]; exact h
theorem rpost_bad {g : Nat} {l : List UInt8} {w : World} {en : Ending} {w' : World} {s : Bool} {xs ys : List Nat} {l3 : List UInt8} (hf : fracS l = (s, xs, ys, l3, 0)) (hv : validB s xs ys = false)
    (h : en = .returned (.agg #[.bool false, .slice none 0 0, .slice none 0 0]) ∧ RR w' g [] 2 ∧ w.grownBy w' (some g)) : RFracPost g l w en w' := by
  unfold RFracPost; rw [hf]; rw [if_neg (fun h => h rfl), if_pos hv]; exact h
theorem rpost_ok {g : Nat} {l : List UInt8} {w : World} {en : Ending} {w' : World} {s : Bool} {xs ys : List Nat} {l3 : List UInt8} (hf : fracS l = (s, xs, ys, l3, 0)) (hv : validB s xs ys = true)
    (h : ∃ A n c B m d, en = .returned (.agg #[.bool s, .slice A n c, .slice B m d]) ∧ Lst w' A n c xs ∧ Lst w' B m d ys ∧ RR w' g l3 0 ∧ w.grownBy w' (some g)) : RFracPost g l w en w' := by
  unfold RFracPost; rw [hf]; rw [if_neg (fun h => h rfl), if_neg (by rw [hv]; decide)]; exact h
structure RFrIn (w : World) (g : Nat) (l : List UInt8) (e : Nat) (fb : Nat) (s : Bool) (A : Option Addr) (n c : Nat) (B : Option Addr) (m d : Nat) (xs ys : List Nat) (W : World) : Prop where
  r : FB W w.heap.size false none 0 0 none 0 0
  f : FB W fb s A n c B m d
  rd : RR W g l e
  gr : w.grownBy W (some g)
  lt : g < w.heap.size
  fl : w.heap.size < fb
  x : Lst W A n c xs
  y : Lst W B m d ys
  xa : 0 < n → ∀ ad, A = some ad → w.heap.size < ad.block ∧ ad.block ≠ fb
  ya : 0 < m → ∀ ad, B = some ad → w.heap.size < ad.block ∧ ad.block ≠ fb
section
variable {w : World} {g : Nat} {l : List UInt8} {e fb : Nat} {s : Bool} {A : Option Addr} {n c : Nat} {B : Option Addr} {m d : Nat} {xs ys : List Nat} {W : World}
theorem RFrIn.num (h : RFrIn w g l e fb s A n c B m d xs ys W) {l' : List UInt8} {e' : Nat} {W' : World} (hr : RR W' g l' e') (hg : W.grownBy W' (some g)) : RFrIn w g l' e' fb s A n c B m d xs ys W' :=
  ⟨h.r.off1 hg (by have := h.lt; omega), h.f.off1 hg (by have := h.lt; have := h.fl; omega), hr, grown_trans h.gr hg, h.lt, h.fl,
    h.x.off hg (fun hn ad ha => by have := (h.xa hn ad ha).1; have := h.lt; omega), h.y.off hg (fun hn ad ha => by have := (h.ya hn ad ha).1; have := h.lt; omega), h.xa, h.ya⟩
theorem Lst.setn {A' : Option Addr} {n' c' : Nat} {zs : List Nat} (h : Lst W A' n' c' zs) {f o : Nat} {v : Value} (ha : 0 < n' → ∀ ad, A' = some ad → ad.block ≠ f) : Lst (W.setCell ⟨f, o, none⟩ v) A' n' c' zs :=
  h.off (grown_set W f o v) ha
theorem RFrIn.s2 (h : RFrIn w g l e fb s A n c B m d xs ys W) {A' : Option Addr} {n' c' : Nat} {zs : List Nat} (hz : Lst W A' n' c' zs) (ha : 0 < n' → ∀ ad, A' = some ad → w.heap.size < ad.block ∧ ad.block ≠ fb) : RFrIn w g l e fb s A n c A' n' c' xs zs (W.setCell ⟨fb, 2, none⟩ (.slice A' n' c')) :=
  ⟨h.r.off1 (grown_set _ _ _ _) (by have := h.fl; omega), h.f.s2 A' n' c', h.rd.offs (by have := h.lt; have := h.fl; omega), grown_other h.gr (grown_set _ _ _ _) (by have := h.fl; omega), h.lt, h.fl, h.x.setn (fun hn ad e => (h.xa hn ad e).2), hz.setn (fun hn ad e => (ha hn ad e).2), h.xa, ha⟩
theorem RFrIn.begin_ {W3 : World} (hr : FB W3 w.heap.size false none 0 0 none 0 0) (rd : RR W3 g l e) (gr : w.grownBy W3 (some g)) (lt : g < w.heap.size) (hx : Lst W3 A n c xs) (xa : ∀ ad, A = some ad → w.heap.size < ad.block) (s : Bool) :
    RFrIn w g l e W3.heap.size s A n c none 0 0 xs [] (W3.alloc (.cells #[.bool s, .slice A n c, .slice none 0 0] 40)) := by
  have ba := below_new W3 (.cells #[.bool s, .slice A n c, .slice none 0 0] 40)
  have hlt := hr.lt
  have nx : 0 < n → ∀ ad, A = some ad → ad.block ≠ W3.heap.size := fun hn ad e => by
    obtain ⟨ad', e', hb, _⟩ := hx.at_ hn
    rw [e] at e'
    injection e' with e'
    subst e'
    omega
  exact ⟨hr.keep ba, FB.new W3 s A n c none 0 0, rd.keep ba, grown_then gr (ba.mono gr.size), lt, hlt, hx.keep ba, zeroLst _, fun hn ad e => ⟨xa ad e, nx hn ad e⟩, fun hn => absurd hn (by decide)⟩
/-- The last store: the result. -/
theorem RFrIn.res (h : RFrIn w g l e fb s A n c B m d xs ys W) (s' : Bool) (A' : Option Addr) (n' c' : Nat) (B' : Option Addr) (m' d' : Nat) :
    RR (stFr W w.heap.size s' A' n' c' B' m' d') g l e ∧ w.grownBy (stFr W w.heap.size s' A' n' c' B' m' d') (some g) :=
  ⟨h.rd.off (grown_st _ _ _ _ _ _ _ _ _) (by have := h.lt; omega), grown_other h.gr (grown_st _ _ _ _ _ _ _ _ _) (Nat.le_refl _)⟩
end
set_option maxRecDepth 100000 in
set_option maxHeartbeats 4000000 in
theorem rfractionR_any (g : Nat) (l : List UInt8) (w : World) (h : RR w g l 0) (hl : l.length ≤ 1000000) :
    Calls Try.prog 49 #[.pointer (some ⟨g, 0, none⟩)] w (RFracPost g l w) := by
  have hgw := h.lt
  have b0 := below_new w (.cells #[.bool false, .slice none 0 0, .slice none 0 0] 40)
  have U := ruintR_any g l 1 (w.alloc (.cells #[.bool false, .slice none 0 0, .slice none 0 0] 40)) (h.keep b0) hl
  have R0 := Lib.hid (FB.new w false none 0 0 none 0 0)
  have G0 := Lib.hid (grown_of_below g b0)
  obtain ⟨x0, l1, e1, h0⟩ : ∃ x0 l1 e1, uintS l 1 = (x0, l1, e1) := ⟨_, _, _, rfl⟩
  obtain ⟨xs, l2, e2, h1⟩ : ∃ xs l2 e2, natS2 (l1, e1) = (xs, l2, e2) := ⟨_, _, _, rfl⟩
  obtain ⟨ys, l3, e3, h2⟩ : ∃ ys l3 e3, natS2 (l2, e2) = (ys, l3, e3) := ⟨_, _, _, rfl⟩
  have FS : Hid (fracS l = (decide (x0 = 1), xs, ys, l3, e3)) := Lib.hid (by simp only [fracS, h0, h1, h2])
  have d1 : e1 ≠ 0 → l1 = [] := fun he => by have := uintS_dead (l := l) (most := 1); rw [h0] at this; exact (this he).2
  have d2 : e2 ≠ 0 → l2 = [] := fun he => by have := natS2_dead (r := (l1, e1)); rw [h1] at this; exact this he
  have d3 : e3 ≠ 0 → l3 = [] := fun he => by have := natS2_dead (r := (l2, e2)); rw [h2] at this; exact this he
  have q1 : l1.length ≤ 1000000 := by have := uintS_ok_len l 1 hl; rwa [h0] at this
  have q2 : l2.length ≤ 1000000 := by have := natS2_len (l1, e1); rw [h1] at this; exact Nat.le_trans this q1
  rw [h0] at U
  have N1 : Hid (∀ (W : World), RR W g l1 e1 → Calls Try.prog 59 #[.pointer (some ⟨g, 0, none⟩)] W (RNumPost g (xs, l2, e2) W)) := Lib.hid (fun W c => h1 ▸ rnumber_both g l1 e1 W c d1 q1)
  have N2 : Hid (∀ (W : World), RR W g l2 e2 → Calls Try.prog 59 #[.pointer (some ⟨g, 0, none⟩)] W (RNumPost g (ys, l3, e3) W)) := Lib.hid (fun W c => h2 ▸ rnumber_both g l2 e2 W c d2 q2)
  have U1 := Lib.hid U
  have D3 := Lib.hid d3
  have e01 : ((x0 : Int) == 1) = decide (x0 = 1) := by
    by_cases hx : x0 = 1
    · subst hx; rfl
    · rw [decide_eq_false hx]; exact beq_eq_false_iff_ne.2 (by omega)
  clear h U h0 h1 h2 d1 d2 d3 q1 q2 b0
  generalize decide (x0 = 1) = s at *
  go_enter Try.func49, Try.ntmps49
  go_wp2_with fail
  refine U1.out.mono ?_
  rintro en W1 ⟨rfl, hr, hG⟩
  have R1 := Lib.hid (R0.out.off1 hG (by omega))
  have G1 := Lib.hid (grown_trans G0.out hG)
  have K1 := Lib.hid hr
  clear hr hG R0 G0 U1
  go_wp2_with fail
  refine (N1.out _ K1.out).mono ?_
  rintro en W2 ⟨A1, n1, c1, rfl, hz, hz2, hz3, hr, hG⟩
  have hb1 := R1.out.lt
  have I0 := Lib.hid (RFrIn.begin_ (w := w) (R1.out.off1 hG (by omega)) hr (grown_trans G1.out hG) hgw hz (fun ad ha => by have := hz3 ad ha; omega) s)
  clear hz hz3 hr hG hb1 R1 G1 K1 N1
  go_wp2_with fail
  generalize W2.alloc (.cells #[.bool s, .slice A1 n1 c1, .slice none 0 0] 40) = W3 at *
  generalize W2.heap.size = fb at *
  refine (N2.out _ I0.out.rd).mono ?_
  rintro en W4 ⟨A2, n2, c2, rfl, hz, hz4, hz3, hr, hG⟩
  have hfl := I0.out.f.lt
  have hfw := I0.out.fl
  have I1 := Lib.hid (I0.out.num hr hG)
  have LX := Lib.hid hz
  have LA : Hid (0 < n2 → ∀ ad, A2 = some ad → w.heap.size < ad.block ∧ ad.block ≠ fb) := Lib.hid (fun _ ad ha => by have := hz3 ad ha; omega)
  clear hz hz3 hr hG hfl hfw I0 N2
  obtain ⟨f0, f1, f2, f3, f4, f5⟩ := I1.out.f.facts
  have I2 := Lib.hid (I1.out.s2 LX.out LA.out)
  obtain ⟨ss, hss, _, p0, p1, p2, p3⟩ := I2.out.rd.facts
  obtain ⟨u0, u1, u2, _, _, _⟩ := I2.out.f.facts
  obtain ⟨r0, r1, r2, r3, r4, r5⟩ := I2.out.r.facts
  clear hss
  by_cases he : e3 = 0
  · subst he
    have V := Lib.hid (lowest_any s A1 A2 n1 c1 n2 c2 xs ys _ I2.out.x I2.out.y hz2 hz4)
    cases hv : validB s xs ys
    · rw [hv] at V
      go_wp2_with fail
      clear I1 f0 f1 f2 f3 f4 f5 LX LA
      generalize W4.setCell ⟨fb, 2, none⟩ (.slice A2 n2 c2) = W5 at *
      refine V.out.mono ?_
      rintro en W6 ⟨rfl, hb⟩
      have I3 := Lib.hid (I2.out.num (I2.out.rd.keep hb) (grown_of_below g hb))
      have K := I3.out.rd.err (k := 2) (by decide)
      have I4 := Lib.hid (RFrIn.num (e' := 2) I3.out K (grown_set _ _ _ _))
      clear hb I2 V p0 p1 p2 p3 u0 u1 u2 r0 r1 r2 r3 r4 r5 K
      obtain ⟨s6, hs6, _, p0, p1, p2, p3⟩ := I3.out.rd.facts
      obtain ⟨s7, hs7, _, y0, y1, y2, y3⟩ := I4.out.rd.facts
      obtain ⟨r0, r1, r2, r3, r4, r5⟩ := I4.out.r.facts
      clear hs6 hs7 I3
      go_wp2
      refine bodyPost_ret (v := .agg #[.bool false, .slice none 0 0, .slice none 0 0]) (by simp [results, Try.results49, go_sem, r0, r1, r2]) rfl ?_
      exact rpost_bad FS.out hv ⟨rfl, I4.out.res false none 0 0 none 0 0⟩
    · rw [hv] at V
      go_wp2_with fail
      clear I1 f0 f1 f2 f3 f4 f5 LX LA
      generalize W4.setCell ⟨fb, 2, none⟩ (.slice A2 n2 c2) = W5 at *
      refine V.out.mono ?_
      rintro en W6 ⟨rfl, hb⟩
      have I3 := Lib.hid (I2.out.num (I2.out.rd.keep hb) (grown_of_below g hb))
      clear hb I2 V p0 p1 p2 p3 u0 u1 u2 r0 r1 r2 r3 r4 r5
      obtain ⟨s6, hs6, _, p0, p1, p2, p3⟩ := I3.out.rd.facts
      obtain ⟨u0, u1, u2, _, _, _⟩ := I3.out.f.facts
      obtain ⟨r0, r1, r2, r3, r4, r5⟩ := I3.out.r.facts
      clear hs6
      go_wp2
      refine bodyPost_ret (v := .agg #[.bool s, .slice A1 n1 c1, .slice A2 n2 c2]) (by simp [results, Try.results49, go_sem, r0, r1, r2]) rfl ?_
      obtain ⟨q1, q2⟩ := I3.out.res s A1 n1 c1 A2 n2 c2
      exact rpost_ok FS.out hv ⟨A1, n1, c1, A2, n2, c2, rfl, I3.out.x.off (grown_st _ _ _ _ _ _ _ _ _) (fun hn ad e => by have := (I3.out.xa hn ad e).1; omega), I3.out.y.off (grown_st _ _ _ _ _ _ _ _ _) (fun hn ad e => by have := (I3.out.ya hn ad e).1; omega), q1, q2⟩
  · have n0 : ((e3 : Int) == 0) = false := beq_eq_false_iff_ne.2 (by omega)
    have n1 : ((e3 : Int) != 0) = true := bne_iff_ne.2 (by omega)
    have HE := Lib.hid he
    clear he
    go_wp2
    refine bodyPost_ret (v := .agg #[.bool false, .slice none 0 0, .slice none 0 0]) (by simp [results, Try.results49, go_sem, r0, r1, r2]) rfl ?_
    obtain ⟨q1, q2⟩ := I2.out.res false none 0 0 none 0 0
    rw [D3.out HE.out] at q1
    exact rpost_err FS.out HE.out ⟨rfl, q1, q2⟩
set_option maxRecDepth 100000 in
set_option maxHeartbeats 2000000 in
theorem rfractionR_dead (g : Nat) (l : List UInt8) (e : Int) (w : World) (h : RR w g l e) (he : e ≠ 0) :
    Calls Try.prog 49 #[.pointer (some ⟨g, 0, none⟩)] w (Rr (.agg #[.bool false, .slice none 0 0, .slice none 0 0]) g l e w) := by
  have hgw := h.lt
  have b0 := below_new w (.cells #[.bool false, .slice none 0 0, .slice none 0 0] 40)
  have K0 := h.keep b0
  have U := Lib.hid (ruintR_dead g l e 1 _ K0 he)
  have N := Lib.hid (fun W (h : RR W g l e) => rnumber_dead g l e W h he)
  have R0 := FB.new w false none 0 0 none 0 0
  have n0 : (e == 0) = false := beq_eq_false_iff_ne.2 he
  have n1 : (e != 0) = true := bne_iff_ne.2 he
  have KK := Lib.hid K0
  have RR0 := Lib.hid R0
  have BB := Lib.hid b0
  clear h he K0 R0 b0
  go_enter Try.func49, Try.ntmps49
  go_wp2_with fail
  refine U.out.mono ?_
  rintro en w' ⟨rfl, rfl⟩
  go_wp2_with fail
  refine (N.out _ KK.out).mono ?_
  rintro en w' ⟨rfl, rfl⟩
  go_wp2_with fail
  generalize hW : w.alloc (.cells #[.bool false, .slice none 0 0, .slice none 0 0] 40) = W at *
  have hb := below_new W (.cells #[.bool false, .slice none 0 0, .slice none 0 0] 40)
  have K1 := KK.out.keep hb
  have F1 := FB.new W false none 0 0 none 0 0
  have R1 := RR0.out.keep hb
  have hfl := RR0.out.lt
  have B1 := Lib.hid (BB.out.trans (hb.mono BB.out.size))
  have hsz : W.heap.size = w.heap.size + 1 := by rw [← hW]; simp
  rw [hsz] at F1
  clear hb hW
  generalize W.alloc (.cells #[.bool false, .slice none 0 0, .slice none 0 0] 40) = W2 at *
  obtain ⟨f0, f1, f2, f3, f4, f5⟩ := F1.facts
  refine (N.out _ K1).mono ?_
  rintro en w' ⟨rfl, rfl⟩
  have K2 := K1.offs (f := w.heap.size + 1) (o := 2) (v := .slice none 0 0) (by omega)
  have R2 := R1.off1 (grown_set _ (w.heap.size + 1) 2 (.slice none 0 0)) (by omega)
  have B2 := Lib.hid (B1.out.setCell (p := ⟨w.heap.size + 1, 2, none⟩) (show w.heap.size ≤ w.heap.size + 1 by omega) (.slice none 0 0))
  obtain ⟨ss, hss, _, p0, p1, p2, p3⟩ := K2.facts
  obtain ⟨r0, r1, r2, r3, r4, r5⟩ := R2.facts
  have KH := Lib.hid K2
  clear hss K1 F1 R1 KK RR0 BB B1 K2 R2 N U
  go_wp2
  refine bodyPost_ret (v := .agg #[.bool false, .slice none 0 0, .slice none 0 0]) (by simp [results, Try.results49, go_sem, r0, r1, r2]) rfl ?_
  exact ⟨rfl, KH.out.off (grown_st _ _ _ _ _ _ _ _ _) (by omega), grown_other (grown_of_below g B2.out) (grown_st _ w.heap.size false none 0 0 none 0 0) (Nat.le_refl _)⟩
end Go.Proofs.Ytebfnbnaheolgaa
