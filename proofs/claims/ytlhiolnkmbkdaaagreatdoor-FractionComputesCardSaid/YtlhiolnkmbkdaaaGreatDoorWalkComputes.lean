/- The walk of FractionComputes: no claim of its own. -/
import Derived.Test.YtlhiolnkmbkdaaaGreatDoorTwo
import Derived.Test.YtlhiolnkmbkdaaaGreatDoorShortF
namespace Go.Proofs.YtlhiolnkmbkdaaaGreatDoor
open Go.RowKit
/-- Two fractions in the first two variables of a call that began at w0. -/
structure TwoIn (w0 : World) (s : Bool) (A : Option Addr) (n c : Nat) (B : Option Addr) (m d p q : Nat) (xs ys : List Nat) (s' : Bool) (A' : Option Addr) (n' c' : Nat) (B' : Option Addr) (m' d' p' q' : Nat) (xs' ys' : List Nat) (W : World) : Prop where
  x : Num W A n c xs p
  y : Num W B m d ys q
  u : Num W A' n' c' xs' p'
  v : Num W B' m' d' ys' q'
  h : FB W w0.heap.size s A n c B m d
  k : FB W (w0.heap.size + 1) s' A' n' c' B' m' d'
  b : Below w0.heap.size w0 W
section
variable {w0 : World} {s : Bool} {A : Option Addr} {n c : Nat} {B : Option Addr} {m d p q : Nat} {xs ys : List Nat} {s' : Bool} {A' : Option Addr} {n' c' : Nat} {B' : Option Addr} {m' d' p' q' : Nat} {xs' ys' : List Nat} {W W' : World}
theorem TwoIn.keep (h : TwoIn w0 s A n c B m d p q xs ys s' A' n' c' B' m' d' p' q' xs' ys' W) (hb : Below W.heap.size W W') : TwoIn w0 s A n c B m d p q xs ys s' A' n' c' B' m' d' p' q' xs' ys' W' :=
  ⟨h.x.keep hb, h.y.keep hb, h.u.keep hb, h.v.keep hb, h.h.keep hb, h.k.keep hb, h.b.trans (hb.mono h.b.size)⟩
theorem TwoIn.drew (h : TwoIn w0 s A n c B m d p q xs ys s' A' n' c' B' m' d' p' q' xs' ys' W) : TwoIn w0 s A n c B m d p q xs ys s' A' n' c' B' m' d' p' q' xs' ys' W.drew := h.keep (Below.refl _ _).drew
theorem TwoIn.start (hx : Num w0 A n c xs p) (hy : Num w0 B m d ys q) (hu : Num w0 A' n' c' xs' p') (hv : Num w0 B' m' d' ys' q') :
    TwoIn w0 s A n c B m d p q xs ys s' A' n' c' B' m' d' p' q' xs' ys' ((w0.alloc (.cells #[.bool s, .slice A n c, .slice B m d] 25)).alloc (.cells #[.bool s', .slice A' n' c', .slice B' m' d'] 25)) := by
  have b0 := ((Below.refl w0.heap.size w0).alloc (Nat.le_refl _) (.cells #[.bool s, .slice A n c, .slice B m d] 25)).alloc (by simp) (.cells #[.bool s', .slice A' n' c', .slice B' m' d'] 25)
  have k := FB.new (w0.alloc (.cells #[.bool s, .slice A n c, .slice B m d] 25)) s' A' n' c' B' m' d'
  rw [show (w0.alloc (.cells #[.bool s, .slice A n c, .slice B m d] 25)).heap.size = w0.heap.size + 1 by simp] at k
  exact ⟨hx.keep b0, hy.keep b0, hu.keep b0, hv.keep b0, (FB.new w0 s A n c B m d).alloc _, k, b0⟩
end
set_option maxRecDepth 100000 in
set_option maxHeartbeats 4000000 in
theorem computes_pos (s s' : Bool) (A B A' B' : Option Addr) (n c m d n' c' m' d' p q p' q' : Nat) (xs ys xs' ys' : List Nat) (w : World) (T TN TA TS TM : Fr) (v l : Int) (hx : Num w A n c xs p) (hy : Num w B m d ys q) (hx' : Num w A' n' c' xs' p') (hy' : Num w B' m' d' ys' q')
    (V1 : Hid (∀ w', Below w.heap.size w w' → Calls Tryz.prog 8 #[.agg #[.bool s, .slice A n c, .slice B m d]] w' (Gives (.bool true) w'))) (V2 : Hid (∀ w', Below w.heap.size w w' → Calls Tryz.prog 8 #[.agg #[.bool s', .slice A' n' c', .slice B' m' d']] w' (Gives (.bool true) w')))
    (C1 : Hid (∀ W, TwoIn w s A n c B m d p q xs ys s' A' n' c' B' m' d' p' q' xs' ys' W → Calls Tryz.prog 17 #[.agg #[.bool s, .slice A n c, .slice B m d], .agg #[.bool s', .slice A' n' c', .slice B' m' d']] W (GivesFrE T 0 W)))
    (C2 : Hid (∀ W, TwoIn w s A n c B m d p q xs ys s' A' n' c' B' m' d' p' q' xs' ys' W → Calls Tryz.prog 19 #[.agg #[.bool s, .slice A n c, .slice B m d], .agg #[.bool s', .slice A' n' c', .slice B' m' d']] W (GivesFrE T 0 W)))
    (C3 : Hid (∀ W, TwoIn w s A n c B m d p q xs ys s' A' n' c' B' m' d' p' q' xs' ys' W → Calls Tryz.prog 20 #[.agg #[.bool s, .slice A n c, .slice B m d], .agg #[.bool s', .slice A' n' c', .slice B' m' d']] W (Gives (.int .i64 v) W)))
    (C4 : Hid (∀ W, TwoIn w s A n c B m d p q xs ys s' A' n' c' B' m' d' p' q' xs' ys' W → Calls Tryz.prog 21 #[.agg #[.bool s, .slice A n c, .slice B m d], .agg #[.bool s', .slice A' n' c', .slice B' m' d']] W (Gives (.int .i64 v) W)))
    (C5 : Hid (∀ W, TwoIn w s A n c B m d p q xs ys s' A' n' c' B' m' d' p' q' xs' ys' W → Calls Tryz.prog 22 #[.agg #[.bool s, .slice A n c, .slice B m d]] W (Gives (.int .i64 l) W)))
    (C6 : Hid (∀ W, TwoIn w s A n c B m d p q xs ys s' A' n' c' B' m' d' p' q' xs' ys' W → Calls Tryz.prog 18 #[.agg #[.bool s, .slice A n c, .slice B m d]] W (Gives (.int .i64 l) W)))
    (C7 : Hid (∀ W, TwoIn w s A n c B m d p q xs ys s' A' n' c' B' m' d' p' q' xs' ys' W → Calls Tryz.prog 15 #[.agg #[.bool s, .slice A n c, .slice B m d]] W (GivesFr TN W)))
    (C8 : Hid (∀ W, TwoIn w s A n c B m d p q xs ys s' A' n' c' B' m' d' p' q' xs' ys' W → Calls Tryz.prog 23 #[.agg #[.bool s, .slice A n c, .slice B m d]] W (GivesFr TN W)))
    (C9 : Hid (∀ W, TwoIn w s A n c B m d p q xs ys s' A' n' c' B' m' d' p' q' xs' ys' W → Calls Tryz.prog 10 #[.agg #[.bool s, .slice A n c, .slice B m d], .agg #[.bool s', .slice A' n' c', .slice B' m' d']] W (GivesFr TA W)))
    (CA : Hid (∀ W, TwoIn w s A n c B m d p q xs ys s' A' n' c' B' m' d' p' q' xs' ys' W → Calls Tryz.prog 24 #[.agg #[.bool s, .slice A n c, .slice B m d], .agg #[.bool s', .slice A' n' c', .slice B' m' d']] W (GivesFr TA W)))
    (CB : Hid (∀ W, TwoIn w s A n c B m d p q xs ys s' A' n' c' B' m' d' p' q' xs' ys' W → Calls Tryz.prog 14 #[.agg #[.bool s, .slice A n c, .slice B m d], .agg #[.bool s', .slice A' n' c', .slice B' m' d']] W (GivesFr TS W)))
    (CC : Hid (∀ W, TwoIn w s A n c B m d p q xs ys s' A' n' c' B' m' d' p' q' xs' ys' W → Calls Tryz.prog 25 #[.agg #[.bool s, .slice A n c, .slice B m d], .agg #[.bool s', .slice A' n' c', .slice B' m' d']] W (GivesFr TS W)))
    (CD : Hid (∀ W, TwoIn w s A n c B m d p q xs ys s' A' n' c' B' m' d' p' q' xs' ys' W → Calls Tryz.prog 11 #[.agg #[.bool s, .slice A n c, .slice B m d], .agg #[.bool s', .slice A' n' c', .slice B' m' d']] W (GivesFr TM W)))
    (CE : Hid (∀ W, TwoIn w s A n c B m d p q xs ys s' A' n' c' B' m' d' p' q' xs' ys' W → Calls Tryz.prog 26 #[.agg #[.bool s, .slice A n c, .slice B m d], .agg #[.bool s', .slice A' n' c', .slice B' m' d']] W (GivesFr TM W))) :
    Calls Tryz.prog 4 #[.agg #[.bool s, .slice A n c, .slice B m d], .agg #[.bool s', .slice A' n' c', .slice B' m' d']] w (Gives (.bool true) w) := by
  have I0 := Lib.hid (TwoIn.start (s := s) (s' := s') hx hy hx' hy')
  have J5 := Lib.hid awake2
  clear hx hy hx' hy'
  obtain ⟨Ha, Hb, Hc, _, _, _⟩ := I0.out.h.facts
  obtain ⟨Ka, Kb, Kc, _, _, _⟩ := I0.out.k.facts
  go_enter Tryz.func4, Tryz.ntmps4
  go_wp2_with fail
  refine (V1.out _ I0.out.b).mono ?_
  rintro e w1 ⟨rfl, hb⟩
  have I1 := Lib.hid (I0.out.keep hb)
  clear hb I0 Ha Hb Hc Ka Kb Kc
  obtain ⟨Ha, Hb, Hc, _, _, _⟩ := I1.out.h.facts
  obtain ⟨Ka, Kb, Kc, _, _, _⟩ := I1.out.k.facts
  go_wp2_with fail
  refine (V2.out _ I1.out.b).mono ?_
  rintro e w2 ⟨rfl, hb⟩
  have I2 := Lib.hid (I1.out.keep hb)
  clear hb I1 Ha Hb Hc Ka Kb Kc
  obtain ⟨Ha, Hb, Hc, _, _, _⟩ := I2.out.h.facts
  obtain ⟨Ka, Kb, Kc, _, _, _⟩ := I2.out.k.facts
  go_wp2_with fail
  refine (C1.out _ I2.out).mono ?_
  rintro e w3 ⟨A1, n1, c1, x1, D1, m1, d1, y1, rfl, hN, hM, hb⟩
  have ba : Below w3.heap.size w3 (w3.alloc (.cells #[.bool T.s, .slice A1 n1 c1, .slice D1 m1 d1] 25)) := below_alloc _ _
  have P3 := Lib.hid (hN.keep ba)
  have Q3 := Lib.hid (hM.keep ba)
  have F3 := Lib.hid (FB.new w3 T.s A1 n1 c1 D1 m1 d1)
  have I3 := Lib.hid ((I2.out.keep hb).keep ba)
  clear hN hM hb ba I2 Ha Hb Hc Ka Kb Kc
  obtain ⟨Ha, Hb, Hc, _, _, _⟩ := I3.out.h.facts
  obtain ⟨Ka, Kb, Kc, _, _, _⟩ := I3.out.k.facts
  go_wp2_with fail
  clear Ha Hb Hc Ka Kb Kc
  obtain ⟨v3, hv⟩ : ∃ v, w3.alloc (.cells #[.bool T.s, .slice A1 n1 c1, .slice D1 m1 d1] 25) = v := ⟨_, rfl⟩
  obtain ⟨g1, hg⟩ : ∃ g, w3.heap.size = g := ⟨_, rfl⟩
  rw [hv, hg]
  rw [hv] at P3 Q3 F3 I3
  rw [hg] at F3
  clear hv hg
  refine (C2.out _ I3.out).mono ?_
  rintro e w4 ⟨A2, n2, c2, x2, D2, m2, d2, y2, rfl, hN, hM, hb⟩
  have ba : Below w4.heap.size w4 (w4.alloc (.cells #[.bool T.s, .slice A2 n2 c2, .slice D2 m2 d2] 25)) := below_alloc _ _
  have zJ1 := (P3.out.keep hb).keep ba
  have zJ2 := (Q3.out.keep hb).keep ba
  have zJ3 := hN.keep ba
  have zJ4 := hM.keep ba
  have zO := (F3.out.keep hb).keep ba
  have zO2 := FB.new w4 T.s A2 n2 c2 D2 m2 d2
  have I := (I3.out.keep hb).keep ba
  clear hN hM hb ba I3 P3 Q3 F3
  obtain ⟨Ha, Hb, Hc, _, _, _⟩ := I.h.facts
  obtain ⟨Ka, Kb, Kc, _, _, _⟩ := I.k.facts
  go_wp2_with fail
  clear Ha Hb Hc Ka Kb Kc
  obtain ⟨v4, hv⟩ : ∃ v, w4.alloc (.cells #[.bool T.s, .slice A2 n2 c2, .slice D2 m2 d2] 25) = v := ⟨_, rfl⟩
  obtain ⟨g2, hg⟩ : ∃ g, w4.heap.size = g := ⟨_, rfl⟩
  rw [hv, hg]
  rw [hv] at zJ1 zJ2 zJ3 zJ4 zO zO2 I
  rw [hg] at zO2
  clear hv hg
  replace I := I.drew
  replace zO := zO.drew
  replace zO2 := zO2.drew
  replace zJ1 := zJ1.drew_
  replace zJ2 := zJ2.drew_
  replace zJ3 := zJ3.drew_
  replace zJ4 := zJ4.drew_
  obtain ⟨Ha, Hb, Hc, _, _, _⟩ := I.h.facts
  obtain ⟨Ka, Kb, Kc, _, _, _⟩ := I.k.facts
  obtain ⟨Oa, Ob, Oc, _, _, _⟩ := zO.facts
  obtain ⟨Pa, Pb, Pc, _, _, _⟩ := zO2.facts
  go_region_held3 (fun w' => w'.cell? ⟨w.heap.size, 0, none⟩ = some (.bool s) ∧ w'.cell? ⟨w.heap.size, 1, none⟩ = some (.slice A n c) ∧ w'.cell? ⟨w.heap.size, 2, none⟩ = some (.slice B m d) ∧ w'.cell? ⟨w.heap.size + 1, 0, none⟩ = some (.bool s') ∧ w'.cell? ⟨w.heap.size + 1, 1, none⟩ = some (.slice A' n' c') ∧ w'.cell? ⟨w.heap.size + 1, 2, none⟩ = some (.slice B' m' d') ∧ w'.cell? ⟨g1, 0, none⟩ = some (.bool T.s) ∧ w'.cell? ⟨g1, 1, none⟩ = some (.slice A1 n1 c1) ∧ w'.cell? ⟨g1, 2, none⟩ = some (.slice D1 m1 d1) ∧ w'.cell? ⟨g2, 0, none⟩ = some (.bool T.s) ∧ w'.cell? ⟨g2, 1, none⟩ = some (.slice A2 n2 c2) ∧ w'.cell? ⟨g2, 2, none⟩ = some (.slice D2 m2 d2)) (first | (with_reducible exact ⟨Ha, Hb, Hc, Ka, Kb, Kc, Oa, Ob, Oc, Pa, Pb, Pc⟩) | go_keep) (first | (go_at_call 13; (with_reducible refine (sameFr_yes (t := T) rfl rfl zJ1 zJ2 zJ3 zJ4).mono ?_); rintro e wq ⟨rfl, hb⟩; replace I := I.keep hb; (try replace zJ1 := zJ1.keep hb); (try replace zJ2 := zJ2.keep hb); (try replace zJ3 := zJ3.keep hb); (try replace zJ4 := zJ4.keep hb); (try replace zE := zE.keep hb); (try replace zG := zG.keep hb); (try replace zE2 := zE2.keep hb); (try replace zG2 := zG2.keep hb); (try replace zO := zO.keep hb); (try replace zO2 := zO2.keep hb); clear hb Ha Hb Hc Ka Kb Kc Oa Ob Oc Pa Pb Pc; obtain ⟨Ha, Hb, Hc, _, _, _⟩ := I.h.facts; obtain ⟨Ka, Kb, Kc, _, _, _⟩ := I.k.facts; obtain ⟨Oa, Ob, Oc, _, _, _⟩ := zO.facts; obtain ⟨Pa, Pb, Pc, _, _, _⟩ := zO2.facts) | (go_at_call 20; (with_reducible refine (C3.out _ I).mono ?_); rintro e wq ⟨rfl, hb⟩; replace I := I.keep hb; (try replace zJ1 := zJ1.keep hb); (try replace zJ2 := zJ2.keep hb); (try replace zJ3 := zJ3.keep hb); (try replace zJ4 := zJ4.keep hb); (try replace zE := zE.keep hb); (try replace zG := zG.keep hb); (try replace zE2 := zE2.keep hb); (try replace zG2 := zG2.keep hb); (try replace zO := zO.keep hb); (try replace zO2 := zO2.keep hb); clear hb Ha Hb Hc Ka Kb Kc Oa Ob Oc Pa Pb Pc; obtain ⟨Ha, Hb, Hc, _, _, _⟩ := I.h.facts; obtain ⟨Ka, Kb, Kc, _, _, _⟩ := I.k.facts; obtain ⟨Oa, Ob, Oc, _, _, _⟩ := zO.facts; obtain ⟨Pa, Pb, Pc, _, _, _⟩ := zO2.facts) | (go_at_call 21; (with_reducible refine (C4.out _ I).mono ?_); rintro e wq ⟨rfl, hb⟩; replace I := I.keep hb; (try replace zJ1 := zJ1.keep hb); (try replace zJ2 := zJ2.keep hb); (try replace zJ3 := zJ3.keep hb); (try replace zJ4 := zJ4.keep hb); (try replace zE := zE.keep hb); (try replace zG := zG.keep hb); (try replace zE2 := zE2.keep hb); (try replace zG2 := zG2.keep hb); (try replace zO := zO.keep hb); (try replace zO2 := zO2.keep hb); clear hb Ha Hb Hc Ka Kb Kc Oa Ob Oc Pa Pb Pc; obtain ⟨Ha, Hb, Hc, _, _, _⟩ := I.h.facts; obtain ⟨Ka, Kb, Kc, _, _, _⟩ := I.k.facts; obtain ⟨Oa, Ob, Oc, _, _, _⟩ := zO.facts; obtain ⟨Pa, Pb, Pc, _, _, _⟩ := zO2.facts) | (go_at_call 22; (with_reducible refine (C5.out _ I).mono ?_); rintro e wq ⟨rfl, hb⟩; replace I := I.keep hb; (try replace zJ1 := zJ1.keep hb); (try replace zJ2 := zJ2.keep hb); (try replace zJ3 := zJ3.keep hb); (try replace zJ4 := zJ4.keep hb); (try replace zE := zE.keep hb); (try replace zG := zG.keep hb); (try replace zE2 := zE2.keep hb); (try replace zG2 := zG2.keep hb); (try replace zO := zO.keep hb); (try replace zO2 := zO2.keep hb); clear hb Ha Hb Hc Ka Kb Kc Oa Ob Oc Pa Pb Pc; obtain ⟨Ha, Hb, Hc, _, _, _⟩ := I.h.facts; obtain ⟨Ka, Kb, Kc, _, _, _⟩ := I.k.facts; obtain ⟨Oa, Ob, Oc, _, _, _⟩ := zO.facts; obtain ⟨Pa, Pb, Pc, _, _, _⟩ := zO2.facts) | (go_at_call 18; (with_reducible refine (C6.out _ I).mono ?_); rintro e wq ⟨rfl, hb⟩; replace I := I.keep hb; (try replace zJ1 := zJ1.keep hb); (try replace zJ2 := zJ2.keep hb); (try replace zJ3 := zJ3.keep hb); (try replace zJ4 := zJ4.keep hb); (try replace zE := zE.keep hb); (try replace zG := zG.keep hb); (try replace zE2 := zE2.keep hb); (try replace zG2 := zG2.keep hb); (try replace zO := zO.keep hb); (try replace zO2 := zO2.keep hb); clear hb Ha Hb Hc Ka Kb Kc Oa Ob Oc Pa Pb Pc; obtain ⟨Ha, Hb, Hc, _, _, _⟩ := I.h.facts; obtain ⟨Ka, Kb, Kc, _, _, _⟩ := I.k.facts; obtain ⟨Oa, Ob, Oc, _, _, _⟩ := zO.facts; obtain ⟨Pa, Pb, Pc, _, _, _⟩ := zO2.facts) | (go_at_call 15; (with_reducible refine (C7.out _ I).mono ?_); rintro e wq ⟨AE, nE, cE, xE, AG, nG, cG, xG, rfl, hn, hn', hb⟩; replace I := I.keep hb; (try replace zJ1 := zJ1.keep hb); (try replace zJ2 := zJ2.keep hb); (try replace zJ3 := zJ3.keep hb); (try replace zJ4 := zJ4.keep hb); (try replace zE := zE.keep hb); (try replace zG := zG.keep hb); (try replace zE2 := zE2.keep hb); (try replace zG2 := zG2.keep hb); (try replace zO := zO.keep hb); (try replace zO2 := zO2.keep hb); (try clear zE); (try clear zG); have zE := hn; have zG := hn'; clear hb hn hn' Ha Hb Hc Ka Kb Kc Oa Ob Oc Pa Pb Pc; obtain ⟨Ha, Hb, Hc, _, _, _⟩ := I.h.facts; obtain ⟨Ka, Kb, Kc, _, _, _⟩ := I.k.facts; obtain ⟨Oa, Ob, Oc, _, _, _⟩ := zO.facts; obtain ⟨Pa, Pb, Pc, _, _, _⟩ := zO2.facts) | (go_at_call 23; (with_reducible refine (C8.out _ I).mono ?_); rintro e wq ⟨AE2, nE2, cE2, xE2, AG2, nG2, cG2, xG2, rfl, hn, hn', hb⟩; replace I := I.keep hb; (try replace zJ1 := zJ1.keep hb); (try replace zJ2 := zJ2.keep hb); (try replace zJ3 := zJ3.keep hb); (try replace zJ4 := zJ4.keep hb); (try replace zE := zE.keep hb); (try replace zG := zG.keep hb); (try replace zE2 := zE2.keep hb); (try replace zG2 := zG2.keep hb); (try replace zO := zO.keep hb); (try replace zO2 := zO2.keep hb); (try clear zE2); (try clear zG2); have zE2 := hn; have zG2 := hn'; clear hb hn hn' Ha Hb Hc Ka Kb Kc Oa Ob Oc Pa Pb Pc; obtain ⟨Ha, Hb, Hc, _, _, _⟩ := I.h.facts; obtain ⟨Ka, Kb, Kc, _, _, _⟩ := I.k.facts; obtain ⟨Oa, Ob, Oc, _, _, _⟩ := zO.facts; obtain ⟨Pa, Pb, Pc, _, _, _⟩ := zO2.facts) | (go_at_call 13; (with_reducible refine (sameFr_yes (t := TN) rfl rfl zE zG zE2 zG2).mono ?_); rintro e wq ⟨rfl, hb⟩; replace I := I.keep hb; (try replace zJ1 := zJ1.keep hb); (try replace zJ2 := zJ2.keep hb); (try replace zJ3 := zJ3.keep hb); (try replace zJ4 := zJ4.keep hb); (try replace zE := zE.keep hb); (try replace zG := zG.keep hb); (try replace zE2 := zE2.keep hb); (try replace zG2 := zG2.keep hb); (try replace zO := zO.keep hb); (try replace zO2 := zO2.keep hb); clear hb Ha Hb Hc Ka Kb Kc Oa Ob Oc Pa Pb Pc; obtain ⟨Ha, Hb, Hc, _, _, _⟩ := I.h.facts; obtain ⟨Ka, Kb, Kc, _, _, _⟩ := I.k.facts; obtain ⟨Oa, Ob, Oc, _, _, _⟩ := zO.facts; obtain ⟨Pa, Pb, Pc, _, _, _⟩ := zO2.facts))
  go_wp2_with fail
  obtain ⟨v5, hv⟩ : ∃ v, v = wq := ⟨_, rfl⟩
  subst hv
  replace I := I.drew
  clear zE zG zE2 zG2 zJ1 zJ2 zJ3 zJ4 zO zO2 Oa Ob Oc Pa Pb Pc Ha Hb Hc Ka Kb Kc
  obtain ⟨Ha, Hb, Hc, _, _, _⟩ := I.h.facts
  obtain ⟨Ka, Kb, Kc, _, _, _⟩ := I.k.facts
  go_region_held3 (fun w' => w'.cell? ⟨w.heap.size, 0, none⟩ = some (.bool s) ∧ w'.cell? ⟨w.heap.size, 1, none⟩ = some (.slice A n c) ∧ w'.cell? ⟨w.heap.size, 2, none⟩ = some (.slice B m d) ∧ w'.cell? ⟨w.heap.size + 1, 0, none⟩ = some (.bool s') ∧ w'.cell? ⟨w.heap.size + 1, 1, none⟩ = some (.slice A' n' c') ∧ w'.cell? ⟨w.heap.size + 1, 2, none⟩ = some (.slice B' m' d')) (first | (with_reducible exact ⟨Ha, Hb, Hc, Ka, Kb, Kc⟩) | go_keep) (first | (go_at_call 10; (with_reducible refine (C9.out _ I).mono ?_); rintro e wq ⟨AE, nE, cE, xE, AG, nG, cG, xG, rfl, hn, hn', hb⟩; replace I := I.keep hb; (try replace zJ1 := zJ1.keep hb); (try replace zJ2 := zJ2.keep hb); (try replace zJ3 := zJ3.keep hb); (try replace zJ4 := zJ4.keep hb); (try replace zE := zE.keep hb); (try replace zG := zG.keep hb); (try replace zE2 := zE2.keep hb); (try replace zG2 := zG2.keep hb); (try replace zO := zO.keep hb); (try replace zO2 := zO2.keep hb); (try clear zE); (try clear zG); have zE := hn; have zG := hn'; clear hb hn hn' Ha Hb Hc Ka Kb Kc; obtain ⟨Ha, Hb, Hc, _, _, _⟩ := I.h.facts; obtain ⟨Ka, Kb, Kc, _, _, _⟩ := I.k.facts) | (go_at_call 24; (with_reducible refine (CA.out _ I).mono ?_); rintro e wq ⟨AE2, nE2, cE2, xE2, AG2, nG2, cG2, xG2, rfl, hn, hn', hb⟩; replace I := I.keep hb; (try replace zJ1 := zJ1.keep hb); (try replace zJ2 := zJ2.keep hb); (try replace zJ3 := zJ3.keep hb); (try replace zJ4 := zJ4.keep hb); (try replace zE := zE.keep hb); (try replace zG := zG.keep hb); (try replace zE2 := zE2.keep hb); (try replace zG2 := zG2.keep hb); (try replace zO := zO.keep hb); (try replace zO2 := zO2.keep hb); (try clear zE2); (try clear zG2); have zE2 := hn; have zG2 := hn'; clear hb hn hn' Ha Hb Hc Ka Kb Kc; obtain ⟨Ha, Hb, Hc, _, _, _⟩ := I.h.facts; obtain ⟨Ka, Kb, Kc, _, _, _⟩ := I.k.facts) | (go_at_call 13; (with_reducible refine (sameFr_yes (t := TA) rfl rfl zE zG zE2 zG2).mono ?_); rintro e wq ⟨rfl, hb⟩; replace I := I.keep hb; (try replace zJ1 := zJ1.keep hb); (try replace zJ2 := zJ2.keep hb); (try replace zJ3 := zJ3.keep hb); (try replace zJ4 := zJ4.keep hb); (try replace zE := zE.keep hb); (try replace zG := zG.keep hb); (try replace zE2 := zE2.keep hb); (try replace zG2 := zG2.keep hb); (try replace zO := zO.keep hb); (try replace zO2 := zO2.keep hb); clear hb Ha Hb Hc Ka Kb Kc; obtain ⟨Ha, Hb, Hc, _, _, _⟩ := I.h.facts; obtain ⟨Ka, Kb, Kc, _, _, _⟩ := I.k.facts) | (go_at_call 14; (with_reducible refine (CB.out _ I).mono ?_); rintro e wq ⟨AE, nE, cE, xE, AG, nG, cG, xG, rfl, hn, hn', hb⟩; replace I := I.keep hb; (try replace zJ1 := zJ1.keep hb); (try replace zJ2 := zJ2.keep hb); (try replace zJ3 := zJ3.keep hb); (try replace zJ4 := zJ4.keep hb); (try replace zE := zE.keep hb); (try replace zG := zG.keep hb); (try replace zE2 := zE2.keep hb); (try replace zG2 := zG2.keep hb); (try replace zO := zO.keep hb); (try replace zO2 := zO2.keep hb); (try clear zE); (try clear zG); have zE := hn; have zG := hn'; clear hb hn hn' Ha Hb Hc Ka Kb Kc; obtain ⟨Ha, Hb, Hc, _, _, _⟩ := I.h.facts; obtain ⟨Ka, Kb, Kc, _, _, _⟩ := I.k.facts) | (go_at_call 25; (with_reducible refine (CC.out _ I).mono ?_); rintro e wq ⟨AE2, nE2, cE2, xE2, AG2, nG2, cG2, xG2, rfl, hn, hn', hb⟩; replace I := I.keep hb; (try replace zJ1 := zJ1.keep hb); (try replace zJ2 := zJ2.keep hb); (try replace zJ3 := zJ3.keep hb); (try replace zJ4 := zJ4.keep hb); (try replace zE := zE.keep hb); (try replace zG := zG.keep hb); (try replace zE2 := zE2.keep hb); (try replace zG2 := zG2.keep hb); (try replace zO := zO.keep hb); (try replace zO2 := zO2.keep hb); (try clear zE2); (try clear zG2); have zE2 := hn; have zG2 := hn'; clear hb hn hn' Ha Hb Hc Ka Kb Kc; obtain ⟨Ha, Hb, Hc, _, _, _⟩ := I.h.facts; obtain ⟨Ka, Kb, Kc, _, _, _⟩ := I.k.facts) | (go_at_call 13; (with_reducible refine (sameFr_yes (t := TS) rfl rfl zE zG zE2 zG2).mono ?_); rintro e wq ⟨rfl, hb⟩; replace I := I.keep hb; (try replace zJ1 := zJ1.keep hb); (try replace zJ2 := zJ2.keep hb); (try replace zJ3 := zJ3.keep hb); (try replace zJ4 := zJ4.keep hb); (try replace zE := zE.keep hb); (try replace zG := zG.keep hb); (try replace zE2 := zE2.keep hb); (try replace zG2 := zG2.keep hb); (try replace zO := zO.keep hb); (try replace zO2 := zO2.keep hb); clear hb Ha Hb Hc Ka Kb Kc; obtain ⟨Ha, Hb, Hc, _, _, _⟩ := I.h.facts; obtain ⟨Ka, Kb, Kc, _, _, _⟩ := I.k.facts) | (go_at_call 11; (with_reducible refine (CD.out _ I).mono ?_); rintro e wq ⟨AE, nE, cE, xE, AG, nG, cG, xG, rfl, hn, hn', hb⟩; replace I := I.keep hb; (try replace zJ1 := zJ1.keep hb); (try replace zJ2 := zJ2.keep hb); (try replace zJ3 := zJ3.keep hb); (try replace zJ4 := zJ4.keep hb); (try replace zE := zE.keep hb); (try replace zG := zG.keep hb); (try replace zE2 := zE2.keep hb); (try replace zG2 := zG2.keep hb); (try replace zO := zO.keep hb); (try replace zO2 := zO2.keep hb); (try clear zE); (try clear zG); have zE := hn; have zG := hn'; clear hb hn hn' Ha Hb Hc Ka Kb Kc; obtain ⟨Ha, Hb, Hc, _, _, _⟩ := I.h.facts; obtain ⟨Ka, Kb, Kc, _, _, _⟩ := I.k.facts) | (go_at_call 26; (with_reducible refine (CE.out _ I).mono ?_); rintro e wq ⟨AE2, nE2, cE2, xE2, AG2, nG2, cG2, xG2, rfl, hn, hn', hb⟩; replace I := I.keep hb; (try replace zJ1 := zJ1.keep hb); (try replace zJ2 := zJ2.keep hb); (try replace zJ3 := zJ3.keep hb); (try replace zJ4 := zJ4.keep hb); (try replace zE := zE.keep hb); (try replace zG := zG.keep hb); (try replace zE2 := zE2.keep hb); (try replace zG2 := zG2.keep hb); (try replace zO := zO.keep hb); (try replace zO2 := zO2.keep hb); (try clear zE2); (try clear zG2); have zE2 := hn; have zG2 := hn'; clear hb hn hn' Ha Hb Hc Ka Kb Kc; obtain ⟨Ha, Hb, Hc, _, _, _⟩ := I.h.facts; obtain ⟨Ka, Kb, Kc, _, _, _⟩ := I.k.facts) | (go_at_call 13; (with_reducible refine (sameFr_yes (t := TM) rfl rfl zE zG zE2 zG2).mono ?_); rintro e wq ⟨rfl, hb⟩; replace I := I.keep hb; (try replace zJ1 := zJ1.keep hb); (try replace zJ2 := zJ2.keep hb); (try replace zJ3 := zJ3.keep hb); (try replace zJ4 := zJ4.keep hb); (try replace zE := zE.keep hb); (try replace zG := zG.keep hb); (try replace zE2 := zE2.keep hb); (try replace zG2 := zG2.keep hb); (try replace zO := zO.keep hb); (try replace zO2 := zO2.keep hb); clear hb Ha Hb Hc Ka Kb Kc; obtain ⟨Ha, Hb, Hc, _, _, _⟩ := I.h.facts; obtain ⟨Ka, Kb, Kc, _, _, _⟩ := I.k.facts) | (go_at_call 9; (with_reducible refine (J5.out _).mono ?_); rintro e wq ⟨rfl, hb⟩; replace I := I.keep hb; (try replace zJ1 := zJ1.keep hb); (try replace zJ2 := zJ2.keep hb); (try replace zJ3 := zJ3.keep hb); (try replace zJ4 := zJ4.keep hb); (try replace zE := zE.keep hb); (try replace zG := zG.keep hb); (try replace zE2 := zE2.keep hb); (try replace zG2 := zG2.keep hb); (try replace zO := zO.keep hb); (try replace zO2 := zO2.keep hb); clear hb Ha Hb Hc Ka Kb Kc; obtain ⟨Ha, Hb, Hc, _, _, _⟩ := I.h.facts; obtain ⟨Ka, Kb, Kc, _, _, _⟩ := I.k.facts))
  go_wp2
  go_ret
  exact ⟨rfl, I.b⟩
set_option maxRecDepth 100000 in
set_option maxHeartbeats 4000000 in
theorem computes_zero (s s' : Bool) (A B A' B' : Option Addr) (n c m d n' c' m' d' p q p' q' : Nat) (xs ys xs' ys' : List Nat) (w : World) (T TN TA TS TM : Fr) (v l k : Int) (hk0 : (k == 0) = false) (hx : Num w A n c xs p) (hy : Num w B m d ys q) (hx' : Num w A' n' c' xs' p') (hy' : Num w B' m' d' ys' q')
    (V1 : Hid (∀ w', Below w.heap.size w w' → Calls Tryz.prog 8 #[.agg #[.bool s, .slice A n c, .slice B m d]] w' (Gives (.bool true) w'))) (V2 : Hid (∀ w', Below w.heap.size w w' → Calls Tryz.prog 8 #[.agg #[.bool s', .slice A' n' c', .slice B' m' d']] w' (Gives (.bool true) w')))
    (C1 : Hid (∀ W, TwoIn w s A n c B m d p q xs ys s' A' n' c' B' m' d' p' q' xs' ys' W → Calls Tryz.prog 17 #[.agg #[.bool s, .slice A n c, .slice B m d], .agg #[.bool s', .slice A' n' c', .slice B' m' d']] W (GivesFrE T k W)))
    (C2 : Hid (∀ W, TwoIn w s A n c B m d p q xs ys s' A' n' c' B' m' d' p' q' xs' ys' W → Calls Tryz.prog 19 #[.agg #[.bool s, .slice A n c, .slice B m d], .agg #[.bool s', .slice A' n' c', .slice B' m' d']] W (GivesFrE T k W)))
    (C3 : Hid (∀ W, TwoIn w s A n c B m d p q xs ys s' A' n' c' B' m' d' p' q' xs' ys' W → Calls Tryz.prog 20 #[.agg #[.bool s, .slice A n c, .slice B m d], .agg #[.bool s', .slice A' n' c', .slice B' m' d']] W (Gives (.int .i64 v) W)))
    (C4 : Hid (∀ W, TwoIn w s A n c B m d p q xs ys s' A' n' c' B' m' d' p' q' xs' ys' W → Calls Tryz.prog 21 #[.agg #[.bool s, .slice A n c, .slice B m d], .agg #[.bool s', .slice A' n' c', .slice B' m' d']] W (Gives (.int .i64 v) W)))
    (C5 : Hid (∀ W, TwoIn w s A n c B m d p q xs ys s' A' n' c' B' m' d' p' q' xs' ys' W → Calls Tryz.prog 22 #[.agg #[.bool s, .slice A n c, .slice B m d]] W (Gives (.int .i64 l) W)))
    (C6 : Hid (∀ W, TwoIn w s A n c B m d p q xs ys s' A' n' c' B' m' d' p' q' xs' ys' W → Calls Tryz.prog 18 #[.agg #[.bool s, .slice A n c, .slice B m d]] W (Gives (.int .i64 l) W)))
    (C7 : Hid (∀ W, TwoIn w s A n c B m d p q xs ys s' A' n' c' B' m' d' p' q' xs' ys' W → Calls Tryz.prog 15 #[.agg #[.bool s, .slice A n c, .slice B m d]] W (GivesFr TN W)))
    (C8 : Hid (∀ W, TwoIn w s A n c B m d p q xs ys s' A' n' c' B' m' d' p' q' xs' ys' W → Calls Tryz.prog 23 #[.agg #[.bool s, .slice A n c, .slice B m d]] W (GivesFr TN W)))
    (C9 : Hid (∀ W, TwoIn w s A n c B m d p q xs ys s' A' n' c' B' m' d' p' q' xs' ys' W → Calls Tryz.prog 10 #[.agg #[.bool s, .slice A n c, .slice B m d], .agg #[.bool s', .slice A' n' c', .slice B' m' d']] W (GivesFr TA W)))
    (CA : Hid (∀ W, TwoIn w s A n c B m d p q xs ys s' A' n' c' B' m' d' p' q' xs' ys' W → Calls Tryz.prog 24 #[.agg #[.bool s, .slice A n c, .slice B m d], .agg #[.bool s', .slice A' n' c', .slice B' m' d']] W (GivesFr TA W)))
    (CB : Hid (∀ W, TwoIn w s A n c B m d p q xs ys s' A' n' c' B' m' d' p' q' xs' ys' W → Calls Tryz.prog 14 #[.agg #[.bool s, .slice A n c, .slice B m d], .agg #[.bool s', .slice A' n' c', .slice B' m' d']] W (GivesFr TS W)))
    (CC : Hid (∀ W, TwoIn w s A n c B m d p q xs ys s' A' n' c' B' m' d' p' q' xs' ys' W → Calls Tryz.prog 25 #[.agg #[.bool s, .slice A n c, .slice B m d], .agg #[.bool s', .slice A' n' c', .slice B' m' d']] W (GivesFr TS W)))
    (CD : Hid (∀ W, TwoIn w s A n c B m d p q xs ys s' A' n' c' B' m' d' p' q' xs' ys' W → Calls Tryz.prog 11 #[.agg #[.bool s, .slice A n c, .slice B m d], .agg #[.bool s', .slice A' n' c', .slice B' m' d']] W (GivesFr TM W)))
    (CE : Hid (∀ W, TwoIn w s A n c B m d p q xs ys s' A' n' c' B' m' d' p' q' xs' ys' W → Calls Tryz.prog 26 #[.agg #[.bool s, .slice A n c, .slice B m d], .agg #[.bool s', .slice A' n' c', .slice B' m' d']] W (GivesFr TM W))) :
    Calls Tryz.prog 4 #[.agg #[.bool s, .slice A n c, .slice B m d], .agg #[.bool s', .slice A' n' c', .slice B' m' d']] w (Gives (.bool true) w) := by
  have I0 := Lib.hid (TwoIn.start (s := s) (s' := s') hx hy hx' hy')
  have J5 := Lib.hid awake2
  clear hx hy hx' hy'
  obtain ⟨Ha, Hb, Hc, _, _, _⟩ := I0.out.h.facts
  obtain ⟨Ka, Kb, Kc, _, _, _⟩ := I0.out.k.facts
  go_enter Tryz.func4, Tryz.ntmps4
  go_wp2_with fail
  refine (V1.out _ I0.out.b).mono ?_
  rintro e w1 ⟨rfl, hb⟩
  have I1 := Lib.hid (I0.out.keep hb)
  clear hb I0 Ha Hb Hc Ka Kb Kc
  obtain ⟨Ha, Hb, Hc, _, _, _⟩ := I1.out.h.facts
  obtain ⟨Ka, Kb, Kc, _, _, _⟩ := I1.out.k.facts
  go_wp2_with fail
  refine (V2.out _ I1.out.b).mono ?_
  rintro e w2 ⟨rfl, hb⟩
  have I2 := Lib.hid (I1.out.keep hb)
  clear hb I1 Ha Hb Hc Ka Kb Kc
  obtain ⟨Ha, Hb, Hc, _, _, _⟩ := I2.out.h.facts
  obtain ⟨Ka, Kb, Kc, _, _, _⟩ := I2.out.k.facts
  go_wp2_with fail
  refine (C1.out _ I2.out).mono ?_
  rintro e w3 ⟨A1, n1, c1, x1, D1, m1, d1, y1, rfl, hN, hM, hb⟩
  have ba : Below w3.heap.size w3 (w3.alloc (.cells #[.bool T.s, .slice A1 n1 c1, .slice D1 m1 d1] 25)) := below_alloc _ _
  have P3 := Lib.hid (hN.keep ba)
  have Q3 := Lib.hid (hM.keep ba)
  have F3 := Lib.hid (FB.new w3 T.s A1 n1 c1 D1 m1 d1)
  have I3 := Lib.hid ((I2.out.keep hb).keep ba)
  clear hN hM hb ba I2 Ha Hb Hc Ka Kb Kc
  obtain ⟨Ha, Hb, Hc, _, _, _⟩ := I3.out.h.facts
  obtain ⟨Ka, Kb, Kc, _, _, _⟩ := I3.out.k.facts
  go_wp2_with fail
  clear Ha Hb Hc Ka Kb Kc
  obtain ⟨v3, hv⟩ : ∃ v, w3.alloc (.cells #[.bool T.s, .slice A1 n1 c1, .slice D1 m1 d1] 25) = v := ⟨_, rfl⟩
  obtain ⟨g1, hg⟩ : ∃ g, w3.heap.size = g := ⟨_, rfl⟩
  rw [hv, hg]
  rw [hv] at P3 Q3 F3 I3
  rw [hg] at F3
  clear hv hg
  refine (C2.out _ I3.out).mono ?_
  rintro e w4 ⟨A2, n2, c2, x2, D2, m2, d2, y2, rfl, hN, hM, hb⟩
  have ba : Below w4.heap.size w4 (w4.alloc (.cells #[.bool T.s, .slice A2 n2 c2, .slice D2 m2 d2] 25)) := below_alloc _ _
  have zJ1 := (P3.out.keep hb).keep ba
  have zJ2 := (Q3.out.keep hb).keep ba
  have zJ3 := hN.keep ba
  have zJ4 := hM.keep ba
  have zO := (F3.out.keep hb).keep ba
  have zO2 := FB.new w4 T.s A2 n2 c2 D2 m2 d2
  have I := (I3.out.keep hb).keep ba
  clear hN hM hb ba I3 P3 Q3 F3
  obtain ⟨Ha, Hb, Hc, _, _, _⟩ := I.h.facts
  obtain ⟨Ka, Kb, Kc, _, _, _⟩ := I.k.facts
  go_wp2_with fail
  clear Ha Hb Hc Ka Kb Kc
  obtain ⟨v4, hv⟩ : ∃ v, w4.alloc (.cells #[.bool T.s, .slice A2 n2 c2, .slice D2 m2 d2] 25) = v := ⟨_, rfl⟩
  obtain ⟨g2, hg⟩ : ∃ g, w4.heap.size = g := ⟨_, rfl⟩
  rw [hv, hg]
  rw [hv] at zJ1 zJ2 zJ3 zJ4 zO zO2 I
  rw [hg] at zO2
  clear hv hg
  replace I := I.drew
  replace zO := zO.drew
  replace zO2 := zO2.drew
  replace zJ1 := zJ1.drew_
  replace zJ2 := zJ2.drew_
  replace zJ3 := zJ3.drew_
  replace zJ4 := zJ4.drew_
  obtain ⟨Ha, Hb, Hc, _, _, _⟩ := I.h.facts
  obtain ⟨Ka, Kb, Kc, _, _, _⟩ := I.k.facts
  obtain ⟨Oa, Ob, Oc, _, _, _⟩ := zO.facts
  obtain ⟨Pa, Pb, Pc, _, _, _⟩ := zO2.facts
  refine wp_region_held_drew (S := fun w' => w'.cell? ⟨w.heap.size, 0, none⟩ = some (.bool s) ∧ w'.cell? ⟨w.heap.size, 1, none⟩ = some (.slice A n c) ∧ w'.cell? ⟨w.heap.size, 2, none⟩ = some (.slice B m d) ∧ w'.cell? ⟨w.heap.size + 1, 0, none⟩ = some (.bool s') ∧ w'.cell? ⟨w.heap.size + 1, 1, none⟩ = some (.slice A' n' c') ∧ w'.cell? ⟨w.heap.size + 1, 2, none⟩ = some (.slice B' m' d') ∧ w'.cell? ⟨g1, 0, none⟩ = some (.bool T.s) ∧ w'.cell? ⟨g1, 1, none⟩ = some (.slice A1 n1 c1) ∧ w'.cell? ⟨g1, 2, none⟩ = some (.slice D1 m1 d1) ∧ w'.cell? ⟨g2, 0, none⟩ = some (.bool T.s) ∧ w'.cell? ⟨g2, 1, none⟩ = some (.slice A2 n2 c2) ∧ w'.cell? ⟨g2, 2, none⟩ = some (.slice D2 m2 d2)) (by kernel_rfl) ⟨Ha, Hb, Hc, Ka, Kb, Kc, Oa, Ob, Oc, Pa, Pb, Pc⟩ (fun hHeld => ?_)
  refine wpAnyH_take (i := 0) (oi := { dst := some 30, op := Go.Op.move (Go.Operand.tmp 6), type := 32, pos := "law.go:53", after := #[], guard := none }) (v := ?_) rfl (by kernel_rfl) (by kernel_rfl) (by kernel_rfl) (fun _ _ _ h => h) (Or.inl ⟨by rfl, ?_⟩) (by assumption) ?_
  rotate_left
  · intro w hSw; (try dsimp only at hSw); go_simp; try with_reducible rfl
  (try simp only [Act.put, List.setIfInBounds_toArray, List.set_cons_zero, List.set_cons_succ])
  refine wpAnyH_take (i := 1) (oi := { dst := some 31, op := Go.Op.move (Go.Operand.tmp 8), type := 32, pos := "law.go:53", after := #[], guard := none }) (v := ?_) rfl (by kernel_rfl) (by kernel_rfl) (by kernel_rfl) (fun _ _ _ h => h) (Or.inl ⟨by rfl, ?_⟩) (by assumption) ?_
  rotate_left
  · intro w hSw; (try dsimp only at hSw); go_simp; try with_reducible rfl
  (try simp only [Act.put, List.setIfInBounds_toArray, List.set_cons_zero, List.set_cons_succ])
  refine wpAnyH_take (i := 2) (oi := { dst := some 32, op := Go.Op.binOp Go.BinOp.neq 32 (Go.Operand.tmp 30) (Go.Operand.tmp 31) 32, type := 4, pos := "law.go:53", after := #[{ on := 0, ground := Go.Ground.data }, { on := 1, ground := Go.Ground.data }], guard := none }) (v := ?_) rfl (by kernel_rfl) (by kernel_rfl) (by kernel_rfl) (fun _ _ _ h => h) (Or.inl ⟨by rfl, ?_⟩) (by assumption) ?_
  rotate_left
  · intro w hSw; (try dsimp only at hSw); go_simp; try with_reducible rfl
  (try simp only [Act.put, List.setIfInBounds_toArray, List.set_cons_zero, List.set_cons_succ])
  refine wpAnyH_take (i := 3) (oi := { dst := some 33, op := Go.Op.move (Go.Operand.tmp 32), type := 4, pos := "law.go:53", after := #[{ on := 2, ground := Go.Ground.data }], guard := none }) (v := ?_) rfl (by kernel_rfl) (by kernel_rfl) (by kernel_rfl) (fun _ _ _ h => h) (Or.inl ⟨by rfl, ?_⟩) (by assumption) ?_
  rotate_left
  · intro w hSw; (try dsimp only at hSw); go_simp; try with_reducible rfl
  (try simp only [Act.put, List.setIfInBounds_toArray, List.set_cons_zero, List.set_cons_succ])
  refine wpAnyH_take (i := 4) (oi := { dst := some 34, op := Go.Op.move (Go.Operand.tmp 6), type := 32, pos := "law.go:53", after := #[{ on := 3, ground := Go.Ground.guard }], guard := some (3, false) }) (v := ?_) rfl (by kernel_rfl) (by kernel_rfl) (by kernel_rfl) (fun _ _ _ h => h) (Or.inl ⟨by rfl, ?_⟩) (by assumption) ?_
  rotate_left
  · intro w hSw; (try dsimp only at hSw); go_simp; try with_reducible rfl
  (try simp only [Act.put, List.setIfInBounds_toArray, List.set_cons_zero, List.set_cons_succ])
  refine wpAnyH_take (i := 5) (oi := { dst := some 35, op := Go.Op.binOp Go.BinOp.eql 32 (Go.Operand.tmp 34) (Go.Operand.const (Go.Value.int Go.IntKind.i64 0)) 32, type := 4, pos := "law.go:53", after := #[{ on := 4, ground := Go.Ground.data }, { on := 3, ground := Go.Ground.guard }], guard := some (3, false) }) (v := ?_) rfl (by kernel_rfl) (by kernel_rfl) (by kernel_rfl) (fun _ _ _ h => h) (Or.inl ⟨by rfl, ?_⟩) (by assumption) ?_
  rotate_left
  · intro w hSw; (try dsimp only at hSw); go_simp; try with_reducible rfl
  (try simp only [Act.put, List.setIfInBounds_toArray, List.set_cons_zero, List.set_cons_succ])
  refine wpAnyH_take (i := 6) (oi := { dst := some 36, op := Go.Op.move (Go.Operand.tmp 35), type := 4, pos := "law.go:53", after := #[{ on := 5, ground := Go.Ground.data }, { on := 3, ground := Go.Ground.chain }, { on := 3, ground := Go.Ground.guard }], guard := some (3, false) }) (v := ?_) rfl (by kernel_rfl) (by kernel_rfl) (by kernel_rfl) (fun _ _ _ h => h) (Or.inl ⟨by rfl, ?_⟩) (by assumption) ?_
  rotate_left
  · intro w hSw; (try dsimp only at hSw); go_simp; try with_reducible rfl
  (try simp only [Act.put, List.setIfInBounds_toArray, List.set_cons_zero, List.set_cons_succ])
  refine wpAnyH_take (i := 7) (oi := { dst := some 37, op := Go.Op.load 25 (Go.Operand.tmp 5), type := 25, pos := "law.go:53", after := #[{ on := 6, ground := Go.Ground.guard }], guard := some (6, true) }) (v := undef) rfl (by kernel_rfl) (by kernel_rfl) (by kernel_rfl) (fun _ _ _ h => h) (Or.inr ⟨by rfl, rfl⟩) (by assumption) ?_
  (try simp only [Act.put, List.setIfInBounds_toArray, List.set_cons_zero, List.set_cons_succ])
  refine wpAnyH_take (i := 8) (oi := { dst := some 38, op := Go.Op.load 25 (Go.Operand.tmp 7), type := 25, pos := "law.go:53", after := #[{ on := 6, ground := Go.Ground.guard }], guard := some (6, true) }) (v := undef) rfl (by kernel_rfl) (by kernel_rfl) (by kernel_rfl) (fun _ _ _ h => h) (Or.inr ⟨by rfl, rfl⟩) (by assumption) ?_
  (try simp only [Act.put, List.setIfInBounds_toArray, List.set_cons_zero, List.set_cons_succ])
  refine wpAnyH_ready (rs := [9]) (by kernel_rfl) (by simp) ?_
  refine AllReadyH.cons (o := { dst := some 39, op := Go.Op.call { callee := Go.Callee.value (Go.Operand.func 13), args := #[Go.Operand.tmp 37, Go.Operand.tmp 38], argTypes := #[25, 25] }, type := 4, pos := "law.go:53", after := #[{ on := 7, ground := Go.Ground.data }, { on := 8, ground := Go.Ground.data }, { on := 6, ground := Go.Ground.chain }, { on := 6, ground := Go.Ground.guard }], guard := some (6, true) }) rfl (fun K hK => ?_) AllReadyH.nil
  rw [if_neg (Bool.eq_false_iff.1 (by rfl))]
  refine hK.out _ _ hHeld (fun hHeld => ?_)
  clear hK K
  (try simp only [Act.put, List.setIfInBounds_toArray, List.set_cons_zero, List.set_cons_succ])
  refine wpAnyH_take (i := 10) (oi := { dst := some 40, op := Go.Op.unOp Go.UnOp.not 4 (Go.Operand.tmp 39), type := 4, pos := "law.go:53", after := #[{ on := 9, ground := Go.Ground.data }, { on := 6, ground := Go.Ground.guard }], guard := some (6, true) }) (v := undef) rfl (by kernel_rfl) (by kernel_rfl) (by kernel_rfl) (fun _ _ _ h => h) (Or.inr ⟨by rfl, rfl⟩) (by assumption) ?_
  (try simp only [Act.put, List.setIfInBounds_toArray, List.set_cons_zero, List.set_cons_succ])
  refine wpAnyH_take (i := 11) (oi := { dst := some 41, op := Go.Op.pick (Go.Operand.tmp 36) (Go.Operand.tmp 40) (Go.Operand.const (Go.Value.bool false)), type := 4, pos := "law.go:53", after := #[{ on := 6, ground := Go.Ground.data }, { on := 10, ground := Go.Ground.data }, { on := 3, ground := Go.Ground.guard }], guard := some (3, false) }) (v := ?_) rfl (by kernel_rfl) (by kernel_rfl) (by kernel_rfl) (fun _ _ _ h => h) (Or.inl ⟨by rfl, ?_⟩) (by assumption) ?_
  rotate_left
  · intro w hSw; (try dsimp only at hSw); go_simp; try with_reducible rfl
  (try simp only [Act.put, List.setIfInBounds_toArray, List.set_cons_zero, List.set_cons_succ])
  refine wpAnyH_take (i := 12) (oi := { dst := some 42, op := Go.Op.pick (Go.Operand.tmp 33) (Go.Operand.const (Go.Value.bool true)) (Go.Operand.tmp 41), type := 4, pos := "law.go:53", after := #[{ on := 3, ground := Go.Ground.data }, { on := 11, ground := Go.Ground.data }], guard := none }) (v := ?_) rfl (by kernel_rfl) (by kernel_rfl) (by kernel_rfl) (fun _ _ _ h => h) (Or.inl ⟨by rfl, ?_⟩) (by assumption) ?_
  rotate_left
  · intro w hSw; (try dsimp only at hSw); go_simp; try with_reducible rfl
  (try simp only [Act.put, List.setIfInBounds_toArray, List.set_cons_zero, List.set_cons_succ])
  refine wpAnyH_take (i := 13) (oi := { dst := some 43, op := Go.Op.move (Go.Operand.tmp 42), type := 4, pos := "law.go:53", after := #[{ on := 12, ground := Go.Ground.data }, { on := 9, ground := Go.Ground.chain }], guard := none }) (v := ?_) rfl (by kernel_rfl) (by kernel_rfl) (by kernel_rfl) (fun _ _ _ h => h) (Or.inl ⟨by rfl, ?_⟩) (by assumption) ?_
  rotate_left
  · intro w hSw; (try dsimp only at hSw); go_simp; try with_reducible rfl
  (try simp only [Act.put, List.setIfInBounds_toArray, List.set_cons_zero, List.set_cons_succ])
  refine wpAnyH_take (i := 14) (oi := { dst := some 44, op := Go.Op.load 25 (Go.Operand.tmp 2), type := 25, pos := "law.go:53", after := #[{ on := 13, ground := Go.Ground.guard }], guard := some (13, false) }) (v := ?_) rfl (by kernel_rfl) (by kernel_rfl) (by kernel_rfl) (fun _ _ _ h => h) (Or.inl ⟨by rfl, ?_⟩) (by assumption) ?_
  rotate_left
  · intro w hSw; (try dsimp only at hSw); go_simp; try with_reducible rfl
  (try simp only [Act.put, List.setIfInBounds_toArray, List.set_cons_zero, List.set_cons_succ])
  refine wpAnyH_take (i := 15) (oi := { dst := some 45, op := Go.Op.load 25 (Go.Operand.tmp 3), type := 25, pos := "law.go:53", after := #[{ on := 13, ground := Go.Ground.guard }], guard := some (13, false) }) (v := ?_) rfl (by kernel_rfl) (by kernel_rfl) (by kernel_rfl) (fun _ _ _ h => h) (Or.inl ⟨by rfl, ?_⟩) (by assumption) ?_
  rotate_left
  · intro w hSw; (try dsimp only at hSw); go_simp; try with_reducible rfl
  (try simp only [Act.put, List.setIfInBounds_toArray, List.set_cons_zero, List.set_cons_succ])
  refine wpAnyH_take (i := 17) (oi := { dst := some 47, op := Go.Op.load 25 (Go.Operand.tmp 2), type := 25, pos := "law.go:53", after := #[{ on := 13, ground := Go.Ground.guard }], guard := some (13, false) }) (v := ?_) rfl (by kernel_rfl) (by kernel_rfl) (by kernel_rfl) (fun _ _ _ h => h) (Or.inl ⟨by rfl, ?_⟩) (by assumption) ?_
  rotate_left
  · intro w hSw; (try dsimp only at hSw); go_simp; try with_reducible rfl
  (try simp only [Act.put, List.setIfInBounds_toArray, List.set_cons_zero, List.set_cons_succ])
  refine wpAnyH_take (i := 18) (oi := { dst := some 48, op := Go.Op.load 25 (Go.Operand.tmp 3), type := 25, pos := "law.go:53", after := #[{ on := 13, ground := Go.Ground.guard }], guard := some (13, false) }) (v := ?_) rfl (by kernel_rfl) (by kernel_rfl) (by kernel_rfl) (fun _ _ _ h => h) (Or.inl ⟨by rfl, ?_⟩) (by assumption) ?_
  rotate_left
  · intro w hSw; (try dsimp only at hSw); go_simp; try with_reducible rfl
  (try simp only [Act.put, List.setIfInBounds_toArray, List.set_cons_zero, List.set_cons_succ])
  refine wpAnyH_ready (rs := [16]) (by kernel_rfl) (by simp) ?_
  refine AllReadyH.cons (o := { dst := some 46, op := Go.Op.call { callee := Go.Callee.value (Go.Operand.func 20), args := #[Go.Operand.tmp 44, Go.Operand.tmp 45], argTypes := #[25, 25] }, type := 3, pos := "law.go:53", after := #[{ on := 14, ground := Go.Ground.data }, { on := 15, ground := Go.Ground.data }, { on := 13, ground := Go.Ground.chain }, { on := 13, ground := Go.Ground.guard }], guard := some (13, false) }) rfl (fun K hK => ?_) AllReadyH.nil
  go_simp
  go_at_call 20
  (with_reducible refine (C3.out _ I).mono ?_)
  rintro e wq ⟨rfl, hb⟩
  replace I := I.keep hb
  (try replace zJ1 := zJ1.keep hb)
  (try replace zJ2 := zJ2.keep hb)
  (try replace zJ3 := zJ3.keep hb)
  (try replace zJ4 := zJ4.keep hb)
  (try replace zE := zE.keep hb)
  (try replace zG := zG.keep hb)
  (try replace zE2 := zE2.keep hb)
  (try replace zG2 := zG2.keep hb)
  (try replace zO := zO.keep hb)
  (try replace zO2 := zO2.keep hb)
  clear hb Ha Hb Hc Ka Kb Kc Oa Ob Oc Pa Pb Pc
  obtain ⟨Ha, Hb, Hc, _, _, _⟩ := I.h.facts
  obtain ⟨Ka, Kb, Kc, _, _, _⟩ := I.k.facts
  obtain ⟨Oa, Ob, Oc, _, _, _⟩ := zO.facts
  obtain ⟨Pa, Pb, Pc, _, _, _⟩ := zO2.facts
  refine hK.out _ _ ?_ (fun hHeld => ?_)
  · exact ⟨Ha, Hb, Hc, Ka, Kb, Kc, Oa, Ob, Oc, Pa, Pb, Pc⟩
  clear hK K
  (try simp only [Act.put, List.setIfInBounds_toArray, List.set_cons_zero, List.set_cons_succ])
  refine wpAnyH_ready (rs := [19]) (by kernel_rfl) (by simp) ?_
  refine AllReadyH.cons (o := { dst := some 49, op := Go.Op.call { callee := Go.Callee.value (Go.Operand.func 21), args := #[Go.Operand.tmp 47, Go.Operand.tmp 48], argTypes := #[25, 25] }, type := 3, pos := "law.go:53", after := #[{ on := 17, ground := Go.Ground.data }, { on := 18, ground := Go.Ground.data }, { on := 16, ground := Go.Ground.chain }, { on := 13, ground := Go.Ground.guard }], guard := some (13, false) }) rfl (fun K hK => ?_) AllReadyH.nil
  go_simp
  go_at_call 21
  (with_reducible refine (C4.out _ I).mono ?_)
  rintro e wq ⟨rfl, hb⟩
  replace I := I.keep hb
  (try replace zJ1 := zJ1.keep hb)
  (try replace zJ2 := zJ2.keep hb)
  (try replace zJ3 := zJ3.keep hb)
  (try replace zJ4 := zJ4.keep hb)
  (try replace zE := zE.keep hb)
  (try replace zG := zG.keep hb)
  (try replace zE2 := zE2.keep hb)
  (try replace zG2 := zG2.keep hb)
  (try replace zO := zO.keep hb)
  (try replace zO2 := zO2.keep hb)
  clear hb Ha Hb Hc Ka Kb Kc Oa Ob Oc Pa Pb Pc
  obtain ⟨Ha, Hb, Hc, _, _, _⟩ := I.h.facts
  obtain ⟨Ka, Kb, Kc, _, _, _⟩ := I.k.facts
  obtain ⟨Oa, Ob, Oc, _, _, _⟩ := zO.facts
  obtain ⟨Pa, Pb, Pc, _, _, _⟩ := zO2.facts
  refine hK.out _ _ ?_ (fun hHeld => ?_)
  · exact ⟨Ha, Hb, Hc, Ka, Kb, Kc, Oa, Ob, Oc, Pa, Pb, Pc⟩
  clear hK K
  (try simp only [Act.put, List.setIfInBounds_toArray, List.set_cons_zero, List.set_cons_succ])
  refine wpAnyH_take (i := 20) (oi := { dst := some 50, op := Go.Op.binOp Go.BinOp.neq 3 (Go.Operand.tmp 46) (Go.Operand.tmp 49) 3, type := 4, pos := "law.go:53", after := #[{ on := 16, ground := Go.Ground.data }, { on := 19, ground := Go.Ground.data }, { on := 13, ground := Go.Ground.guard }], guard := some (13, false) }) (v := ?_) rfl (by kernel_rfl) (by kernel_rfl) (by kernel_rfl) (fun _ _ _ h => h) (Or.inl ⟨by rfl, ?_⟩) (by assumption) ?_
  rotate_left
  · intro w hSw; (try dsimp only at hSw); go_simp; try with_reducible rfl
  (try simp only [Act.put, List.setIfInBounds_toArray, List.set_cons_zero, List.set_cons_succ])
  refine wpAnyH_take (i := 21) (oi := { dst := some 51, op := Go.Op.pick (Go.Operand.tmp 43) (Go.Operand.const (Go.Value.bool true)) (Go.Operand.tmp 50), type := 4, pos := "law.go:53", after := #[{ on := 13, ground := Go.Ground.data }, { on := 20, ground := Go.Ground.data }], guard := none }) (v := ?_) rfl (by kernel_rfl) (by kernel_rfl) (by kernel_rfl) (fun _ _ _ h => h) (Or.inl ⟨by rfl, ?_⟩) (by assumption) ?_
  rotate_left
  · intro w hSw; (try dsimp only at hSw); go_simp; try with_reducible rfl
  (try simp only [Act.put, List.setIfInBounds_toArray, List.set_cons_zero, List.set_cons_succ])
  refine wpAnyH_take (i := 22) (oi := { dst := some 52, op := Go.Op.move (Go.Operand.tmp 51), type := 4, pos := "law.go:53", after := #[{ on := 21, ground := Go.Ground.data }, { on := 19, ground := Go.Ground.chain }], guard := none }) (v := ?_) rfl (by kernel_rfl) (by kernel_rfl) (by kernel_rfl) (fun _ _ _ h => h) (Or.inl ⟨by rfl, ?_⟩) (by assumption) ?_
  rotate_left
  · intro w hSw; (try dsimp only at hSw); go_simp; try with_reducible rfl
  (try simp only [Act.put, List.setIfInBounds_toArray, List.set_cons_zero, List.set_cons_succ])
  refine wpAnyH_take (i := 23) (oi := { dst := some 53, op := Go.Op.load 25 (Go.Operand.tmp 2), type := 25, pos := "law.go:53", after := #[{ on := 22, ground := Go.Ground.guard }], guard := some (22, false) }) (v := ?_) rfl (by kernel_rfl) (by kernel_rfl) (by kernel_rfl) (fun _ _ _ h => h) (Or.inl ⟨by rfl, ?_⟩) (by assumption) ?_
  rotate_left
  · intro w hSw; (try dsimp only at hSw); go_simp; try with_reducible rfl
  (try simp only [Act.put, List.setIfInBounds_toArray, List.set_cons_zero, List.set_cons_succ])
  refine wpAnyH_take (i := 25) (oi := { dst := some 55, op := Go.Op.load 25 (Go.Operand.tmp 2), type := 25, pos := "law.go:53", after := #[{ on := 22, ground := Go.Ground.guard }], guard := some (22, false) }) (v := ?_) rfl (by kernel_rfl) (by kernel_rfl) (by kernel_rfl) (fun _ _ _ h => h) (Or.inl ⟨by rfl, ?_⟩) (by assumption) ?_
  rotate_left
  · intro w hSw; (try dsimp only at hSw); go_simp; try with_reducible rfl
  (try simp only [Act.put, List.setIfInBounds_toArray, List.set_cons_zero, List.set_cons_succ])
  refine wpAnyH_ready (rs := [24]) (by kernel_rfl) (by simp) ?_
  refine AllReadyH.cons (o := { dst := some 54, op := Go.Op.call { callee := Go.Callee.value (Go.Operand.func 22), args := #[Go.Operand.tmp 53], argTypes := #[25] }, type := 3, pos := "law.go:53", after := #[{ on := 23, ground := Go.Ground.data }, { on := 22, ground := Go.Ground.chain }, { on := 22, ground := Go.Ground.guard }], guard := some (22, false) }) rfl (fun K hK => ?_) AllReadyH.nil
  go_simp
  go_at_call 22
  (with_reducible refine (C5.out _ I).mono ?_)
  rintro e wq ⟨rfl, hb⟩
  replace I := I.keep hb
  (try replace zJ1 := zJ1.keep hb)
  (try replace zJ2 := zJ2.keep hb)
  (try replace zJ3 := zJ3.keep hb)
  (try replace zJ4 := zJ4.keep hb)
  (try replace zE := zE.keep hb)
  (try replace zG := zG.keep hb)
  (try replace zE2 := zE2.keep hb)
  (try replace zG2 := zG2.keep hb)
  (try replace zO := zO.keep hb)
  (try replace zO2 := zO2.keep hb)
  clear hb Ha Hb Hc Ka Kb Kc Oa Ob Oc Pa Pb Pc
  obtain ⟨Ha, Hb, Hc, _, _, _⟩ := I.h.facts
  obtain ⟨Ka, Kb, Kc, _, _, _⟩ := I.k.facts
  obtain ⟨Oa, Ob, Oc, _, _, _⟩ := zO.facts
  obtain ⟨Pa, Pb, Pc, _, _, _⟩ := zO2.facts
  refine hK.out _ _ ?_ (fun hHeld => ?_)
  · exact ⟨Ha, Hb, Hc, Ka, Kb, Kc, Oa, Ob, Oc, Pa, Pb, Pc⟩
  clear hK K
  (try simp only [Act.put, List.setIfInBounds_toArray, List.set_cons_zero, List.set_cons_succ])
  refine wpAnyH_ready (rs := [26]) (by kernel_rfl) (by simp) ?_
  refine AllReadyH.cons (o := { dst := some 56, op := Go.Op.call { callee := Go.Callee.value (Go.Operand.func 18), args := #[Go.Operand.tmp 55], argTypes := #[25] }, type := 3, pos := "law.go:53", after := #[{ on := 25, ground := Go.Ground.data }, { on := 24, ground := Go.Ground.chain }, { on := 22, ground := Go.Ground.guard }], guard := some (22, false) }) rfl (fun K hK => ?_) AllReadyH.nil
  go_simp
  go_at_call 18
  (with_reducible refine (C6.out _ I).mono ?_)
  rintro e wq ⟨rfl, hb⟩
  replace I := I.keep hb
  (try replace zJ1 := zJ1.keep hb)
  (try replace zJ2 := zJ2.keep hb)
  (try replace zJ3 := zJ3.keep hb)
  (try replace zJ4 := zJ4.keep hb)
  (try replace zE := zE.keep hb)
  (try replace zG := zG.keep hb)
  (try replace zE2 := zE2.keep hb)
  (try replace zG2 := zG2.keep hb)
  (try replace zO := zO.keep hb)
  (try replace zO2 := zO2.keep hb)
  clear hb Ha Hb Hc Ka Kb Kc Oa Ob Oc Pa Pb Pc
  obtain ⟨Ha, Hb, Hc, _, _, _⟩ := I.h.facts
  obtain ⟨Ka, Kb, Kc, _, _, _⟩ := I.k.facts
  obtain ⟨Oa, Ob, Oc, _, _, _⟩ := zO.facts
  obtain ⟨Pa, Pb, Pc, _, _, _⟩ := zO2.facts
  refine hK.out _ _ ?_ (fun hHeld => ?_)
  · exact ⟨Ha, Hb, Hc, Ka, Kb, Kc, Oa, Ob, Oc, Pa, Pb, Pc⟩
  clear hK K
  (try simp only [Act.put, List.setIfInBounds_toArray, List.set_cons_zero, List.set_cons_succ])
  refine wpAnyH_take (i := 27) (oi := { dst := some 57, op := Go.Op.binOp Go.BinOp.neq 3 (Go.Operand.tmp 54) (Go.Operand.tmp 56) 3, type := 4, pos := "law.go:53", after := #[{ on := 24, ground := Go.Ground.data }, { on := 26, ground := Go.Ground.data }, { on := 22, ground := Go.Ground.guard }], guard := some (22, false) }) (v := ?_) rfl (by kernel_rfl) (by kernel_rfl) (by kernel_rfl) (fun _ _ _ h => h) (Or.inl ⟨by rfl, ?_⟩) (by assumption) ?_
  rotate_left
  · intro w hSw; (try dsimp only at hSw); go_simp; try with_reducible rfl
  (try simp only [Act.put, List.setIfInBounds_toArray, List.set_cons_zero, List.set_cons_succ])
  refine wpAnyH_take (i := 28) (oi := { dst := some 58, op := Go.Op.pick (Go.Operand.tmp 52) (Go.Operand.const (Go.Value.bool true)) (Go.Operand.tmp 57), type := 4, pos := "law.go:53", after := #[{ on := 22, ground := Go.Ground.data }, { on := 27, ground := Go.Ground.data }], guard := none }) (v := ?_) rfl (by kernel_rfl) (by kernel_rfl) (by kernel_rfl) (fun _ _ _ h => h) (Or.inl ⟨by rfl, ?_⟩) (by assumption) ?_
  rotate_left
  · intro w hSw; (try dsimp only at hSw); go_simp; try with_reducible rfl
  (try simp only [Act.put, List.setIfInBounds_toArray, List.set_cons_zero, List.set_cons_succ])
  refine wpAnyH_take (i := 29) (oi := { dst := some 59, op := Go.Op.move (Go.Operand.tmp 58), type := 4, pos := "law.go:53", after := #[{ on := 28, ground := Go.Ground.data }, { on := 26, ground := Go.Ground.chain }], guard := none }) (v := ?_) rfl (by kernel_rfl) (by kernel_rfl) (by kernel_rfl) (fun _ _ _ h => h) (Or.inl ⟨by rfl, ?_⟩) (by assumption) ?_
  rotate_left
  · intro w hSw; (try dsimp only at hSw); go_simp; try with_reducible rfl
  (try simp only [Act.put, List.setIfInBounds_toArray, List.set_cons_zero, List.set_cons_succ])
  refine wpAnyH_take (i := 30) (oi := { dst := some 60, op := Go.Op.load 25 (Go.Operand.tmp 2), type := 25, pos := "law.go:53", after := #[{ on := 29, ground := Go.Ground.guard }], guard := some (29, false) }) (v := ?_) rfl (by kernel_rfl) (by kernel_rfl) (by kernel_rfl) (fun _ _ _ h => h) (Or.inl ⟨by rfl, ?_⟩) (by assumption) ?_
  rotate_left
  · intro w hSw; (try dsimp only at hSw); go_simp; try with_reducible rfl
  (try simp only [Act.put, List.setIfInBounds_toArray, List.set_cons_zero, List.set_cons_succ])
  refine wpAnyH_take (i := 32) (oi := { dst := some 62, op := Go.Op.load 25 (Go.Operand.tmp 2), type := 25, pos := "law.go:53", after := #[{ on := 29, ground := Go.Ground.guard }], guard := some (29, false) }) (v := ?_) rfl (by kernel_rfl) (by kernel_rfl) (by kernel_rfl) (fun _ _ _ h => h) (Or.inl ⟨by rfl, ?_⟩) (by assumption) ?_
  rotate_left
  · intro w hSw; (try dsimp only at hSw); go_simp; try with_reducible rfl
  (try simp only [Act.put, List.setIfInBounds_toArray, List.set_cons_zero, List.set_cons_succ])
  refine wpAnyH_ready (rs := [31]) (by kernel_rfl) (by simp) ?_
  refine AllReadyH.cons (o := { dst := some 61, op := Go.Op.call { callee := Go.Callee.value (Go.Operand.func 15), args := #[Go.Operand.tmp 60], argTypes := #[25] }, type := 25, pos := "law.go:53", after := #[{ on := 30, ground := Go.Ground.data }, { on := 29, ground := Go.Ground.chain }, { on := 29, ground := Go.Ground.guard }], guard := some (29, false) }) rfl (fun K hK => ?_) AllReadyH.nil
  go_simp
  go_at_call 15
  (with_reducible refine (C7.out _ I).mono ?_)
  rintro e wq ⟨AE, nE, cE, xE, AG, nG, cG, xG, rfl, hn, hn', hb⟩
  replace I := I.keep hb
  (try replace zJ1 := zJ1.keep hb)
  (try replace zJ2 := zJ2.keep hb)
  (try replace zJ3 := zJ3.keep hb)
  (try replace zJ4 := zJ4.keep hb)
  (try replace zE := zE.keep hb)
  (try replace zG := zG.keep hb)
  (try replace zE2 := zE2.keep hb)
  (try replace zG2 := zG2.keep hb)
  (try replace zO := zO.keep hb)
  (try replace zO2 := zO2.keep hb)
  (try clear zE)
  (try clear zG)
  have zE := hn
  have zG := hn'
  clear hb hn hn' Ha Hb Hc Ka Kb Kc Oa Ob Oc Pa Pb Pc
  obtain ⟨Ha, Hb, Hc, _, _, _⟩ := I.h.facts
  obtain ⟨Ka, Kb, Kc, _, _, _⟩ := I.k.facts
  obtain ⟨Oa, Ob, Oc, _, _, _⟩ := zO.facts
  obtain ⟨Pa, Pb, Pc, _, _, _⟩ := zO2.facts
  refine hK.out _ _ ?_ (fun hHeld => ?_)
  · exact ⟨Ha, Hb, Hc, Ka, Kb, Kc, Oa, Ob, Oc, Pa, Pb, Pc⟩
  clear hK K
  (try simp only [Act.put, List.setIfInBounds_toArray, List.set_cons_zero, List.set_cons_succ])
  refine wpAnyH_ready (rs := [33]) (by kernel_rfl) (by simp) ?_
  refine AllReadyH.cons (o := { dst := some 63, op := Go.Op.call { callee := Go.Callee.value (Go.Operand.func 23), args := #[Go.Operand.tmp 62], argTypes := #[25] }, type := 25, pos := "law.go:53", after := #[{ on := 32, ground := Go.Ground.data }, { on := 31, ground := Go.Ground.chain }, { on := 29, ground := Go.Ground.guard }], guard := some (29, false) }) rfl (fun K hK => ?_) AllReadyH.nil
  go_simp
  go_at_call 23
  (with_reducible refine (C8.out _ I).mono ?_)
  rintro e wq ⟨AE2, nE2, cE2, xE2, AG2, nG2, cG2, xG2, rfl, hn, hn', hb⟩
  replace I := I.keep hb
  (try replace zJ1 := zJ1.keep hb)
  (try replace zJ2 := zJ2.keep hb)
  (try replace zJ3 := zJ3.keep hb)
  (try replace zJ4 := zJ4.keep hb)
  (try replace zE := zE.keep hb)
  (try replace zG := zG.keep hb)
  (try replace zE2 := zE2.keep hb)
  (try replace zG2 := zG2.keep hb)
  (try replace zO := zO.keep hb)
  (try replace zO2 := zO2.keep hb)
  (try clear zE2)
  (try clear zG2)
  have zE2 := hn
  have zG2 := hn'
  clear hb hn hn' Ha Hb Hc Ka Kb Kc Oa Ob Oc Pa Pb Pc
  obtain ⟨Ha, Hb, Hc, _, _, _⟩ := I.h.facts
  obtain ⟨Ka, Kb, Kc, _, _, _⟩ := I.k.facts
  obtain ⟨Oa, Ob, Oc, _, _, _⟩ := zO.facts
  obtain ⟨Pa, Pb, Pc, _, _, _⟩ := zO2.facts
  refine hK.out _ _ ?_ (fun hHeld => ?_)
  · exact ⟨Ha, Hb, Hc, Ka, Kb, Kc, Oa, Ob, Oc, Pa, Pb, Pc⟩
  clear hK K
  (try simp only [Act.put, List.setIfInBounds_toArray, List.set_cons_zero, List.set_cons_succ])
  refine wpAnyH_ready (rs := [34]) (by kernel_rfl) (by simp) ?_
  refine AllReadyH.cons (o := { dst := some 64, op := Go.Op.call { callee := Go.Callee.value (Go.Operand.func 13), args := #[Go.Operand.tmp 61, Go.Operand.tmp 63], argTypes := #[25, 25] }, type := 4, pos := "law.go:53", after := #[{ on := 31, ground := Go.Ground.data }, { on := 33, ground := Go.Ground.data }, { on := 33, ground := Go.Ground.chain }, { on := 29, ground := Go.Ground.guard }], guard := some (29, false) }) rfl (fun K hK => ?_) AllReadyH.nil
  go_simp
  go_at_call 13
  (with_reducible refine (sameFr_yes (t := TN) rfl rfl zE zG zE2 zG2).mono ?_)
  rintro e wq ⟨rfl, hb⟩
  replace I := I.keep hb
  (try replace zJ1 := zJ1.keep hb)
  (try replace zJ2 := zJ2.keep hb)
  (try replace zJ3 := zJ3.keep hb)
  (try replace zJ4 := zJ4.keep hb)
  (try replace zE := zE.keep hb)
  (try replace zG := zG.keep hb)
  (try replace zE2 := zE2.keep hb)
  (try replace zG2 := zG2.keep hb)
  (try replace zO := zO.keep hb)
  (try replace zO2 := zO2.keep hb)
  clear hb Ha Hb Hc Ka Kb Kc Oa Ob Oc Pa Pb Pc
  obtain ⟨Ha, Hb, Hc, _, _, _⟩ := I.h.facts
  obtain ⟨Ka, Kb, Kc, _, _, _⟩ := I.k.facts
  obtain ⟨Oa, Ob, Oc, _, _, _⟩ := zO.facts
  obtain ⟨Pa, Pb, Pc, _, _, _⟩ := zO2.facts
  refine hK.out _ _ ?_ (fun hHeld => ?_)
  · exact ⟨Ha, Hb, Hc, Ka, Kb, Kc, Oa, Ob, Oc, Pa, Pb, Pc⟩
  clear hK K
  (try simp only [Act.put, List.setIfInBounds_toArray, List.set_cons_zero, List.set_cons_succ])
  refine wpAnyH_take (i := 35) (oi := { dst := some 65, op := Go.Op.unOp Go.UnOp.not 4 (Go.Operand.tmp 64), type := 4, pos := "law.go:53", after := #[{ on := 34, ground := Go.Ground.data }, { on := 29, ground := Go.Ground.guard }], guard := some (29, false) }) (v := ?_) rfl (by kernel_rfl) (by kernel_rfl) (by kernel_rfl) (fun _ _ _ h => h) (Or.inl ⟨by rfl, ?_⟩) (by assumption) ?_
  rotate_left
  · intro w hSw; (try dsimp only at hSw); go_simp; try with_reducible rfl
  (try simp only [Act.put, List.setIfInBounds_toArray, List.set_cons_zero, List.set_cons_succ])
  refine wpAnyH_take (i := 36) (oi := { dst := some 66, op := Go.Op.pick (Go.Operand.tmp 59) (Go.Operand.const (Go.Value.bool true)) (Go.Operand.tmp 65), type := 4, pos := "law.go:53", after := #[{ on := 29, ground := Go.Ground.data }, { on := 35, ground := Go.Ground.data }], guard := none }) (v := ?_) rfl (by kernel_rfl) (by kernel_rfl) (by kernel_rfl) (fun _ _ _ h => h) (Or.inl ⟨by rfl, ?_⟩) (by assumption) ?_
  rotate_left
  · intro w hSw; (try dsimp only at hSw); go_simp; try with_reducible rfl
  (try simp only [Act.put, List.setIfInBounds_toArray, List.set_cons_zero, List.set_cons_succ])
  refine wpAnyH_done (by kernel_rfl) ?_ _
  go_wp2_with fail
  obtain ⟨v5, hv⟩ : ∃ v, v = wq := ⟨_, rfl⟩
  subst hv
  replace I := I.drew
  clear zE zG zE2 zG2 zJ1 zJ2 zJ3 zJ4 zO zO2 Oa Ob Oc Pa Pb Pc Ha Hb Hc Ka Kb Kc
  obtain ⟨Ha, Hb, Hc, _, _, _⟩ := I.h.facts
  obtain ⟨Ka, Kb, Kc, _, _, _⟩ := I.k.facts
  go_region_held3 (fun w' => w'.cell? ⟨w.heap.size, 0, none⟩ = some (.bool s) ∧ w'.cell? ⟨w.heap.size, 1, none⟩ = some (.slice A n c) ∧ w'.cell? ⟨w.heap.size, 2, none⟩ = some (.slice B m d) ∧ w'.cell? ⟨w.heap.size + 1, 0, none⟩ = some (.bool s') ∧ w'.cell? ⟨w.heap.size + 1, 1, none⟩ = some (.slice A' n' c') ∧ w'.cell? ⟨w.heap.size + 1, 2, none⟩ = some (.slice B' m' d')) (first | (with_reducible exact ⟨Ha, Hb, Hc, Ka, Kb, Kc⟩) | go_keep) (first | (go_at_call 10; (with_reducible refine (C9.out _ I).mono ?_); rintro e wq ⟨AE, nE, cE, xE, AG, nG, cG, xG, rfl, hn, hn', hb⟩; replace I := I.keep hb; (try replace zJ1 := zJ1.keep hb); (try replace zJ2 := zJ2.keep hb); (try replace zJ3 := zJ3.keep hb); (try replace zJ4 := zJ4.keep hb); (try replace zE := zE.keep hb); (try replace zG := zG.keep hb); (try replace zE2 := zE2.keep hb); (try replace zG2 := zG2.keep hb); (try replace zO := zO.keep hb); (try replace zO2 := zO2.keep hb); (try clear zE); (try clear zG); have zE := hn; have zG := hn'; clear hb hn hn' Ha Hb Hc Ka Kb Kc; obtain ⟨Ha, Hb, Hc, _, _, _⟩ := I.h.facts; obtain ⟨Ka, Kb, Kc, _, _, _⟩ := I.k.facts) | (go_at_call 24; (with_reducible refine (CA.out _ I).mono ?_); rintro e wq ⟨AE2, nE2, cE2, xE2, AG2, nG2, cG2, xG2, rfl, hn, hn', hb⟩; replace I := I.keep hb; (try replace zJ1 := zJ1.keep hb); (try replace zJ2 := zJ2.keep hb); (try replace zJ3 := zJ3.keep hb); (try replace zJ4 := zJ4.keep hb); (try replace zE := zE.keep hb); (try replace zG := zG.keep hb); (try replace zE2 := zE2.keep hb); (try replace zG2 := zG2.keep hb); (try replace zO := zO.keep hb); (try replace zO2 := zO2.keep hb); (try clear zE2); (try clear zG2); have zE2 := hn; have zG2 := hn'; clear hb hn hn' Ha Hb Hc Ka Kb Kc; obtain ⟨Ha, Hb, Hc, _, _, _⟩ := I.h.facts; obtain ⟨Ka, Kb, Kc, _, _, _⟩ := I.k.facts) | (go_at_call 13; (with_reducible refine (sameFr_yes (t := TA) rfl rfl zE zG zE2 zG2).mono ?_); rintro e wq ⟨rfl, hb⟩; replace I := I.keep hb; (try replace zJ1 := zJ1.keep hb); (try replace zJ2 := zJ2.keep hb); (try replace zJ3 := zJ3.keep hb); (try replace zJ4 := zJ4.keep hb); (try replace zE := zE.keep hb); (try replace zG := zG.keep hb); (try replace zE2 := zE2.keep hb); (try replace zG2 := zG2.keep hb); (try replace zO := zO.keep hb); (try replace zO2 := zO2.keep hb); clear hb Ha Hb Hc Ka Kb Kc; obtain ⟨Ha, Hb, Hc, _, _, _⟩ := I.h.facts; obtain ⟨Ka, Kb, Kc, _, _, _⟩ := I.k.facts) | (go_at_call 14; (with_reducible refine (CB.out _ I).mono ?_); rintro e wq ⟨AE, nE, cE, xE, AG, nG, cG, xG, rfl, hn, hn', hb⟩; replace I := I.keep hb; (try replace zJ1 := zJ1.keep hb); (try replace zJ2 := zJ2.keep hb); (try replace zJ3 := zJ3.keep hb); (try replace zJ4 := zJ4.keep hb); (try replace zE := zE.keep hb); (try replace zG := zG.keep hb); (try replace zE2 := zE2.keep hb); (try replace zG2 := zG2.keep hb); (try replace zO := zO.keep hb); (try replace zO2 := zO2.keep hb); (try clear zE); (try clear zG); have zE := hn; have zG := hn'; clear hb hn hn' Ha Hb Hc Ka Kb Kc; obtain ⟨Ha, Hb, Hc, _, _, _⟩ := I.h.facts; obtain ⟨Ka, Kb, Kc, _, _, _⟩ := I.k.facts) | (go_at_call 25; (with_reducible refine (CC.out _ I).mono ?_); rintro e wq ⟨AE2, nE2, cE2, xE2, AG2, nG2, cG2, xG2, rfl, hn, hn', hb⟩; replace I := I.keep hb; (try replace zJ1 := zJ1.keep hb); (try replace zJ2 := zJ2.keep hb); (try replace zJ3 := zJ3.keep hb); (try replace zJ4 := zJ4.keep hb); (try replace zE := zE.keep hb); (try replace zG := zG.keep hb); (try replace zE2 := zE2.keep hb); (try replace zG2 := zG2.keep hb); (try replace zO := zO.keep hb); (try replace zO2 := zO2.keep hb); (try clear zE2); (try clear zG2); have zE2 := hn; have zG2 := hn'; clear hb hn hn' Ha Hb Hc Ka Kb Kc; obtain ⟨Ha, Hb, Hc, _, _, _⟩ := I.h.facts; obtain ⟨Ka, Kb, Kc, _, _, _⟩ := I.k.facts) | (go_at_call 13; (with_reducible refine (sameFr_yes (t := TS) rfl rfl zE zG zE2 zG2).mono ?_); rintro e wq ⟨rfl, hb⟩; replace I := I.keep hb; (try replace zJ1 := zJ1.keep hb); (try replace zJ2 := zJ2.keep hb); (try replace zJ3 := zJ3.keep hb); (try replace zJ4 := zJ4.keep hb); (try replace zE := zE.keep hb); (try replace zG := zG.keep hb); (try replace zE2 := zE2.keep hb); (try replace zG2 := zG2.keep hb); (try replace zO := zO.keep hb); (try replace zO2 := zO2.keep hb); clear hb Ha Hb Hc Ka Kb Kc; obtain ⟨Ha, Hb, Hc, _, _, _⟩ := I.h.facts; obtain ⟨Ka, Kb, Kc, _, _, _⟩ := I.k.facts) | (go_at_call 11; (with_reducible refine (CD.out _ I).mono ?_); rintro e wq ⟨AE, nE, cE, xE, AG, nG, cG, xG, rfl, hn, hn', hb⟩; replace I := I.keep hb; (try replace zJ1 := zJ1.keep hb); (try replace zJ2 := zJ2.keep hb); (try replace zJ3 := zJ3.keep hb); (try replace zJ4 := zJ4.keep hb); (try replace zE := zE.keep hb); (try replace zG := zG.keep hb); (try replace zE2 := zE2.keep hb); (try replace zG2 := zG2.keep hb); (try replace zO := zO.keep hb); (try replace zO2 := zO2.keep hb); (try clear zE); (try clear zG); have zE := hn; have zG := hn'; clear hb hn hn' Ha Hb Hc Ka Kb Kc; obtain ⟨Ha, Hb, Hc, _, _, _⟩ := I.h.facts; obtain ⟨Ka, Kb, Kc, _, _, _⟩ := I.k.facts) | (go_at_call 26; (with_reducible refine (CE.out _ I).mono ?_); rintro e wq ⟨AE2, nE2, cE2, xE2, AG2, nG2, cG2, xG2, rfl, hn, hn', hb⟩; replace I := I.keep hb; (try replace zJ1 := zJ1.keep hb); (try replace zJ2 := zJ2.keep hb); (try replace zJ3 := zJ3.keep hb); (try replace zJ4 := zJ4.keep hb); (try replace zE := zE.keep hb); (try replace zG := zG.keep hb); (try replace zE2 := zE2.keep hb); (try replace zG2 := zG2.keep hb); (try replace zO := zO.keep hb); (try replace zO2 := zO2.keep hb); (try clear zE2); (try clear zG2); have zE2 := hn; have zG2 := hn'; clear hb hn hn' Ha Hb Hc Ka Kb Kc; obtain ⟨Ha, Hb, Hc, _, _, _⟩ := I.h.facts; obtain ⟨Ka, Kb, Kc, _, _, _⟩ := I.k.facts) | (go_at_call 13; (with_reducible refine (sameFr_yes (t := TM) rfl rfl zE zG zE2 zG2).mono ?_); rintro e wq ⟨rfl, hb⟩; replace I := I.keep hb; (try replace zJ1 := zJ1.keep hb); (try replace zJ2 := zJ2.keep hb); (try replace zJ3 := zJ3.keep hb); (try replace zJ4 := zJ4.keep hb); (try replace zE := zE.keep hb); (try replace zG := zG.keep hb); (try replace zE2 := zE2.keep hb); (try replace zG2 := zG2.keep hb); (try replace zO := zO.keep hb); (try replace zO2 := zO2.keep hb); clear hb Ha Hb Hc Ka Kb Kc; obtain ⟨Ha, Hb, Hc, _, _, _⟩ := I.h.facts; obtain ⟨Ka, Kb, Kc, _, _, _⟩ := I.k.facts) | (go_at_call 9; (with_reducible refine (J5.out _).mono ?_); rintro e wq ⟨rfl, hb⟩; replace I := I.keep hb; (try replace zJ1 := zJ1.keep hb); (try replace zJ2 := zJ2.keep hb); (try replace zJ3 := zJ3.keep hb); (try replace zJ4 := zJ4.keep hb); (try replace zE := zE.keep hb); (try replace zG := zG.keep hb); (try replace zE2 := zE2.keep hb); (try replace zG2 := zG2.keep hb); (try replace zO := zO.keep hb); (try replace zO2 := zO2.keep hb); clear hb Ha Hb Hc Ka Kb Kc; obtain ⟨Ha, Hb, Hc, _, _, _⟩ := I.h.facts; obtain ⟨Ka, Kb, Kc, _, _, _⟩ := I.k.facts))
  go_wp2
  go_ret
  exact ⟨rfl, I.b⟩
set_option maxRecDepth 100000 in
set_option maxHeartbeats 2000000 in
theorem computes_no (s s' : Bool) (A B A' B' : Option Addr) (n c m d n' c' m' d' : Nat) (w : World) (b1 b2 : Bool) (hb12 : b1 = false ∨ (b1 = true ∧ b2 = false))
    (V1 : Hid (∀ w', Below w.heap.size w w' → Calls Tryz.prog 8 #[.agg #[.bool s, .slice A n c, .slice B m d]] w' (Gives (.bool b1) w'))) (V2 : Hid (∀ w', Below w.heap.size w w' → Calls Tryz.prog 8 #[.agg #[.bool s', .slice A' n' c', .slice B' m' d']] w' (Gives (.bool b2) w'))) :
    Calls Tryz.prog 4 #[.agg #[.bool s, .slice A n c, .slice B m d], .agg #[.bool s', .slice A' n' c', .slice B' m' d']] w (Gives (.bool true) w) := by
  have b0 := ((Below.refl w.heap.size w).alloc (Nat.le_refl _) (.cells #[.bool s, .slice A n c, .slice B m d] 25)).alloc (by simp) (.cells #[.bool s', .slice A' n' c', .slice B' m' d'] 25)
  have H0 := Lib.hid ((FB.new w s A n c B m d).alloc (.cells #[.bool s', .slice A' n' c', .slice B' m' d'] 25))
  have k := FB.new (w.alloc (.cells #[.bool s, .slice A n c, .slice B m d] 25)) s' A' n' c' B' m' d'
  rw [show (w.alloc (.cells #[.bool s, .slice A n c, .slice B m d] 25)).heap.size = w.heap.size + 1 by simp] at k
  have K0 := Lib.hid k
  have B0 := Lib.hid b0
  have J5 := Lib.hid awake2
  clear b0 k
  obtain ⟨Ha, Hb, Hc, _, _, _⟩ := H0.out.facts
  obtain ⟨Ka, Kb, Kc, _, _, _⟩ := K0.out.facts
  rcases hb12 with rfl | ⟨rfl, rfl⟩
  · go_enter Tryz.func4, Tryz.ntmps4
    go_wp2_with fail
    refine (V1.out _ B0.out).mono ?_
    rintro e w1 ⟨rfl, hb⟩
    have B1 := Lib.hid (B0.out.trans (hb.mono B0.out.size))
    clear hb B0 Ha Hb Hc Ka Kb Kc
    go_wp2_with fail
    refine (J5.out _).mono ?_
    rintro e w9 ⟨rfl, hb⟩
    have B9 := Lib.hid (B1.out.trans (hb.mono B1.out.size))
    clear hb B1
    go_wp2
    go_ret
    exact ⟨rfl, B9.out⟩
  · go_enter Tryz.func4, Tryz.ntmps4
    go_wp2_with fail
    refine (V1.out _ B0.out).mono ?_
    rintro e w1 ⟨rfl, hb⟩
    have B1 := Lib.hid (B0.out.trans (hb.mono B0.out.size))
    have K1 := Lib.hid (K0.out.keep hb)
    clear hb B0 Ha Hb Hc Ka Kb Kc
    obtain ⟨Ka, Kb, Kc, _, _, _⟩ := K1.out.facts
    go_wp2_with fail
    refine (V2.out _ B1.out).mono ?_
    rintro e w2 ⟨rfl, hb⟩
    have B2 := Lib.hid (B1.out.trans (hb.mono B1.out.size))
    clear hb B1 Ka Kb Kc
    go_wp2_with fail
    refine (J5.out _).mono ?_
    rintro e w9 ⟨rfl, hb⟩
    have B9 := Lib.hid (B2.out.trans (hb.mono B2.out.size))
    clear hb B2
    go_wp2
    go_ret
    exact ⟨rfl, B9.out⟩
theorem computes_walk (s : Bool) (A : Option Addr) (n c : Nat) (z0 : List Int) (B : Option Addr) (m d : Nat) (z1 : List Int) (s' : Bool) (A' : Option Addr) (n' c' : Nat) (z2 : List Int) (B' : Option Addr) (m' d' : Nat) (z3 : List Int) (w : World) (w0 : IsRow .u32 w A n c z0) (w1 : IsRow .u32 w B m d z1) (w2 : IsRow .u32 w A' n' c' z2) (w3 : IsRow .u32 w B' m' d' z3) :
    Calls Tryz.prog 4 #[.agg #[.bool s, .slice A n c, .slice B m d], .agg #[.bool s', .slice A' n' c', .slice B' m' d']] w (Gives (.bool true) w) := by
  obtain ⟨b1, hb1, v1⟩ := IsRow.short (s := s) w0 w1
  obtain ⟨b2, hb2, v2⟩ := IsRow.short (s := s') w2 w3
  rcases Bool.eq_false_or_eq_true b1 with h1 | h1
  · rcases Bool.eq_false_or_eq_true b2 with h2 | h2
    · subst h1; subst h2
      obtain ⟨l1, l2, xs, ys, p, q, hx, hy, ok⟩ := hb1 rfl
      obtain ⟨l3, l4, xs', ys', p', q', hx', hy', ok'⟩ := hb2 rfl
      have pp := hx.below l1
      have pq := hy.below l2
      have pp' := hx'.below l3
      have pq' := hy'.below l4
      have hq : 0 < q := ok.1
      have hq' : 0 < q' := ok'.1
      have okn := Fr.neg_ok ok'
      rcases Nat.eq_zero_or_pos p' with h0 | h0
      · exact computes_zero s s' A B A' B' n c m d n' c' m' d' p q p' q' xs ys xs' ys' w ⟨false, 0, 0⟩ (Fr.neg ⟨s, p, q⟩) (Fr.add ⟨s, p, q⟩ ⟨s', p', q'⟩) (Fr.add ⟨s, p, q⟩ (Fr.neg ⟨s', p', q'⟩)) (Fr.mul ⟨s, p, q⟩ ⟨s', p', q'⟩) (cmpFr ⟨s, p, q⟩ ⟨s', p', q'⟩) (sgn s p) 8 rfl hx hy hx' hy' (Lib.hid v1) (Lib.hid v2)
          (Lib.hid fun W I => divFr_zero s s' A B A' B' n c m d n' c' m' d' p q p' q' 20 xs ys xs' ys' W I.x I.y I.u I.v pp' (by decide) h0)
          (Lib.hid fun W I => rdivFr_zero s s' A B A' B' n c m d n' c' m' d' p q p' q' 20 xs ys xs' ys' W I.x I.y I.u I.v pp pq pp' pq' (by decide) h0)
          (Lib.hid fun W I => fcmpFr_any s s' A B A' B' n c m d n' c' m' d' p q p' q' 20 xs ys xs' ys' W I.x I.y I.u I.v pp pq pp' pq' (by decide) ok ok')
          (Lib.hid fun W I => rcmpFr_any s s' A B A' B' n c m d n' c' m' d' p q p' q' 20 xs ys xs' ys' W I.x I.y I.u I.v pp pq pp' pq' (by decide) ok ok' _ rfl)
          (Lib.hid fun W I => signFr_any s A B n c m d p 20 xs W I.x pp (by decide))
          (Lib.hid fun W I => rsignFr_any s A B n c m d p xs W I.x ok.2.2 _ rfl)
          (Lib.hid fun W I => negFr_any s A B n c m d p q 20 xs ys W I.x I.y pp pq (by decide))
          (Lib.hid fun W I => rnegFr_any s A B n c m d p q xs ys W I.x I.y _ rfl)
          (Lib.hid fun W I => addFr_any s s' A B A' B' n c m d n' c' m' d' p q p' q' 20 xs ys xs' ys' W I.x I.y I.u I.v ok ok' pp pq pp' pq' (by decide))
          (Lib.hid fun W I => raddFr_any s s' A B A' B' n c m d n' c' m' d' p q p' q' 20 xs ys xs' ys' W I.x I.y I.u I.v pp pq pp' pq' (by decide) ok ok' _ rfl)
          (Lib.hid fun W I => subFr_any s s' A B A' B' n c m d n' c' m' d' p q p' q' 20 xs ys xs' ys' W I.x I.y I.u I.v pp pq pp' pq' (by decide) ok ok' _ rfl)
          (Lib.hid fun W I => rsubFr_any s s' A B A' B' n c m d n' c' m' d' p q p' q' 20 xs ys xs' ys' W I.x I.y I.u I.v pp pq pp' pq' (by decide) ok ok' _ _ rfl rfl)
          (Lib.hid fun W I => mulFr_any s s' A B A' B' n c m d n' c' m' d' p q p' q' 20 xs ys xs' ys' W I.x I.y I.u I.v pp pq pp' pq' (by decide) ok ok')
          (Lib.hid fun W I => rmulFr_s s s' A B A' B' n c m d n' c' m' d' p q p' q' 20 xs ys xs' ys' W I.x I.y I.u I.v pp pq pp' pq' (by decide) hq hq' _ rfl)
      · exact computes_pos s s' A B A' B' n c m d n' c' m' d' p q p' q' xs ys xs' ys' w (Fr.div ⟨s, p, q⟩ ⟨s', p', q'⟩) (Fr.neg ⟨s, p, q⟩) (Fr.add ⟨s, p, q⟩ ⟨s', p', q'⟩) (Fr.add ⟨s, p, q⟩ (Fr.neg ⟨s', p', q'⟩)) (Fr.mul ⟨s, p, q⟩ ⟨s', p', q'⟩) (cmpFr ⟨s, p, q⟩ ⟨s', p', q'⟩) (sgn s p) hx hy hx' hy' (Lib.hid v1) (Lib.hid v2)
          (Lib.hid fun W I => divFr_pos s s' A B A' B' n c m d n' c' m' d' p q p' q' 20 xs ys xs' ys' W I.x I.y I.u I.v pp pq pp' pq' (by decide) ok ok' h0 _ rfl)
          (Lib.hid fun W I => rdivFr_pos s s' A B A' B' n c m d n' c' m' d' p q p' q' 20 xs ys xs' ys' W I.x I.y I.u I.v pp pq pp' pq' (by decide) hq h0 _ rfl)
          (Lib.hid fun W I => fcmpFr_any s s' A B A' B' n c m d n' c' m' d' p q p' q' 20 xs ys xs' ys' W I.x I.y I.u I.v pp pq pp' pq' (by decide) ok ok')
          (Lib.hid fun W I => rcmpFr_any s s' A B A' B' n c m d n' c' m' d' p q p' q' 20 xs ys xs' ys' W I.x I.y I.u I.v pp pq pp' pq' (by decide) ok ok' _ rfl)
          (Lib.hid fun W I => signFr_any s A B n c m d p 20 xs W I.x pp (by decide))
          (Lib.hid fun W I => rsignFr_any s A B n c m d p xs W I.x ok.2.2 _ rfl)
          (Lib.hid fun W I => negFr_any s A B n c m d p q 20 xs ys W I.x I.y pp pq (by decide))
          (Lib.hid fun W I => rnegFr_any s A B n c m d p q xs ys W I.x I.y _ rfl)
          (Lib.hid fun W I => addFr_any s s' A B A' B' n c m d n' c' m' d' p q p' q' 20 xs ys xs' ys' W I.x I.y I.u I.v ok ok' pp pq pp' pq' (by decide))
          (Lib.hid fun W I => raddFr_any s s' A B A' B' n c m d n' c' m' d' p q p' q' 20 xs ys xs' ys' W I.x I.y I.u I.v pp pq pp' pq' (by decide) ok ok' _ rfl)
          (Lib.hid fun W I => subFr_any s s' A B A' B' n c m d n' c' m' d' p q p' q' 20 xs ys xs' ys' W I.x I.y I.u I.v pp pq pp' pq' (by decide) ok ok' _ rfl)
          (Lib.hid fun W I => rsubFr_any s s' A B A' B' n c m d n' c' m' d' p q p' q' 20 xs ys xs' ys' W I.x I.y I.u I.v pp pq pp' pq' (by decide) ok ok' _ _ rfl rfl)
          (Lib.hid fun W I => mulFr_any s s' A B A' B' n c m d n' c' m' d' p q p' q' 20 xs ys xs' ys' W I.x I.y I.u I.v pp pq pp' pq' (by decide) ok ok')
          (Lib.hid fun W I => rmulFr_s s s' A B A' B' n c m d n' c' m' d' p q p' q' 20 xs ys xs' ys' W I.x I.y I.u I.v pp pq pp' pq' (by decide) hq hq' _ rfl)
    · exact computes_no s s' A B A' B' n c m d n' c' m' d' w b1 b2 (.inr ⟨h1, h2⟩) (Lib.hid v1) (Lib.hid v2)
  · exact computes_no s s' A B A' B' n c m d n' c' m' d' w b1 b2 (.inl h1) (Lib.hid v1) (Lib.hid v2)
end Go.Proofs.YtlhiolnkmbkdaaaGreatDoor
