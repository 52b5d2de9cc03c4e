/- The contract of fraction.Mul: no claim of its own. -/
import Derived.Test.YtebfnbnaheolgaaGreatDoorAddF
namespace Go.Proofs.YtebfnbnaheolgaaGreatDoor
open Go.RowKit
theorem st3_keep {w : World} {g g' o : Nat} {v0 v1 v2 v : Value} (hne : g' ≠ g) (h : w.cell? ⟨g', o, none⟩ = some v) : (((w.setCell ⟨g, 0, none⟩ v0).setCell ⟨g, 1, none⟩ v1).setCell ⟨g, 2, none⟩ v2).cell? ⟨g', o, none⟩ = some v := by
  rw [World.cell?_setCell_other _ _ _ _ (fun x => hne (by injection x with x; exact x.symm)), World.cell?_setCell_other _ _ _ _ (fun x => hne (by injection x with x; exact x.symm)), World.cell?_setCell_other _ _ _ _ (fun x => hne (by injection x with x; exact x.symm)), h]
theorem Fr.zero_mul {a : Fr} (ha : Fr.Ok a) : Fr.mul Fr.zero a = Fr.zero := by
  refine (Fr.eq_ofInt Fr.zero_ok (Fr.pos_mul Fr.zero_ok ha) ?_).symm
  simp [Fr.zero, Fr.n, Fr.num]
set_option maxRecDepth 100000 in
set_option maxHeartbeats 1000000 in
theorem mulf_left (s s' : Bool) (A B A' B' : Option Addr) (n c m d n' c' m' d' p q p' q' i : Nat) (xs ys xs' ys' : List Nat) (w : World) (hx : Num w A n c xs p) (hy : Num w B m d ys q) (hx' : Num w A' n' c' xs' p') (hy' : Num w B' m' d' ys' q') (pp : p < 4294967296 ^ i) (pq : q < 4294967296 ^ i) (pp' : p' < 4294967296 ^ i) (pq' : q' < 4294967296 ^ i) (hi : i ≤ 100000) (h0 : p = 0) : Calls Tryz.prog 27 #[.agg #[.bool s, .slice A n c, .slice B m d], .agg #[.bool s', .slice A' n' c', .slice B' m' d']] w (GivesFr Fr.zero w) := by
  have B0 := Lib.hid ((((Below.refl w.heap.size w).alloc (Nat.le_refl _) (.cells #[.bool s, .slice A n c, .slice B m d] 27)).alloc (by simp) (.cells #[.bool s', .slice A' n' c', .slice B' m' d'] 27)).alloc (by simp; omega) (.cells #[.bool false, .slice none 0 0, .slice none 0 0] 27))
  have X0 := Lib.hid (hx.keep B0.out)
  have Y0 := Lib.hid (hy.keep B0.out)
  have U0 := Lib.hid (hx'.keep B0.out)
  have V0 := Lib.hid (hy'.keep B0.out)
  have H0 := Lib.hid (((FB.new w s A n c B m d).alloc (.cells #[.bool s', .slice A' n' c', .slice B' m' d'] 27)).alloc (.cells #[.bool false, .slice none 0 0, .slice none 0 0] 27))
  have K0 := Lib.hid ((FB.new (w.alloc (.cells #[.bool s, .slice A n c, .slice B m d] 27)) s' A' n' c' B' m' d').alloc (.cells #[.bool false, .slice none 0 0, .slice none 0 0] 27))
  have R0 := Lib.hid (FB.new ((w.alloc (.cells #[.bool s, .slice A n c, .slice B m d] 27)).alloc (.cells #[.bool s', .slice A' n' c', .slice B' m' d'] 27)) false none 0 0 none 0 0)
  rw [show (w.alloc (.cells #[.bool s, .slice A n c, .slice B m d] 27)).heap.size = w.heap.size + 1 by simp] at K0
  rw [show ((w.alloc (.cells #[.bool s, .slice A n c, .slice B m d] 27)).alloc (.cells #[.bool s', .slice A' n' c', .slice B' m' d'] 27)).heap.size = w.heap.size + 1 + 1 by simp] at R0
  have PP := Lib.hid pp
  have PQ := Lib.hid pq
  have PP' := Lib.hid pp'
  have PQ' := Lib.hid pq'
  have zt := Lib.hid (decide_eq_true h0)
  clear hx hy hx' hy' pp pq pp' pq' h0
  go_enter Tryz.func27, Tryz.ntmps27
  go_wp2_with fail
  refine (isZero_s X0.out PP.out (by omega) zt.out).mono ?_
  rintro e w' ⟨rfl, rfl⟩
  go_wp2_with fail
  clear X0 Y0 U0 V0 H0 K0
  refine (zeroFr_any _).mono ?_
  rintro e w1 ⟨AP, nP, cP, xP, AQ, nQ, cQ, xQ, rfl, hn, hn', hb⟩
  have P1 := Lib.hid (hn)
  have Q1 := Lib.hid (hn')
  have R1 := Lib.hid (R0.out.keep hb)
  have B1 := Lib.hid (B0.out.trans (hb.mono B0.out.size))
  clear hb B0 R0 hn hn'
  obtain ⟨Ra, Rb, Rc, Rd, Re, Rf⟩ := R1.out.facts
  go_wp2
  refine bodyPost_ret (v := .agg #[.bool Fr.zero.s, .slice AP nP cP, .slice AQ nQ cQ]) (by simp [results, Tryz.results27, go_sem, Ra, Rb, Rc]) rfl ?_
  exact giveFr (t := Fr.zero) B1.out (by omega) R1.out P1.out Q1.out
set_option maxRecDepth 100000 in
set_option maxHeartbeats 1000000 in
theorem mulf_right (s s' : Bool) (A B A' B' : Option Addr) (n c m d n' c' m' d' p q p' q' i : Nat) (xs ys xs' ys' : List Nat) (w : World) (hx : Num w A n c xs p) (hy : Num w B m d ys q) (hx' : Num w A' n' c' xs' p') (hy' : Num w B' m' d' ys' q') (pp : p < 4294967296 ^ i) (pq : q < 4294967296 ^ i) (pp' : p' < 4294967296 ^ i) (pq' : q' < 4294967296 ^ i) (hi : i ≤ 100000) (h0 : 0 < p) (h1 : p' = 0) : Calls Tryz.prog 27 #[.agg #[.bool s, .slice A n c, .slice B m d], .agg #[.bool s', .slice A' n' c', .slice B' m' d']] w (GivesFr Fr.zero w) := by
  have B0 := Lib.hid ((((Below.refl w.heap.size w).alloc (Nat.le_refl _) (.cells #[.bool s, .slice A n c, .slice B m d] 27)).alloc (by simp) (.cells #[.bool s', .slice A' n' c', .slice B' m' d'] 27)).alloc (by simp; omega) (.cells #[.bool false, .slice none 0 0, .slice none 0 0] 27))
  have X0 := Lib.hid (hx.keep B0.out)
  have Y0 := Lib.hid (hy.keep B0.out)
  have U0 := Lib.hid (hx'.keep B0.out)
  have V0 := Lib.hid (hy'.keep B0.out)
  have H0 := Lib.hid (((FB.new w s A n c B m d).alloc (.cells #[.bool s', .slice A' n' c', .slice B' m' d'] 27)).alloc (.cells #[.bool false, .slice none 0 0, .slice none 0 0] 27))
  have K0 := Lib.hid ((FB.new (w.alloc (.cells #[.bool s, .slice A n c, .slice B m d] 27)) s' A' n' c' B' m' d').alloc (.cells #[.bool false, .slice none 0 0, .slice none 0 0] 27))
  have R0 := Lib.hid (FB.new ((w.alloc (.cells #[.bool s, .slice A n c, .slice B m d] 27)).alloc (.cells #[.bool s', .slice A' n' c', .slice B' m' d'] 27)) false none 0 0 none 0 0)
  rw [show (w.alloc (.cells #[.bool s, .slice A n c, .slice B m d] 27)).heap.size = w.heap.size + 1 by simp] at K0
  rw [show ((w.alloc (.cells #[.bool s, .slice A n c, .slice B m d] 27)).alloc (.cells #[.bool s', .slice A' n' c', .slice B' m' d'] 27)).heap.size = w.heap.size + 1 + 1 by simp] at R0
  have PP := Lib.hid pp
  have PQ := Lib.hid pq
  have PP' := Lib.hid pp'
  have PQ' := Lib.hid pq'
  have zf : Hid (decide (p = 0) = false) := Lib.hid (decide_eq_false (by omega))
  have zt := Lib.hid (decide_eq_true h1)
  clear hx hy hx' hy' pp pq pp' pq' h0 h1
  go_enter Tryz.func27, Tryz.ntmps27
  go_wp2_with fail
  refine (isZero_s X0.out PP.out (by omega) zf.out).mono ?_
  rintro e w' ⟨rfl, rfl⟩
  go_wp2_with fail
  refine (isZero_s U0.out PP'.out (by omega) zt.out).mono ?_
  rintro e w' ⟨rfl, rfl⟩
  go_wp2_with fail
  clear X0 Y0 U0 V0 H0 K0
  refine (zeroFr_any _).mono ?_
  rintro e w1 ⟨AP, nP, cP, xP, AQ, nQ, cQ, xQ, rfl, hn, hn', hb⟩
  have P1 := Lib.hid (hn)
  have Q1 := Lib.hid (hn')
  have R1 := Lib.hid (R0.out.keep hb)
  have B1 := Lib.hid (B0.out.trans (hb.mono B0.out.size))
  clear hb B0 R0 hn hn'
  obtain ⟨Ra, Rb, Rc, Rd, Re, Rf⟩ := R1.out.facts
  go_wp2
  refine bodyPost_ret (v := .agg #[.bool Fr.zero.s, .slice AP nP cP, .slice AQ nQ cQ]) (by simp [results, Tryz.results27, go_sem, Ra, Rb, Rc]) rfl ?_
  exact giveFr (t := Fr.zero) B1.out (by omega) R1.out P1.out Q1.out
set_option maxRecDepth 100000 in
set_option maxHeartbeats 4000000 in
theorem mulf_main (s s' : Bool) (A B A' B' : Option Addr) (n c m d n' c' m' d' p q p' q' i : Nat) (xs ys xs' ys' : List Nat) (w : World) (hx : Num w A n c xs p) (hy : Num w B m d ys q) (hx' : Num w A' n' c' xs' p') (hy' : Num w B' m' d' ys' q') (pp : p < 4294967296 ^ i) (pq : q < 4294967296 ^ i) (pp' : p' < 4294967296 ^ i) (pq' : q' < 4294967296 ^ i) (hi : i ≤ 100000) (h0 : 0 < p) (h1 : 0 < p') (hq : 0 < q) (hq' : 0 < q') (L G : Nat) (hL : Nat.gcd p q' = L) (hG : Nat.gcd p' q = G) (z : Bool) (hz : (s != s') = z) :
    Calls Tryz.prog 27 #[.agg #[.bool s, .slice A n c, .slice B m d], .agg #[.bool s', .slice A' n' c', .slice B' m' d']] w (GivesFr ⟨z, p / L * (p' / G), q / G * (q' / L)⟩ w) := by
  have B0 := Lib.hid ((((Below.refl w.heap.size w).alloc (Nat.le_refl _) (.cells #[.bool s, .slice A n c, .slice B m d] 27)).alloc (by simp) (.cells #[.bool s', .slice A' n' c', .slice B' m' d'] 27)).alloc (by simp; omega) (.cells #[.bool false, .slice none 0 0, .slice none 0 0] 27))
  have X0 := Lib.hid (hx.keep B0.out)
  have Y0 := Lib.hid (hy.keep B0.out)
  have U0 := Lib.hid (hx'.keep B0.out)
  have V0 := Lib.hid (hy'.keep B0.out)
  have H0 := Lib.hid (((FB.new w s A n c B m d).alloc (.cells #[.bool s', .slice A' n' c', .slice B' m' d'] 27)).alloc (.cells #[.bool false, .slice none 0 0, .slice none 0 0] 27))
  have K0 := Lib.hid ((FB.new (w.alloc (.cells #[.bool s, .slice A n c, .slice B m d] 27)) s' A' n' c' B' m' d').alloc (.cells #[.bool false, .slice none 0 0, .slice none 0 0] 27))
  have R0 := Lib.hid (FB.new ((w.alloc (.cells #[.bool s, .slice A n c, .slice B m d] 27)).alloc (.cells #[.bool s', .slice A' n' c', .slice B' m' d'] 27)) false none 0 0 none 0 0)
  rw [show (w.alloc (.cells #[.bool s, .slice A n c, .slice B m d] 27)).heap.size = w.heap.size + 1 by simp] at K0
  rw [show ((w.alloc (.cells #[.bool s, .slice A n c, .slice B m d] 27)).alloc (.cells #[.bool s', .slice A' n' c', .slice B' m' d'] 27)).heap.size = w.heap.size + 1 + 1 by simp] at R0
  have PP := Lib.hid pp
  have PQ := Lib.hid pq
  have PP' := Lib.hid pp'
  have PQ' := Lib.hid pq'
  have zf : Hid (decide (p = 0) = false) := Lib.hid (decide_eq_false (by omega))
  have zg : Hid (decide (p' = 0) = false) := Lib.hid (decide_eq_false (by omega))
  have L0 : Hid (0 < L) := Lib.hid (by rw [← hL]; exact Nat.gcd_pos_of_pos_left _ h0)
  have G0 : Hid (0 < G) := Lib.hid (by rw [← hG]; exact Nat.gcd_pos_of_pos_left _ h1)
  have pL : Hid (L < 4294967296 ^ i) := Lib.hid (by rw [← hL]; exact gcd_pwr pq' hq')
  have pG : Hid (G < 4294967296 ^ i) := Lib.hid (by rw [← hG]; exact gcd_pwr pq hq)
  have p1 : Hid (p / L < 4294967296 ^ i) := Lib.hid (pw_le (Nat.div_le_self _ _) pp)
  have p2 : Hid (p' / G < 4294967296 ^ i) := Lib.hid (pw_le (Nat.div_le_self _ _) pp')
  have p3 : Hid (q / G < 4294967296 ^ i) := Lib.hid (pw_le (Nat.div_le_self _ _) pq)
  have p4 : Hid (q' / L < 4294967296 ^ i) := Lib.hid (pw_le (Nat.div_le_self _ _) pq')
  have eL := Lib.hid hL
  have eG := Lib.hid hG
  have eZ := Lib.hid hz
  clear hx hy hx' hy' pp pq pp' pq' h0 h1 hq hq' hL hG hz
  go_enter Tryz.func27, Tryz.ntmps27
  go_wp2_with fail
  refine (isZero_s X0.out PP.out (by omega) zf.out).mono ?_
  rintro e w' ⟨rfl, rfl⟩
  go_wp2_with fail
  refine (isZero_s U0.out PP'.out (by omega) zg.out).mono ?_
  rintro e w' ⟨rfl, rfl⟩
  go_wp2_with fail
  refine (gcd_s X0.out V0.out PP.out PQ'.out (by omega) (by omega)).mono ?_
  rintro e w1 ⟨AL, nL, cL, xL, rfl, hn, hb⟩
  have L1 := Lib.hid (hn.to eL.out)
  have X1 := Lib.hid (X0.out.keep hb)
  have Y1 := Lib.hid (Y0.out.keep hb)
  have U1 := Lib.hid (U0.out.keep hb)
  have V1 := Lib.hid (V0.out.keep hb)
  have H1 := Lib.hid (H0.out.keep hb)
  have K1 := Lib.hid (K0.out.keep hb)
  have R1 := Lib.hid (R0.out.keep hb)
  have B1 := Lib.hid (B0.out.trans (hb.mono B0.out.size))
  clear hb B0 X0 Y0 U0 V0 H0 K0 R0 hn
  obtain ⟨Ha, Hb, Hc, Hd, He, Hf⟩ := H1.out.facts
  obtain ⟨Ka, Kb, Kc, Kd, Ke, Kf⟩ := K1.out.facts
  go_wp2_with fail
  refine (gcd_s U1.out Y1.out PP'.out PQ.out (by omega) (by omega)).mono ?_
  rintro e w2 ⟨AG, nG, cG, xG, rfl, hn, hb⟩
  clear Ha Hb Hc Hd He Hf Ka Kb Kc Kd Ke Kf
  have G2 := Lib.hid (hn.to eG.out)
  have X2 := Lib.hid (X1.out.keep hb)
  have Y2 := Lib.hid (Y1.out.keep hb)
  have U2 := Lib.hid (U1.out.keep hb)
  have V2 := Lib.hid (V1.out.keep hb)
  have H2 := Lib.hid (H1.out.keep hb)
  have K2 := Lib.hid (K1.out.keep hb)
  have R2 := Lib.hid (R1.out.keep hb)
  have L2 := Lib.hid (L1.out.keep hb)
  have B2 := Lib.hid (B1.out.trans (hb.mono B1.out.size))
  clear hb B1 X1 Y1 U1 V1 H1 K1 R1 L1 hn
  obtain ⟨Ha, Hb, Hc, Hd, He, Hf⟩ := H2.out.facts
  obtain ⟨Ka, Kb, Kc, Kd, Ke, Kf⟩ := K2.out.facts
  go_wp2_with fail
  have zX := X2.out.drew_
  have zY := Y2.out.drew_
  have zU := U2.out.drew_
  have zV := V2.out.drew_
  have zL := L2.out.drew_
  have zG := G2.out.drew_
  have zH := H2.out.drew
  have zK := K2.out.drew
  have zR := R2.out.drew
  have zB := B2.out.drew
  clear X2 Y2 U2 V2 L2 G2 K2 R2 B2 H2 Ha Hb Hc Hd He Hf Ka Kb Kc Kd Ke Kf
  obtain ⟨Ha, Hb, Hc, Hd, He, Hf⟩ := zH.facts
  obtain ⟨Ka, Kb, Kc, Kd, Ke, Kf⟩ := zK.facts
  obtain ⟨Ra, Rb, Rc, Rd, Re, Rf⟩ := zR.facts
  have hz1 : (!(s == s')) = z := eZ.out
  go_region_held3 (fun w' => w'.cell? ⟨w.heap.size, 0, none⟩ = some (.bool s) ∧ w'.cell? ⟨w.heap.size, 1, none⟩ = some (.slice A n c) ∧ w'.cell? ⟨w.heap.size, 2, none⟩ = some (.slice B m d) ∧ w'.cell? ⟨w.heap.size + 1, 0, none⟩ = some (.bool s') ∧ w'.cell? ⟨w.heap.size + 1, 1, none⟩ = some (.slice A' n' c') ∧ w'.cell? ⟨w.heap.size + 1, 2, none⟩ = some (.slice B' m' d')) (first | (with_reducible exact ⟨st3_keep (by omega) Ha, st3_keep (by omega) Hb, st3_keep (by omega) Hc, st3_keep (by omega) Ka, st3_keep (by omega) Kb, st3_keep (by omega) Kc⟩) | go_keep) (first | (go_at_call 42; (with_reducible refine (quotient_s zX zL L0.out PP.out pL.out (by omega) (by omega)).mono ?_); rintro e wq ⟨Az1, nz1, cz1, xz1, rfl, hn, hb⟩; replace zX := zX.keep hb; replace zY := zY.keep hb; replace zU := zU.keep hb; replace zV := zV.keep hb; replace zL := zL.keep hb; replace zG := zG.keep hb; replace zH := zH.keep hb; replace zK := zK.keep hb; replace zR := zR.keep hb; replace zB := zB.trans (hb.mono zB.size); (try replace z1 := z1.keep hb); (try replace z2 := z2.keep hb); (try replace z3 := z3.keep hb); (try replace z4 := z4.keep hb); (try replace zN := zN.keep hb); (try replace zD := zD.keep hb); have z1 := hn; clear hb hn Ha Hb Hc Hd He Hf Ka Kb Kc Kd Ke Kf Ra Rb Rc Rd Re Rf; obtain ⟨Ha, Hb, Hc, Hd, He, Hf⟩ := zH.facts; obtain ⟨Ka, Kb, Kc, Kd, Ke, Kf⟩ := zK.facts; obtain ⟨Ra, Rb, Rc, Rd, Re, Rf⟩ := zR.facts) | (go_at_call 42; (with_reducible refine (quotient_s zU zG G0.out PP'.out pG.out (by omega) (by omega)).mono ?_); rintro e wq ⟨Az2, nz2, cz2, xz2, rfl, hn, hb⟩; replace zX := zX.keep hb; replace zY := zY.keep hb; replace zU := zU.keep hb; replace zV := zV.keep hb; replace zL := zL.keep hb; replace zG := zG.keep hb; replace zH := zH.keep hb; replace zK := zK.keep hb; replace zR := zR.keep hb; replace zB := zB.trans (hb.mono zB.size); (try replace z1 := z1.keep hb); (try replace z2 := z2.keep hb); (try replace z3 := z3.keep hb); (try replace z4 := z4.keep hb); (try replace zN := zN.keep hb); (try replace zD := zD.keep hb); have z2 := hn; clear hb hn Ha Hb Hc Hd He Hf Ka Kb Kc Kd Ke Kf Ra Rb Rc Rd Re Rf; obtain ⟨Ha, Hb, Hc, Hd, He, Hf⟩ := zH.facts; obtain ⟨Ka, Kb, Kc, Kd, Ke, Kf⟩ := zK.facts; obtain ⟨Ra, Rb, Rc, Rd, Re, Rf⟩ := zR.facts) | (go_at_call 42; (with_reducible refine (quotient_s zY zG G0.out PQ.out pG.out (by omega) (by omega)).mono ?_); rintro e wq ⟨Az3, nz3, cz3, xz3, rfl, hn, hb⟩; replace zX := zX.keep hb; replace zY := zY.keep hb; replace zU := zU.keep hb; replace zV := zV.keep hb; replace zL := zL.keep hb; replace zG := zG.keep hb; replace zH := zH.keep hb; replace zK := zK.keep hb; replace zR := zR.keep hb; replace zB := zB.trans (hb.mono zB.size); (try replace z1 := z1.keep hb); (try replace z2 := z2.keep hb); (try replace z3 := z3.keep hb); (try replace z4 := z4.keep hb); (try replace zN := zN.keep hb); (try replace zD := zD.keep hb); have z3 := hn; clear hb hn Ha Hb Hc Hd He Hf Ka Kb Kc Kd Ke Kf Ra Rb Rc Rd Re Rf; obtain ⟨Ha, Hb, Hc, Hd, He, Hf⟩ := zH.facts; obtain ⟨Ka, Kb, Kc, Kd, Ke, Kf⟩ := zK.facts; obtain ⟨Ra, Rb, Rc, Rd, Re, Rf⟩ := zR.facts) | (go_at_call 42; (with_reducible refine (quotient_s zV zL L0.out PQ'.out pL.out (by omega) (by omega)).mono ?_); rintro e wq ⟨Az4, nz4, cz4, xz4, rfl, hn, hb⟩; replace zX := zX.keep hb; replace zY := zY.keep hb; replace zU := zU.keep hb; replace zV := zV.keep hb; replace zL := zL.keep hb; replace zG := zG.keep hb; replace zH := zH.keep hb; replace zK := zK.keep hb; replace zR := zR.keep hb; replace zB := zB.trans (hb.mono zB.size); (try replace z1 := z1.keep hb); (try replace z2 := z2.keep hb); (try replace z3 := z3.keep hb); (try replace z4 := z4.keep hb); (try replace zN := zN.keep hb); (try replace zD := zD.keep hb); have z4 := hn; clear hb hn Ha Hb Hc Hd He Hf Ka Kb Kc Kd Ke Kf Ra Rb Rc Rd Re Rf; obtain ⟨Ha, Hb, Hc, Hd, He, Hf⟩ := zH.facts; obtain ⟨Ka, Kb, Kc, Kd, Ke, Kf⟩ := zK.facts; obtain ⟨Ra, Rb, Rc, Rd, Re, Rf⟩ := zR.facts) | (go_at_call 43; (with_reducible refine (mul_s z1 z2 p1.out p2.out (by omega) (by omega)).mono ?_); rintro e wq ⟨AzN, nzN, czN, xzN, rfl, hn, hb⟩; replace zX := zX.keep hb; replace zY := zY.keep hb; replace zU := zU.keep hb; replace zV := zV.keep hb; replace zL := zL.keep hb; replace zG := zG.keep hb; replace zH := zH.keep hb; replace zK := zK.keep hb; replace zR := zR.keep hb; replace zB := zB.trans (hb.mono zB.size); (try replace z1 := z1.keep hb); (try replace z2 := z2.keep hb); (try replace z3 := z3.keep hb); (try replace z4 := z4.keep hb); (try replace zN := zN.keep hb); (try replace zD := zD.keep hb); have zN := hn; clear hb hn Ha Hb Hc Hd He Hf Ka Kb Kc Kd Ke Kf Ra Rb Rc Rd Re Rf; obtain ⟨Ha, Hb, Hc, Hd, He, Hf⟩ := zH.facts; obtain ⟨Ka, Kb, Kc, Kd, Ke, Kf⟩ := zK.facts; obtain ⟨Ra, Rb, Rc, Rd, Re, Rf⟩ := zR.facts) | (go_at_call 43; (with_reducible refine (mul_s z3 z4 p3.out p4.out (by omega) (by omega)).mono ?_); rintro e wq ⟨AzD, nzD, czD, xzD, rfl, hn, hb⟩; replace zX := zX.keep hb; replace zY := zY.keep hb; replace zU := zU.keep hb; replace zV := zV.keep hb; replace zL := zL.keep hb; replace zG := zG.keep hb; replace zH := zH.keep hb; replace zK := zK.keep hb; replace zR := zR.keep hb; replace zB := zB.trans (hb.mono zB.size); (try replace z1 := z1.keep hb); (try replace z2 := z2.keep hb); (try replace z3 := z3.keep hb); (try replace z4 := z4.keep hb); (try replace zN := zN.keep hb); (try replace zD := zD.keep hb); have zD := hn; clear hb hn Ha Hb Hc Hd He Hf Ka Kb Kc Kd Ke Kf Ra Rb Rc Rd Re Rf; obtain ⟨Ha, Hb, Hc, Hd, He, Hf⟩ := zH.facts; obtain ⟨Ka, Kb, Kc, Kd, Ke, Kf⟩ := zK.facts; obtain ⟨Ra, Rb, Rc, Rd, Re, Rf⟩ := zR.facts))
  all_goals go_wp2
  all_goals refine bodyPost_ret (v := .agg #[.bool z, .slice AzN nzN czN, .slice AzD nzD czD]) (by simp [results, Tryz.results27, go_sem, Ra, Rb, Rc]) rfl ?_
  all_goals exact giveFr (t := ⟨z, p / L * (p' / G), q / G * (q' / L)⟩) zB (by omega) zR zN zD
theorem mulFr_any (s s' : Bool) (A B A' B' : Option Addr) (n c m d n' c' m' d' p q p' q' i : Nat) (xs ys xs' ys' : List Nat) (w : World) (hx : Num w A n c xs p) (hy : Num w B m d ys q) (hx' : Num w A' n' c' xs' p') (hy' : Num w B' m' d' ys' q') (pp : p < 4294967296 ^ i) (pq : q < 4294967296 ^ i) (pp' : p' < 4294967296 ^ i) (pq' : q' < 4294967296 ^ i) (hi : i ≤ 100000) (ok : Fr.Ok ⟨s, p, q⟩) (ok' : Fr.Ok ⟨s', p', q'⟩) :
    Calls Tryz.prog 27 #[.agg #[.bool s, .slice A n c, .slice B m d], .agg #[.bool s', .slice A' n' c', .slice B' m' d']] w (GivesFr (Fr.mul ⟨s, p, q⟩ ⟨s', p', q'⟩) w) := by
  rcases Nat.eq_zero_or_pos p with h0 | h0
  · refine (mulf_left s s' A B A' B' n c m d n' c' m' d' p q p' q' i xs ys xs' ys' w hx hy hx' hy' pp pq pp' pq' hi h0).mono fun _ _ g => g.eq ?_
    subst h0
    rw [ok.zero, Fr.zero_mul ok']
  · rcases Nat.eq_zero_or_pos p' with h1 | h1
    · refine (mulf_right s s' A B A' B' n c m d n' c' m' d' p q p' q' i xs ys xs' ys' w hx hy hx' hy' pp pq pp' pq' hi h0 h1).mono fun _ _ g => g.eq ?_
      subst h1
      rw [ok'.zero, Fr.mul_comm, Fr.zero_mul ok]
    · exact (mulf_main s s' A B A' B' n c m d n' c' m' d' p q p' q' i xs ys xs' ys' w hx hy hx' hy' pp pq pp' pq' hi h0 h1 ok.1 ok'.1 _ _ rfl rfl _ rfl).mono fun _ _ g => g.eq (Fr.mul_prog ok ok' h0 h1)
end Go.Proofs.YtebfnbnaheolgaaGreatDoor
