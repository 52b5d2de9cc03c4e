/- Contracts of the reference's Add and Sub over fractions: no claim of its own. -/
import Derived.Test.YtbllnkhbahenkaaGreatDoorRMulF
import Derived.Test.YtbllnkhbahenkaaGreatDoorRRound
namespace Go.Proofs.YtbllnkhbahenkaaGreatDoor
open Go.RowKit
theorem pw_more {x i j : Nat} (h : x < 4294967296 ^ i) (hij : i ≤ j) : x < 4294967296 ^ j := Nat.lt_of_lt_of_le h (Nat.pow_le_pow_right (by decide) hij)
set_option maxRecDepth 100000 in
set_option maxHeartbeats 4000000 in
theorem raddf_eq (s : Bool) (A B A' B' : Option Addr) (n c m d n' c' m' d' p q p' q' i : Nat) (xs ys xs' ys' : List Nat) (w : World) (hx : Num w A n c xs p) (hy : Num w B m d ys q) (hx' : Num w A' n' c' xs' p') (hy' : Num w B' m' d' ys' q') (pp : p < 4294967296 ^ i) (pq : q < 4294967296 ^ i) (pp' : p' < 4294967296 ^ i) (pq' : q' < 4294967296 ^ i) (hi : i ≤ 40000) (hq : 0 < q) (hq' : 0 < q') (T : Fr) (hT : Fr.mk' s (p * q' + p' * q) (q * q') = T) :
    Calls Tryz.prog 72 #[.agg #[.bool s, .slice A n c, .slice B m d], .agg #[.bool s, .slice A' n' c', .slice B' m' d']] w (GivesFr T w) := by
  have zB := (((Below.refl w.heap.size w).alloc (Nat.le_refl _) (.cells #[.bool s, .slice A n c, .slice B m d] 25)).alloc (by simp) (.cells #[.bool s, .slice A' n' c', .slice B' m' d'] 25)).alloc (by simp; omega) (.cells #[.bool false, .slice none 0 0, .slice none 0 0] 25)
  have zX := hx.keep zB
  have zY := hy.keep zB
  have zU := hx'.keep zB
  have zV := hy'.keep zB
  have zH := ((FB.new w s A n c B m d).alloc (.cells #[.bool s, .slice A' n' c', .slice B' m' d'] 25)).alloc (.cells #[.bool false, .slice none 0 0, .slice none 0 0] 25)
  have zK := (FB.new (w.alloc (.cells #[.bool s, .slice A n c, .slice B m d] 25)) s A' n' c' B' m' d').alloc (.cells #[.bool false, .slice none 0 0, .slice none 0 0] 25)
  have zR := FB.new ((w.alloc (.cells #[.bool s, .slice A n c, .slice B m d] 25)).alloc (.cells #[.bool s, .slice A' n' c', .slice B' m' d'] 25)) false none 0 0 none 0 0
  rw [show (w.alloc (.cells #[.bool s, .slice A n c, .slice B m d] 25)).heap.size = w.heap.size + 1 by simp] at zK
  rw [show ((w.alloc (.cells #[.bool s, .slice A n c, .slice B m d] 25)).alloc (.cells #[.bool s, .slice A' n' c', .slice B' m' d'] 25)).heap.size = w.heap.size + 1 + 1 by simp] at zR
  have PP := Lib.hid pp
  have PQ := Lib.hid pq
  have PP' := Lib.hid pp'
  have PQ' := Lib.hid pq'
  have E0 : Hid (0 < q * q') := Lib.hid (Nat.mul_pos hq hq')
  have pN : Hid (p * q' < 4294967296 ^ (i + i)) := Lib.hid (pw_mul pp pq')
  have pD : Hid (p' * q < 4294967296 ^ (i + i)) := Lib.hid (pw_mul pp' pq)
  have pE : Hid (q * q' < 4294967296 ^ (i + i + 1)) := Lib.hid (pw_more (pw_mul pq pq') (by omega))
  have pA : Hid (p * q' + p' * q < 4294967296 ^ (i + i + 1)) := Lib.hid (pw_add pN.out pD.out (by omega) (by omega))
  have HT := Lib.hid hT
  clear hx hy hx' hy' pp pq pp' pq' hq hq' hT
  have e1 : (s == s) = true := by cases s <;> rfl
  go_enter Tryz.func72, Tryz.ntmps72
  go_wp2
  obtain ⟨W0, hv⟩ : ∃ v, ((w.alloc (.cells #[.bool s, .slice A n c, .slice B m d] 25)).alloc (.cells #[.bool s, .slice A' n' c', .slice B' m' d'] 25)).alloc (.cells #[.bool false, .slice none 0 0, .slice none 0 0] 25) = v := ⟨_, rfl⟩
  rw [hv]
  rw [hv] at zB zX zY zU zV zH zK zR
  clear hv
  replace zB := zB.drew
  replace zX := zX.drew_
  replace zY := zY.drew_
  replace zU := zU.drew_
  replace zV := zV.drew_
  replace zH := zH.drew
  replace zK := zK.drew
  replace zR := zR.drew
  obtain ⟨Ha, Hb, Hc, Hd, He, Hf⟩ := zH.facts
  obtain ⟨Ka, Kb, Kc, Kd, Ke, Kf⟩ := zK.facts
  obtain ⟨Ra, Rb, Rc, Rd, Re, Rf⟩ := zR.facts
  go_region_held3 (fun w' => w'.cell? ⟨w.heap.size, 0, none⟩ = some (.bool s) ∧ w'.cell? ⟨w.heap.size, 1, none⟩ = some (.slice A n c) ∧ w'.cell? ⟨w.heap.size, 2, none⟩ = some (.slice B m d) ∧ w'.cell? ⟨w.heap.size + 1, 0, none⟩ = some (.bool s) ∧ w'.cell? ⟨w.heap.size + 1, 1, none⟩ = some (.slice A' n' c') ∧ w'.cell? ⟨w.heap.size + 1, 2, none⟩ = some (.slice B' m' d')) (first | (with_reducible exact ⟨al_keep Ha, al_keep Hb, al_keep Hc, al_keep Ka, al_keep Kb, al_keep Kc⟩) | (with_reducible exact ⟨ad_keep Ha, ad_keep Hb, ad_keep Hc, ad_keep Ka, ad_keep Kb, ad_keep Kc⟩) | (with_reducible exact ⟨st3_keep (by omega) Ha, st3_keep (by omega) Hb, st3_keep (by omega) Hc, st3_keep (by omega) Ka, st3_keep (by omega) Kb, st3_keep (by omega) Kc⟩) | go_keep) (first | (go_at_call 109; (with_reducible refine (rmul_s zX zV PP.out PQ'.out (by omega) (by omega)).mono ?_); rintro e wq ⟨AN, nN, cN, xN, rfl, hn, hb⟩; replace zX := zX.keep hb; replace zY := zY.keep hb; replace zU := zU.keep hb; replace zV := zV.keep hb; replace zH := zH.keep hb; replace zK := zK.keep hb; replace zR := zR.keep hb; replace zB := zB.trans (hb.mono zB.size); (try replace zN := zN.keep hb); (try replace zD := zD.keep hb); (try replace zE := zE.keep hb); (try replace zA := zA.keep hb); (try replace zP := zP.keep hb); (try replace zQ := zQ.keep hb); (try replace zF := zF.keep hb); have zN := hn; clear hb Ha Hb Hc Hd He Hf Ka Kb Kc Kd Ke Kf Ra Rb Rc Rd Re Rf hn; (try clear Fa Fb Fc Fd Fe Ff); obtain ⟨Ha, Hb, Hc, Hd, He, Hf⟩ := zH.facts; obtain ⟨Ka, Kb, Kc, Kd, Ke, Kf⟩ := zK.facts; obtain ⟨Ra, Rb, Rc, Rd, Re, Rf⟩ := zR.facts; (try obtain ⟨Fa, Fb, Fc, Fd, Fe, Ff⟩ := zF.facts)) | (go_at_call 109; (with_reducible refine (rmul_s zU zY PP'.out PQ.out (by omega) (by omega)).mono ?_); rintro e wq ⟨AD, nD, cD, xD, rfl, hn, hb⟩; replace zX := zX.keep hb; replace zY := zY.keep hb; replace zU := zU.keep hb; replace zV := zV.keep hb; replace zH := zH.keep hb; replace zK := zK.keep hb; replace zR := zR.keep hb; replace zB := zB.trans (hb.mono zB.size); (try replace zN := zN.keep hb); (try replace zD := zD.keep hb); (try replace zE := zE.keep hb); (try replace zA := zA.keep hb); (try replace zP := zP.keep hb); (try replace zQ := zQ.keep hb); (try replace zF := zF.keep hb); have zD := hn; clear hb Ha Hb Hc Hd He Hf Ka Kb Kc Kd Ke Kf Ra Rb Rc Rd Re Rf hn; (try clear Fa Fb Fc Fd Fe Ff); obtain ⟨Ha, Hb, Hc, Hd, He, Hf⟩ := zH.facts; obtain ⟨Ka, Kb, Kc, Kd, Ke, Kf⟩ := zK.facts; obtain ⟨Ra, Rb, Rc, Rd, Re, Rf⟩ := zR.facts; (try obtain ⟨Fa, Fb, Fc, Fd, Fe, Ff⟩ := zF.facts)))
  go_wp2_with fail
  refine (rmul_s zY zV PQ.out PQ'.out (by omega) (by omega)).mono ?_
  rintro e wq ⟨AE, nE, cE, xE, rfl, hn, hb⟩
  replace zX := zX.keep hb
  replace zY := zY.keep hb
  replace zU := zU.keep hb
  replace zV := zV.keep hb
  replace zH := zH.keep hb
  replace zK := zK.keep hb
  replace zR := zR.keep hb
  replace zB := zB.trans (hb.mono zB.size)
  (try replace zN := zN.keep hb)
  (try replace zD := zD.keep hb)
  (try replace zE := zE.keep hb)
  (try replace zA := zA.keep hb)
  (try replace zP := zP.keep hb)
  (try replace zQ := zQ.keep hb)
  (try replace zF := zF.keep hb)
  have zE := hn
  clear hb Ha Hb Hc Hd He Hf Ka Kb Kc Kd Ke Kf Ra Rb Rc Rd Re Rf hn
  (try clear Fa Fb Fc Fd Fe Ff)
  obtain ⟨Ha, Hb, Hc, Hd, He, Hf⟩ := zH.facts
  obtain ⟨Ka, Kb, Kc, Kd, Ke, Kf⟩ := zK.facts
  obtain ⟨Ra, Rb, Rc, Rd, Re, Rf⟩ := zR.facts
  (try obtain ⟨Fa, Fb, Fc, Fd, Fe, Ff⟩ := zF.facts)
  go_wp2_with fail
  obtain ⟨W0, hv⟩ : ∃ v, wq = v := ⟨_, rfl⟩
  rw [hv]
  rw [hv] at zB zX zY zU zV zH zK zR zN zD zE
  clear hv Ha Hb Hc Hd He Hf Ka Kb Kc Kd Ke Kf Ra Rb Rc Rd Re Rf
  replace zX := zX.drew_
  replace zY := zY.drew_
  replace zU := zU.drew_
  replace zV := zV.drew_
  replace zN := zN.drew_
  replace zD := zD.drew_
  replace zE := zE.drew_
  replace zH := zH.drew
  replace zK := zK.drew
  replace zR := zR.drew
  replace zB := zB.drew
  obtain ⟨Ha, Hb, Hc, Hd, He, Hf⟩ := zH.facts
  obtain ⟨Ka, Kb, Kc, Kd, Ke, Kf⟩ := zK.facts
  obtain ⟨Ra, Rb, Rc, Rd, Re, Rf⟩ := zR.facts
  go_region_held3 (fun w' => w'.cell? ⟨w.heap.size, 0, none⟩ = some (.bool s) ∧ w'.cell? ⟨w.heap.size, 1, none⟩ = some (.slice A n c) ∧ w'.cell? ⟨w.heap.size, 2, none⟩ = some (.slice B m d) ∧ w'.cell? ⟨w.heap.size + 1, 0, none⟩ = some (.bool s) ∧ w'.cell? ⟨w.heap.size + 1, 1, none⟩ = some (.slice A' n' c') ∧ w'.cell? ⟨w.heap.size + 1, 2, none⟩ = some (.slice B' m' d')) (first | (with_reducible exact ⟨al_keep Ha, al_keep Hb, al_keep Hc, al_keep Ka, al_keep Kb, al_keep Kc⟩) | (with_reducible exact ⟨ad_keep Ha, ad_keep Hb, ad_keep Hc, ad_keep Ka, ad_keep Kb, ad_keep Kc⟩) | (with_reducible exact ⟨st3_keep (by omega) Ha, st3_keep (by omega) Hb, st3_keep (by omega) Hc, st3_keep (by omega) Ka, st3_keep (by omega) Kb, st3_keep (by omega) Kc⟩) | go_keep) (first | (go_at_call 60; (with_reducible refine (radd_s zN zD pN.out pD.out (by omega) (by omega)).mono ?_); rintro e wq ⟨AA, nA, cA, xA, rfl, hn, hb⟩; replace zX := zX.keep hb; replace zY := zY.keep hb; replace zU := zU.keep hb; replace zV := zV.keep hb; replace zH := zH.keep hb; replace zK := zK.keep hb; replace zR := zR.keep hb; replace zB := zB.trans (hb.mono zB.size); (try replace zN := zN.keep hb); (try replace zD := zD.keep hb); (try replace zE := zE.keep hb); (try replace zA := zA.keep hb); (try replace zP := zP.keep hb); (try replace zQ := zQ.keep hb); (try replace zF := zF.keep hb); have zA := hn; clear hb Ha Hb Hc Hd He Hf Ka Kb Kc Kd Ke Kf Ra Rb Rc Rd Re Rf hn; (try clear Fa Fb Fc Fd Fe Ff); obtain ⟨Ha, Hb, Hc, Hd, He, Hf⟩ := zH.facts; obtain ⟨Ka, Kb, Kc, Kd, Ke, Kf⟩ := zK.facts; obtain ⟨Ra, Rb, Rc, Rd, Re, Rf⟩ := zR.facts; (try obtain ⟨Fa, Fb, Fc, Fd, Fe, Ff⟩ := zF.facts)) | (go_at_call 60; (with_reducible refine (radd_s (zN.al _) (zD.al _) pN.out pD.out (by omega) (by omega)).mono ?_); rintro e wq ⟨AA, nA, cA, xA, rfl, hn, hb⟩; have zF := FB.al hb; have zL := zR.lt; replace hb := below_al hb; replace zX := zX.keep hb; replace zY := zY.keep hb; replace zU := zU.keep hb; replace zV := zV.keep hb; replace zH := zH.keep hb; replace zK := zK.keep hb; replace zR := zR.keep hb; replace zB := zB.trans (hb.mono zB.size); (try replace zN := zN.keep hb); (try replace zD := zD.keep hb); (try replace zE := zE.keep hb); (try replace zA := zA.keep hb); (try replace zP := zP.keep hb); (try replace zQ := zQ.keep hb); have zA := hn; clear hb Ha Hb Hc Hd He Hf Ka Kb Kc Kd Ke Kf Ra Rb Rc Rd Re Rf hn; (try clear Fa Fb Fc Fd Fe Ff); obtain ⟨Ha, Hb, Hc, Hd, He, Hf⟩ := zH.facts; obtain ⟨Ka, Kb, Kc, Kd, Ke, Kf⟩ := zK.facts; obtain ⟨Ra, Rb, Rc, Rd, Re, Rf⟩ := zR.facts; (try obtain ⟨Fa, Fb, Fc, Fd, Fe, Ff⟩ := zF.facts)) | (go_at_call 60; (with_reducible refine (radd_s (zN.ad _) (zD.ad _) pN.out pD.out (by omega) (by omega)).mono ?_); rintro e wq ⟨AA, nA, cA, xA, rfl, hn, hb⟩; have zF := FB.ad hb; have zL : w.heap.size + 1 + 1 < W0.heap.size := zR.lt; replace hb := below_ad hb; replace zX := zX.keep hb; replace zY := zY.keep hb; replace zU := zU.keep hb; replace zV := zV.keep hb; replace zH := zH.keep hb; replace zK := zK.keep hb; replace zR := zR.keep hb; replace zB := zB.trans (hb.mono zB.size); (try replace zN := zN.keep hb); (try replace zD := zD.keep hb); (try replace zE := zE.keep hb); (try replace zA := zA.keep hb); (try replace zP := zP.keep hb); (try replace zQ := zQ.keep hb); have zA := hn; clear hb Ha Hb Hc Hd He Hf Ka Kb Kc Kd Ke Kf Ra Rb Rc Rd Re Rf hn; (try clear Fa Fb Fc Fd Fe Ff); obtain ⟨Ha, Hb, Hc, Hd, He, Hf⟩ := zH.facts; obtain ⟨Ka, Kb, Kc, Kd, Ke, Kf⟩ := zK.facts; obtain ⟨Ra, Rb, Rc, Rd, Re, Rf⟩ := zR.facts; (try obtain ⟨Fa, Fb, Fc, Fd, Fe, Ff⟩ := zF.facts)) | (go_at_call 27; (with_reducible refine (rmake_s zA zE E0.out pA.out pE.out (by omega) HT.out).mono ?_); rintro e wq ⟨AP, nP, cP, xP, AQ, nQ, cQ, xQ, rfl, hn, hn', hb⟩; replace zX := zX.keep hb; replace zY := zY.keep hb; replace zU := zU.keep hb; replace zV := zV.keep hb; replace zH := zH.keep hb; replace zK := zK.keep hb; replace zR := zR.keep hb; replace zB := zB.trans (hb.mono zB.size); (try replace zN := zN.keep hb); (try replace zD := zD.keep hb); (try replace zE := zE.keep hb); (try replace zA := zA.keep hb); (try replace zP := zP.keep hb); (try replace zQ := zQ.keep hb); (try replace zF := zF.keep hb); have zP := hn; have zQ := hn'; clear hb Ha Hb Hc Hd He Hf Ka Kb Kc Kd Ke Kf Ra Rb Rc Rd Re Rf hn hn'; (try clear Fa Fb Fc Fd Fe Ff); obtain ⟨Ha, Hb, Hc, Hd, He, Hf⟩ := zH.facts; obtain ⟨Ka, Kb, Kc, Kd, Ke, Kf⟩ := zK.facts; obtain ⟨Ra, Rb, Rc, Rd, Re, Rf⟩ := zR.facts; (try obtain ⟨Fa, Fb, Fc, Fd, Fe, Ff⟩ := zF.facts)) | (go_at_call 27; (with_reducible refine (rmake_s (zA.al _) (zE.al _) E0.out pA.out pE.out (by omega) HT.out).mono ?_); rintro e wq ⟨AP, nP, cP, xP, AQ, nQ, cQ, xQ, rfl, hn, hn', hb⟩; have zF := FB.al hb; have zL := zR.lt; replace hb := below_al hb; replace zX := zX.keep hb; replace zY := zY.keep hb; replace zU := zU.keep hb; replace zV := zV.keep hb; replace zH := zH.keep hb; replace zK := zK.keep hb; replace zR := zR.keep hb; replace zB := zB.trans (hb.mono zB.size); (try replace zN := zN.keep hb); (try replace zD := zD.keep hb); (try replace zE := zE.keep hb); (try replace zA := zA.keep hb); (try replace zP := zP.keep hb); (try replace zQ := zQ.keep hb); have zP := hn; have zQ := hn'; clear hb Ha Hb Hc Hd He Hf Ka Kb Kc Kd Ke Kf Ra Rb Rc Rd Re Rf hn hn'; (try clear Fa Fb Fc Fd Fe Ff); obtain ⟨Ha, Hb, Hc, Hd, He, Hf⟩ := zH.facts; obtain ⟨Ka, Kb, Kc, Kd, Ke, Kf⟩ := zK.facts; obtain ⟨Ra, Rb, Rc, Rd, Re, Rf⟩ := zR.facts; (try obtain ⟨Fa, Fb, Fc, Fd, Fe, Ff⟩ := zF.facts)))
  · have k1 := FB.new wq T.s AP nP cP AQ nQ cQ
    have k2 := zR.alloc (.cells #[.bool T.s, .slice AP nP cP, .slice AQ nQ cQ] 25)
    have k3 := zP.al (.cells #[.bool T.s, .slice AP nP cP, .slice AQ nQ cQ] 25)
    have k4 := zQ.al (.cells #[.bool T.s, .slice AP nP cP, .slice AQ nQ cQ] 25)
    have k5 := zB.alloc zB.size (.cells #[.bool T.s, .slice AP nP cP, .slice AQ nQ cQ] 25)
    refine name_world (fun wx hw => ?_)
    rw [← hw] at k1 k2 k3 k4 k5
    clear hw zR zP zQ zB zH zK zX zY zU zV Ha Hb Hc Hd He Hf Ka Kb Kc Kd Ke Kf Ra Rb Rc Rd Re Rf
    obtain ⟨Fa, Fb, Fc, Fd, Fe, Ff⟩ := k1.facts
    obtain ⟨Ra, Rb, Rc, Rd, Re, Rf⟩ := k2.facts
    go_wp2
    refine bodyPost_ret (v := .agg #[.bool T.s, .slice AP nP cP, .slice AQ nQ cQ]) (by simp [results, Tryz.results72, go_sem, Ra, Rb, Rc]) rfl ?_
    exact giveFr (t := T) k5 (by omega) k2 k3 k4
  all_goals
    obtain ⟨k1, k2, k3, k4, k5⟩ := backFr zB zF zR zP zQ (by omega) (by omega)
    refine name_world (fun wx hw => ?_)
    have hw' : stFr wq _ T.s AP nP cP AQ nQ cQ = wx := hw.symm
    rw [hw'] at k1 k2 k3 k4 k5
    clear hw hw' zR zP zQ zB zH zK zX zY zU zV zF Ha Hb Hc Hd He Hf Ka Kb Kc Kd Ke Kf Ra Rb Rc Rd Re Rf Fa Fb Fc Fd Fe Ff
    obtain ⟨Fa, Fb, Fc, Fd, Fe, Ff⟩ := k1.facts
    obtain ⟨Ra, Rb, Rc, Rd, Re, Rf⟩ := k2.facts
    go_wp2
    refine bodyPost_ret (v := .agg #[.bool T.s, .slice AP nP cP, .slice AQ nQ cQ]) (by simp [results, Tryz.results72, go_sem, Ra, Rb, Rc]) rfl ?_
    exact giveFr (t := T) k5 (by omega) k2 k3 k4
set_option maxRecDepth 100000 in
set_option maxHeartbeats 4000000 in
theorem raddf_ge (s s' : Bool) (A B A' B' : Option Addr) (n c m d n' c' m' d' p q p' q' i : Nat) (xs ys xs' ys' : List Nat) (w : World) (hx : Num w A n c xs p) (hy : Num w B m d ys q) (hx' : Num w A' n' c' xs' p') (hy' : Num w B' m' d' ys' q') (pp : p < 4294967296 ^ i) (pq : q < 4294967296 ^ i) (pp' : p' < 4294967296 ^ i) (pq' : q' < 4294967296 ^ i) (hi : i ≤ 40000) (hq : 0 < q) (hq' : 0 < q') (hs : (s == s') = false) (hc : p' * q ≤ p * q') (T : Fr) (hT : Fr.mk' s (p * q' - p' * q) (q * q') = T) :
    Calls Tryz.prog 72 #[.agg #[.bool s, .slice A n c, .slice B m d], .agg #[.bool s', .slice A' n' c', .slice B' m' d']] w (GivesFr T w) := by
  have zB := (((Below.refl w.heap.size w).alloc (Nat.le_refl _) (.cells #[.bool s, .slice A n c, .slice B m d] 25)).alloc (by simp) (.cells #[.bool s', .slice A' n' c', .slice B' m' d'] 25)).alloc (by simp; omega) (.cells #[.bool false, .slice none 0 0, .slice none 0 0] 25)
  have zX := hx.keep zB
  have zY := hy.keep zB
  have zU := hx'.keep zB
  have zV := hy'.keep zB
  have zH := ((FB.new w s A n c B m d).alloc (.cells #[.bool s', .slice A' n' c', .slice B' m' d'] 25)).alloc (.cells #[.bool false, .slice none 0 0, .slice none 0 0] 25)
  have zK := (FB.new (w.alloc (.cells #[.bool s, .slice A n c, .slice B m d] 25)) s' A' n' c' B' m' d').alloc (.cells #[.bool false, .slice none 0 0, .slice none 0 0] 25)
  have zR := FB.new ((w.alloc (.cells #[.bool s, .slice A n c, .slice B m d] 25)).alloc (.cells #[.bool s', .slice A' n' c', .slice B' m' d'] 25)) false none 0 0 none 0 0
  rw [show (w.alloc (.cells #[.bool s, .slice A n c, .slice B m d] 25)).heap.size = w.heap.size + 1 by simp] at zK
  rw [show ((w.alloc (.cells #[.bool s, .slice A n c, .slice B m d] 25)).alloc (.cells #[.bool s', .slice A' n' c', .slice B' m' d'] 25)).heap.size = w.heap.size + 1 + 1 by simp] at zR
  have PP := Lib.hid pp
  have PQ := Lib.hid pq
  have PP' := Lib.hid pp'
  have PQ' := Lib.hid pq'
  have E0 : Hid (0 < q * q') := Lib.hid (Nat.mul_pos hq hq')
  have pN : Hid (p * q' < 4294967296 ^ (i + i)) := Lib.hid (pw_mul pp pq')
  have pD : Hid (p' * q < 4294967296 ^ (i + i)) := Lib.hid (pw_mul pp' pq)
  have pE : Hid (q * q' < 4294967296 ^ (i + i + 1)) := Lib.hid (pw_more (pw_mul pq pq') (by omega))
  have pS : Hid (p * q' - p' * q < 4294967296 ^ (i + i + 1)) := Lib.hid (pw_more (pw_le (Nat.sub_le _ _) pN.out) (by omega))
  have HT := Lib.hid hT
  clear hx hy hx' hy' pp pq pp' pq' hq hq' hT
  have e1 : (s == s') = false := hs
  clear hs
  go_enter Tryz.func72, Tryz.ntmps72
  go_wp2
  obtain ⟨W0, hv⟩ : ∃ v, ((w.alloc (.cells #[.bool s, .slice A n c, .slice B m d] 25)).alloc (.cells #[.bool s', .slice A' n' c', .slice B' m' d'] 25)).alloc (.cells #[.bool false, .slice none 0 0, .slice none 0 0] 25) = v := ⟨_, rfl⟩
  rw [hv]
  rw [hv] at zB zX zY zU zV zH zK zR
  clear hv
  replace zB := zB.drew
  replace zX := zX.drew_
  replace zY := zY.drew_
  replace zU := zU.drew_
  replace zV := zV.drew_
  replace zH := zH.drew
  replace zK := zK.drew
  replace zR := zR.drew
  obtain ⟨Ha, Hb, Hc, Hd, He, Hf⟩ := zH.facts
  obtain ⟨Ka, Kb, Kc, Kd, Ke, Kf⟩ := zK.facts
  obtain ⟨Ra, Rb, Rc, Rd, Re, Rf⟩ := zR.facts
  go_region_held3 (fun w' => w'.cell? ⟨w.heap.size, 0, none⟩ = some (.bool s) ∧ w'.cell? ⟨w.heap.size, 1, none⟩ = some (.slice A n c) ∧ w'.cell? ⟨w.heap.size, 2, none⟩ = some (.slice B m d) ∧ w'.cell? ⟨w.heap.size + 1, 0, none⟩ = some (.bool s') ∧ w'.cell? ⟨w.heap.size + 1, 1, none⟩ = some (.slice A' n' c') ∧ w'.cell? ⟨w.heap.size + 1, 2, none⟩ = some (.slice B' m' d')) (first | (with_reducible exact ⟨al_keep Ha, al_keep Hb, al_keep Hc, al_keep Ka, al_keep Kb, al_keep Kc⟩) | (with_reducible exact ⟨ad_keep Ha, ad_keep Hb, ad_keep Hc, ad_keep Ka, ad_keep Kb, ad_keep Kc⟩) | (with_reducible exact ⟨st3_keep (by omega) Ha, st3_keep (by omega) Hb, st3_keep (by omega) Hc, st3_keep (by omega) Ka, st3_keep (by omega) Kb, st3_keep (by omega) Kc⟩) | go_keep) (first | (go_at_call 109; (with_reducible refine (rmul_s zX zV PP.out PQ'.out (by omega) (by omega)).mono ?_); rintro e wq ⟨AN, nN, cN, xN, rfl, hn, hb⟩; replace zX := zX.keep hb; replace zY := zY.keep hb; replace zU := zU.keep hb; replace zV := zV.keep hb; replace zH := zH.keep hb; replace zK := zK.keep hb; replace zR := zR.keep hb; replace zB := zB.trans (hb.mono zB.size); (try replace zN := zN.keep hb); (try replace zD := zD.keep hb); (try replace zE := zE.keep hb); (try replace zA := zA.keep hb); (try replace zP := zP.keep hb); (try replace zQ := zQ.keep hb); (try replace zF := zF.keep hb); have zN := hn; clear hb Ha Hb Hc Hd He Hf Ka Kb Kc Kd Ke Kf Ra Rb Rc Rd Re Rf hn; (try clear Fa Fb Fc Fd Fe Ff); obtain ⟨Ha, Hb, Hc, Hd, He, Hf⟩ := zH.facts; obtain ⟨Ka, Kb, Kc, Kd, Ke, Kf⟩ := zK.facts; obtain ⟨Ra, Rb, Rc, Rd, Re, Rf⟩ := zR.facts; (try obtain ⟨Fa, Fb, Fc, Fd, Fe, Ff⟩ := zF.facts)) | (go_at_call 109; (with_reducible refine (rmul_s zU zY PP'.out PQ.out (by omega) (by omega)).mono ?_); rintro e wq ⟨AD, nD, cD, xD, rfl, hn, hb⟩; replace zX := zX.keep hb; replace zY := zY.keep hb; replace zU := zU.keep hb; replace zV := zV.keep hb; replace zH := zH.keep hb; replace zK := zK.keep hb; replace zR := zR.keep hb; replace zB := zB.trans (hb.mono zB.size); (try replace zN := zN.keep hb); (try replace zD := zD.keep hb); (try replace zE := zE.keep hb); (try replace zA := zA.keep hb); (try replace zP := zP.keep hb); (try replace zQ := zQ.keep hb); (try replace zF := zF.keep hb); have zD := hn; clear hb Ha Hb Hc Hd He Hf Ka Kb Kc Kd Ke Kf Ra Rb Rc Rd Re Rf hn; (try clear Fa Fb Fc Fd Fe Ff); obtain ⟨Ha, Hb, Hc, Hd, He, Hf⟩ := zH.facts; obtain ⟨Ka, Kb, Kc, Kd, Ke, Kf⟩ := zK.facts; obtain ⟨Ra, Rb, Rc, Rd, Re, Rf⟩ := zR.facts; (try obtain ⟨Fa, Fb, Fc, Fd, Fe, Ff⟩ := zF.facts)))
  go_wp2_with fail
  refine (rmul_s zY zV PQ.out PQ'.out (by omega) (by omega)).mono ?_
  rintro e wq ⟨AE, nE, cE, xE, rfl, hn, hb⟩
  replace zX := zX.keep hb
  replace zY := zY.keep hb
  replace zU := zU.keep hb
  replace zV := zV.keep hb
  replace zH := zH.keep hb
  replace zK := zK.keep hb
  replace zR := zR.keep hb
  replace zB := zB.trans (hb.mono zB.size)
  (try replace zN := zN.keep hb)
  (try replace zD := zD.keep hb)
  (try replace zE := zE.keep hb)
  (try replace zA := zA.keep hb)
  (try replace zP := zP.keep hb)
  (try replace zQ := zQ.keep hb)
  (try replace zF := zF.keep hb)
  have zE := hn
  clear hb Ha Hb Hc Hd He Hf Ka Kb Kc Kd Ke Kf Ra Rb Rc Rd Re Rf hn
  (try clear Fa Fb Fc Fd Fe Ff)
  obtain ⟨Ha, Hb, Hc, Hd, He, Hf⟩ := zH.facts
  obtain ⟨Ka, Kb, Kc, Kd, Ke, Kf⟩ := zK.facts
  obtain ⟨Ra, Rb, Rc, Rd, Re, Rf⟩ := zR.facts
  (try obtain ⟨Fa, Fb, Fc, Fd, Fe, Ff⟩ := zF.facts)
  go_wp2_with fail
  refine (rsub_b zN zD (zN.sh pN.out (by omega)) (decide_eq_true hc)).mono ?_
  rintro e wq ⟨AS, nS, cS, xS, rfl, hn, hb⟩
  replace zX := zX.keep hb
  replace zY := zY.keep hb
  replace zU := zU.keep hb
  replace zV := zV.keep hb
  replace zH := zH.keep hb
  replace zK := zK.keep hb
  replace zR := zR.keep hb
  replace zB := zB.trans (hb.mono zB.size)
  (try replace zN := zN.keep hb)
  (try replace zD := zD.keep hb)
  (try replace zE := zE.keep hb)
  (try replace zA := zA.keep hb)
  (try replace zP := zP.keep hb)
  (try replace zQ := zQ.keep hb)
  (try replace zS := zS.keep hb)
  (try replace zF := zF.keep hb)
  have zS := hn
  clear hb Ha Hb Hc Hd He Hf Ka Kb Kc Kd Ke Kf Ra Rb Rc Rd Re Rf hn
  (try clear Fa Fb Fc Fd Fe Ff)
  obtain ⟨Ha, Hb, Hc, Hd, He, Hf⟩ := zH.facts
  obtain ⟨Ka, Kb, Kc, Kd, Ke, Kf⟩ := zK.facts
  obtain ⟨Ra, Rb, Rc, Rd, Re, Rf⟩ := zR.facts
  (try obtain ⟨Fa, Fb, Fc, Fd, Fe, Ff⟩ := zF.facts)
  go_wp2_with fail
  refine (rmake_s zS zE E0.out pS.out pE.out (by omega) HT.out).mono ?_
  rintro e wq ⟨AP, nP, cP, xP, AQ, nQ, cQ, xQ, rfl, hn, hn', hb⟩
  replace zX := zX.keep hb
  replace zY := zY.keep hb
  replace zU := zU.keep hb
  replace zV := zV.keep hb
  replace zH := zH.keep hb
  replace zK := zK.keep hb
  replace zR := zR.keep hb
  replace zB := zB.trans (hb.mono zB.size)
  (try replace zN := zN.keep hb)
  (try replace zD := zD.keep hb)
  (try replace zE := zE.keep hb)
  (try replace zA := zA.keep hb)
  (try replace zP := zP.keep hb)
  (try replace zQ := zQ.keep hb)
  (try replace zS := zS.keep hb)
  (try replace zF := zF.keep hb)
  have zP := hn
  have zQ := hn'
  clear hb Ha Hb Hc Hd He Hf Ka Kb Kc Kd Ke Kf Ra Rb Rc Rd Re Rf hn hn'
  (try clear Fa Fb Fc Fd Fe Ff)
  obtain ⟨Ha, Hb, Hc, Hd, He, Hf⟩ := zH.facts
  obtain ⟨Ka, Kb, Kc, Kd, Ke, Kf⟩ := zK.facts
  obtain ⟨Ra, Rb, Rc, Rd, Re, Rf⟩ := zR.facts
  (try obtain ⟨Fa, Fb, Fc, Fd, Fe, Ff⟩ := zF.facts)
  have k1 := FB.new wq T.s AP nP cP AQ nQ cQ
  have k2 := Lib.hid (zR.alloc (.cells #[.bool T.s, .slice AP nP cP, .slice AQ nQ cQ] 25))
  have k3 := Lib.hid (zP.al (.cells #[.bool T.s, .slice AP nP cP, .slice AQ nQ cQ] 25))
  have k4 := Lib.hid (zQ.al (.cells #[.bool T.s, .slice AP nP cP, .slice AQ nQ cQ] 25))
  have k5 := Lib.hid (zB.alloc zB.size (.cells #[.bool T.s, .slice AP nP cP, .slice AQ nQ cQ] 25))
  clear zR zP zQ zB zH zK zX zY zU zV zN zD zE zS Ha Hb Hc Hd He Hf Ka Kb Kc Kd Ke Kf Ra Rb Rc Rd Re Rf
  obtain ⟨Fa, Fb, Fc, Fd, Fe, Ff⟩ := k1.facts
  obtain ⟨Ra, Rb, Rc, Rd, Re, Rf⟩ := k2.out.facts
  clear k1
  go_wp2
  refine bodyPost_ret (v := .agg #[.bool T.s, .slice AP nP cP, .slice AQ nQ cQ]) (by simp [results, Tryz.results72, go_sem, Ra, Rb, Rc]) rfl ?_
  exact giveFr (t := T) k5.out (by omega) k2.out k3.out k4.out
set_option maxRecDepth 100000 in
set_option maxHeartbeats 4000000 in
theorem raddf_lt (s s' : Bool) (A B A' B' : Option Addr) (n c m d n' c' m' d' p q p' q' i : Nat) (xs ys xs' ys' : List Nat) (w : World) (hx : Num w A n c xs p) (hy : Num w B m d ys q) (hx' : Num w A' n' c' xs' p') (hy' : Num w B' m' d' ys' q') (pp : p < 4294967296 ^ i) (pq : q < 4294967296 ^ i) (pp' : p' < 4294967296 ^ i) (pq' : q' < 4294967296 ^ i) (hi : i ≤ 40000) (hq : 0 < q) (hq' : 0 < q') (hs : (s == s') = false) (hc : p * q' < p' * q) (T : Fr) (hT : Fr.mk' s' (p' * q - p * q') (q * q') = T) :
    Calls Tryz.prog 72 #[.agg #[.bool s, .slice A n c, .slice B m d], .agg #[.bool s', .slice A' n' c', .slice B' m' d']] w (GivesFr T w) := by
  have zB := (((Below.refl w.heap.size w).alloc (Nat.le_refl _) (.cells #[.bool s, .slice A n c, .slice B m d] 25)).alloc (by simp) (.cells #[.bool s', .slice A' n' c', .slice B' m' d'] 25)).alloc (by simp; omega) (.cells #[.bool false, .slice none 0 0, .slice none 0 0] 25)
  have zX := hx.keep zB
  have zY := hy.keep zB
  have zU := hx'.keep zB
  have zV := hy'.keep zB
  have zH := ((FB.new w s A n c B m d).alloc (.cells #[.bool s', .slice A' n' c', .slice B' m' d'] 25)).alloc (.cells #[.bool false, .slice none 0 0, .slice none 0 0] 25)
  have zK := (FB.new (w.alloc (.cells #[.bool s, .slice A n c, .slice B m d] 25)) s' A' n' c' B' m' d').alloc (.cells #[.bool false, .slice none 0 0, .slice none 0 0] 25)
  have zR := FB.new ((w.alloc (.cells #[.bool s, .slice A n c, .slice B m d] 25)).alloc (.cells #[.bool s', .slice A' n' c', .slice B' m' d'] 25)) false none 0 0 none 0 0
  rw [show (w.alloc (.cells #[.bool s, .slice A n c, .slice B m d] 25)).heap.size = w.heap.size + 1 by simp] at zK
  rw [show ((w.alloc (.cells #[.bool s, .slice A n c, .slice B m d] 25)).alloc (.cells #[.bool s', .slice A' n' c', .slice B' m' d'] 25)).heap.size = w.heap.size + 1 + 1 by simp] at zR
  have PP := Lib.hid pp
  have PQ := Lib.hid pq
  have PP' := Lib.hid pp'
  have PQ' := Lib.hid pq'
  have E0 : Hid (0 < q * q') := Lib.hid (Nat.mul_pos hq hq')
  have pN : Hid (p * q' < 4294967296 ^ (i + i)) := Lib.hid (pw_mul pp pq')
  have pD : Hid (p' * q < 4294967296 ^ (i + i)) := Lib.hid (pw_mul pp' pq)
  have pE : Hid (q * q' < 4294967296 ^ (i + i + 1)) := Lib.hid (pw_more (pw_mul pq pq') (by omega))
  have pS : Hid (p' * q - p * q' < 4294967296 ^ (i + i + 1)) := Lib.hid (pw_more (pw_le (Nat.sub_le _ _) pD.out) (by omega))
  have HT := Lib.hid hT
  clear hx hy hx' hy' pp pq pp' pq' hq hq' hT
  have e1 : (s == s') = false := hs
  clear hs
  go_enter Tryz.func72, Tryz.ntmps72
  go_wp2
  obtain ⟨W0, hv⟩ : ∃ v, ((w.alloc (.cells #[.bool s, .slice A n c, .slice B m d] 25)).alloc (.cells #[.bool s', .slice A' n' c', .slice B' m' d'] 25)).alloc (.cells #[.bool false, .slice none 0 0, .slice none 0 0] 25) = v := ⟨_, rfl⟩
  rw [hv]
  rw [hv] at zB zX zY zU zV zH zK zR
  clear hv
  replace zB := zB.drew
  replace zX := zX.drew_
  replace zY := zY.drew_
  replace zU := zU.drew_
  replace zV := zV.drew_
  replace zH := zH.drew
  replace zK := zK.drew
  replace zR := zR.drew
  obtain ⟨Ha, Hb, Hc, Hd, He, Hf⟩ := zH.facts
  obtain ⟨Ka, Kb, Kc, Kd, Ke, Kf⟩ := zK.facts
  obtain ⟨Ra, Rb, Rc, Rd, Re, Rf⟩ := zR.facts
  go_region_held3 (fun w' => w'.cell? ⟨w.heap.size, 0, none⟩ = some (.bool s) ∧ w'.cell? ⟨w.heap.size, 1, none⟩ = some (.slice A n c) ∧ w'.cell? ⟨w.heap.size, 2, none⟩ = some (.slice B m d) ∧ w'.cell? ⟨w.heap.size + 1, 0, none⟩ = some (.bool s') ∧ w'.cell? ⟨w.heap.size + 1, 1, none⟩ = some (.slice A' n' c') ∧ w'.cell? ⟨w.heap.size + 1, 2, none⟩ = some (.slice B' m' d')) (first | (with_reducible exact ⟨al_keep Ha, al_keep Hb, al_keep Hc, al_keep Ka, al_keep Kb, al_keep Kc⟩) | (with_reducible exact ⟨ad_keep Ha, ad_keep Hb, ad_keep Hc, ad_keep Ka, ad_keep Kb, ad_keep Kc⟩) | (with_reducible exact ⟨st3_keep (by omega) Ha, st3_keep (by omega) Hb, st3_keep (by omega) Hc, st3_keep (by omega) Ka, st3_keep (by omega) Kb, st3_keep (by omega) Kc⟩) | go_keep) (first | (go_at_call 109; (with_reducible refine (rmul_s zX zV PP.out PQ'.out (by omega) (by omega)).mono ?_); rintro e wq ⟨AN, nN, cN, xN, rfl, hn, hb⟩; replace zX := zX.keep hb; replace zY := zY.keep hb; replace zU := zU.keep hb; replace zV := zV.keep hb; replace zH := zH.keep hb; replace zK := zK.keep hb; replace zR := zR.keep hb; replace zB := zB.trans (hb.mono zB.size); (try replace zN := zN.keep hb); (try replace zD := zD.keep hb); (try replace zE := zE.keep hb); (try replace zA := zA.keep hb); (try replace zP := zP.keep hb); (try replace zQ := zQ.keep hb); (try replace zF := zF.keep hb); have zN := hn; clear hb Ha Hb Hc Hd He Hf Ka Kb Kc Kd Ke Kf Ra Rb Rc Rd Re Rf hn; (try clear Fa Fb Fc Fd Fe Ff); obtain ⟨Ha, Hb, Hc, Hd, He, Hf⟩ := zH.facts; obtain ⟨Ka, Kb, Kc, Kd, Ke, Kf⟩ := zK.facts; obtain ⟨Ra, Rb, Rc, Rd, Re, Rf⟩ := zR.facts; (try obtain ⟨Fa, Fb, Fc, Fd, Fe, Ff⟩ := zF.facts)) | (go_at_call 109; (with_reducible refine (rmul_s zU zY PP'.out PQ.out (by omega) (by omega)).mono ?_); rintro e wq ⟨AD, nD, cD, xD, rfl, hn, hb⟩; replace zX := zX.keep hb; replace zY := zY.keep hb; replace zU := zU.keep hb; replace zV := zV.keep hb; replace zH := zH.keep hb; replace zK := zK.keep hb; replace zR := zR.keep hb; replace zB := zB.trans (hb.mono zB.size); (try replace zN := zN.keep hb); (try replace zD := zD.keep hb); (try replace zE := zE.keep hb); (try replace zA := zA.keep hb); (try replace zP := zP.keep hb); (try replace zQ := zQ.keep hb); (try replace zF := zF.keep hb); have zD := hn; clear hb Ha Hb Hc Hd He Hf Ka Kb Kc Kd Ke Kf Ra Rb Rc Rd Re Rf hn; (try clear Fa Fb Fc Fd Fe Ff); obtain ⟨Ha, Hb, Hc, Hd, He, Hf⟩ := zH.facts; obtain ⟨Ka, Kb, Kc, Kd, Ke, Kf⟩ := zK.facts; obtain ⟨Ra, Rb, Rc, Rd, Re, Rf⟩ := zR.facts; (try obtain ⟨Fa, Fb, Fc, Fd, Fe, Ff⟩ := zF.facts)))
  go_wp2_with fail
  refine (rmul_s zY zV PQ.out PQ'.out (by omega) (by omega)).mono ?_
  rintro e wq ⟨AE, nE, cE, xE, rfl, hn, hb⟩
  replace zX := zX.keep hb
  replace zY := zY.keep hb
  replace zU := zU.keep hb
  replace zV := zV.keep hb
  replace zH := zH.keep hb
  replace zK := zK.keep hb
  replace zR := zR.keep hb
  replace zB := zB.trans (hb.mono zB.size)
  (try replace zN := zN.keep hb)
  (try replace zD := zD.keep hb)
  (try replace zE := zE.keep hb)
  (try replace zA := zA.keep hb)
  (try replace zP := zP.keep hb)
  (try replace zQ := zQ.keep hb)
  (try replace zF := zF.keep hb)
  have zE := hn
  clear hb Ha Hb Hc Hd He Hf Ka Kb Kc Kd Ke Kf Ra Rb Rc Rd Re Rf hn
  (try clear Fa Fb Fc Fd Fe Ff)
  obtain ⟨Ha, Hb, Hc, Hd, He, Hf⟩ := zH.facts
  obtain ⟨Ka, Kb, Kc, Kd, Ke, Kf⟩ := zK.facts
  obtain ⟨Ra, Rb, Rc, Rd, Re, Rf⟩ := zR.facts
  (try obtain ⟨Fa, Fb, Fc, Fd, Fe, Ff⟩ := zF.facts)
  go_wp2_with fail
  refine (rsub_b zN zD (zN.sh pN.out (by omega)) (decide_eq_false (by omega))).mono ?_
  rintro e wq ⟨AS, nS, cS, xS, rfl, hn, hb⟩
  replace zX := zX.keep hb
  replace zY := zY.keep hb
  replace zU := zU.keep hb
  replace zV := zV.keep hb
  replace zH := zH.keep hb
  replace zK := zK.keep hb
  replace zR := zR.keep hb
  replace zB := zB.trans (hb.mono zB.size)
  (try replace zN := zN.keep hb)
  (try replace zD := zD.keep hb)
  (try replace zE := zE.keep hb)
  (try replace zA := zA.keep hb)
  (try replace zP := zP.keep hb)
  (try replace zQ := zQ.keep hb)
  (try replace zS := zS.keep hb)
  (try replace zF := zF.keep hb)
  have zS := hn
  clear hb Ha Hb Hc Hd He Hf Ka Kb Kc Kd Ke Kf Ra Rb Rc Rd Re Rf hn
  (try clear Fa Fb Fc Fd Fe Ff)
  obtain ⟨Ha, Hb, Hc, Hd, He, Hf⟩ := zH.facts
  obtain ⟨Ka, Kb, Kc, Kd, Ke, Kf⟩ := zK.facts
  obtain ⟨Ra, Rb, Rc, Rd, Re, Rf⟩ := zR.facts
  (try obtain ⟨Fa, Fb, Fc, Fd, Fe, Ff⟩ := zF.facts)
  go_wp2_with fail
  refine (rsub_b zD zN (zD.sh pD.out (by omega)) (decide_eq_true (by omega))).mono ?_
  rintro e wq ⟨AS, nS, cS, xS, rfl, hn, hb⟩
  replace zX := zX.keep hb
  replace zY := zY.keep hb
  replace zU := zU.keep hb
  replace zV := zV.keep hb
  replace zH := zH.keep hb
  replace zK := zK.keep hb
  replace zR := zR.keep hb
  replace zB := zB.trans (hb.mono zB.size)
  (try replace zN := zN.keep hb)
  (try replace zD := zD.keep hb)
  (try replace zE := zE.keep hb)
  (try replace zA := zA.keep hb)
  (try replace zP := zP.keep hb)
  (try replace zQ := zQ.keep hb)
  (try replace zS := zS.keep hb)
  (try replace zF := zF.keep hb)
  have zS := hn
  clear hb Ha Hb Hc Hd He Hf Ka Kb Kc Kd Ke Kf Ra Rb Rc Rd Re Rf hn
  (try clear Fa Fb Fc Fd Fe Ff)
  obtain ⟨Ha, Hb, Hc, Hd, He, Hf⟩ := zH.facts
  obtain ⟨Ka, Kb, Kc, Kd, Ke, Kf⟩ := zK.facts
  obtain ⟨Ra, Rb, Rc, Rd, Re, Rf⟩ := zR.facts
  (try obtain ⟨Fa, Fb, Fc, Fd, Fe, Ff⟩ := zF.facts)
  go_wp2_with fail
  refine (rmake_s zS zE E0.out pS.out pE.out (by omega) HT.out).mono ?_
  rintro e wq ⟨AP, nP, cP, xP, AQ, nQ, cQ, xQ, rfl, hn, hn', hb⟩
  replace zX := zX.keep hb
  replace zY := zY.keep hb
  replace zU := zU.keep hb
  replace zV := zV.keep hb
  replace zH := zH.keep hb
  replace zK := zK.keep hb
  replace zR := zR.keep hb
  replace zB := zB.trans (hb.mono zB.size)
  (try replace zN := zN.keep hb)
  (try replace zD := zD.keep hb)
  (try replace zE := zE.keep hb)
  (try replace zA := zA.keep hb)
  (try replace zP := zP.keep hb)
  (try replace zQ := zQ.keep hb)
  (try replace zS := zS.keep hb)
  (try replace zF := zF.keep hb)
  have zP := hn
  have zQ := hn'
  clear hb Ha Hb Hc Hd He Hf Ka Kb Kc Kd Ke Kf Ra Rb Rc Rd Re Rf hn hn'
  (try clear Fa Fb Fc Fd Fe Ff)
  obtain ⟨Ha, Hb, Hc, Hd, He, Hf⟩ := zH.facts
  obtain ⟨Ka, Kb, Kc, Kd, Ke, Kf⟩ := zK.facts
  obtain ⟨Ra, Rb, Rc, Rd, Re, Rf⟩ := zR.facts
  (try obtain ⟨Fa, Fb, Fc, Fd, Fe, Ff⟩ := zF.facts)
  have k1 := FB.new wq T.s AP nP cP AQ nQ cQ
  have k2 := Lib.hid (zR.alloc (.cells #[.bool T.s, .slice AP nP cP, .slice AQ nQ cQ] 25))
  have k3 := Lib.hid (zP.al (.cells #[.bool T.s, .slice AP nP cP, .slice AQ nQ cQ] 25))
  have k4 := Lib.hid (zQ.al (.cells #[.bool T.s, .slice AP nP cP, .slice AQ nQ cQ] 25))
  have k5 := Lib.hid (zB.alloc zB.size (.cells #[.bool T.s, .slice AP nP cP, .slice AQ nQ cQ] 25))
  clear zR zP zQ zB zH zK zX zY zU zV zN zD zE zS Ha Hb Hc Hd He Hf Ka Kb Kc Kd Ke Kf Ra Rb Rc Rd Re Rf
  obtain ⟨Fa, Fb, Fc, Fd, Fe, Ff⟩ := k1.facts
  obtain ⟨Ra, Rb, Rc, Rd, Re, Rf⟩ := k2.out.facts
  clear k1
  go_wp2
  refine bodyPost_ret (v := .agg #[.bool T.s, .slice AP nP cP, .slice AQ nQ cQ]) (by simp [results, Tryz.results72, go_sem, Ra, Rb, Rc]) rfl ?_
  exact giveFr (t := T) k5.out (by omega) k2.out k3.out k4.out
theorem raddFr_any (s s' : Bool) (A B A' B' : Option Addr) (n c m d n' c' m' d' p q p' q' i : Nat) (xs ys xs' ys' : List Nat) (w : World) (hx : Num w A n c xs p) (hy : Num w B m d ys q) (hx' : Num w A' n' c' xs' p') (hy' : Num w B' m' d' ys' q') (pp : p < 4294967296 ^ i) (pq : q < 4294967296 ^ i) (pp' : p' < 4294967296 ^ i) (pq' : q' < 4294967296 ^ i) (hi : i ≤ 40000) (ok : Fr.Ok ⟨s, p, q⟩) (ok' : Fr.Ok ⟨s', p', q'⟩) (T : Fr) (hT : Fr.add ⟨s, p, q⟩ ⟨s', p', q'⟩ = T) :
    Calls Tryz.prog 72 #[.agg #[.bool s, .slice A n c, .slice B m d], .agg #[.bool s', .slice A' n' c', .slice B' m' d']] w (GivesFr T w) := by
  have hq : 0 < q := ok.1
  have hq' : 0 < q' := ok'.1
  have key : ∀ (z : Bool) (M : Nat), Fr.num z M = Fr.num s p * (q' : Int) + Fr.num s' p' * (q : Int) → Fr.mk' z M (q * q') = T := fun z M h => by
    rw [Fr.mk'_ofInt, h, ← hT]; rfl
  by_cases hs : s = s'
  · subst hs
    refine raddf_eq s A B A' B' n c m d n' c' m' d' p q p' q' i xs ys xs' ys' w hx hy hx' hy' pp pq pp' pq' hi hq hq' T (key _ _ ?_)
    cases s <;> simp only [Fr.num_true, Fr.num_false, Int.natCast_add, Int.natCast_mul] <;> grind
  · have hs' : (s == s') = false := beq_eq_false_iff_ne.2 hs
    rcases Nat.lt_or_ge (p * q') (p' * q) with h | h
    · refine raddf_lt s s' A B A' B' n c m d n' c' m' d' p q p' q' i xs ys xs' ys' w hx hy hx' hy' pp pq pp' pq' hi hq hq' hs' h T (key _ _ ?_)
      have e : ((p' * q - p * q' : Nat) : Int) = (p' : Int) * q - p * q' := by rw [Int.natCast_sub (by omega), Int.natCast_mul, Int.natCast_mul]
      cases s <;> cases s' <;> first | exact absurd rfl hs | (simp only [Fr.num_true, Fr.num_false, e]; grind)
    · refine raddf_ge s s' A B A' B' n c m d n' c' m' d' p q p' q' i xs ys xs' ys' w hx hy hx' hy' pp pq pp' pq' hi hq hq' hs' h T (key _ _ ?_)
      have e : ((p * q' - p' * q : Nat) : Int) = (p : Int) * q' - p' * q := by rw [Int.natCast_sub (by omega), Int.natCast_mul, Int.natCast_mul]
      cases s <;> cases s' <;> first | exact absurd rfl hs | (simp only [Fr.num_true, Fr.num_false, e]; grind)
set_option maxRecDepth 100000 in
set_option maxHeartbeats 2000000 in
theorem rsubFr_any (s s' : Bool) (A B A' B' : Option Addr) (n c m d n' c' m' d' p q p' q' i : Nat) (xs ys xs' ys' : List Nat) (w : World) (hx : Num w A n c xs p) (hy : Num w B m d ys q) (hx' : Num w A' n' c' xs' p') (hy' : Num w B' m' d' ys' q') (pp : p < 4294967296 ^ i) (pq : q < 4294967296 ^ i) (pp' : p' < 4294967296 ^ i) (pq' : q' < 4294967296 ^ i) (hi : i ≤ 40000) (ok : Fr.Ok ⟨s, p, q⟩) (ok' : Fr.Ok ⟨s', p', q'⟩) (T N : Fr) (hN : Fr.neg ⟨s', p', q'⟩ = N) (hT : Fr.add ⟨s, p, q⟩ N = T) :
    Calls Tryz.prog 42 #[.agg #[.bool s, .slice A n c, .slice B m d], .agg #[.bool s', .slice A' n' c', .slice B' m' d']] w (GivesFr T w) := by
  have hT1 : Hid (Fr.Ok ⟨N.s, N.p, N.q⟩) := Lib.hid (by rw [← hN]; exact Fr.neg_ok ok')
  have hT2 : Hid (N.p < 4294967296 ^ i) := Lib.hid (by rw [← hN]; exact pp')
  have hT3 : Hid (N.q < 4294967296 ^ i) := Lib.hid (by rw [← hN]; exact pq')
  have HT := Lib.hid hT
  have HN := Lib.hid hN
  have zB := (((Below.refl w.heap.size w).alloc (Nat.le_refl _) (.cells #[.bool s, .slice A n c, .slice B m d] 25)).alloc (by simp) (.cells #[.bool s', .slice A' n' c', .slice B' m' d'] 25)).alloc (by simp; omega) (.cells #[.bool false, .slice none 0 0, .slice none 0 0] 25)
  have zX := hx.keep zB
  have zY := hy.keep zB
  have zU := hx'.keep zB
  have zV := hy'.keep zB
  have zH := ((FB.new w s A n c B m d).alloc (.cells #[.bool s', .slice A' n' c', .slice B' m' d'] 25)).alloc (.cells #[.bool false, .slice none 0 0, .slice none 0 0] 25)
  have zK := (FB.new (w.alloc (.cells #[.bool s, .slice A n c, .slice B m d] 25)) s' A' n' c' B' m' d').alloc (.cells #[.bool false, .slice none 0 0, .slice none 0 0] 25)
  have zR := FB.new ((w.alloc (.cells #[.bool s, .slice A n c, .slice B m d] 25)).alloc (.cells #[.bool s', .slice A' n' c', .slice B' m' d'] 25)) false none 0 0 none 0 0
  rw [show (w.alloc (.cells #[.bool s, .slice A n c, .slice B m d] 25)).heap.size = w.heap.size + 1 by simp] at zK
  rw [show ((w.alloc (.cells #[.bool s, .slice A n c, .slice B m d] 25)).alloc (.cells #[.bool s', .slice A' n' c', .slice B' m' d'] 25)).heap.size = w.heap.size + 1 + 1 by simp] at zR
  replace zB := zB.drew
  replace zX := zX.drew_
  replace zY := zY.drew_
  replace zU := zU.drew_
  replace zV := zV.drew_
  replace zH := zH.drew
  replace zK := zK.drew
  replace zR := zR.drew
  have PP := Lib.hid pp
  have PQ := Lib.hid pq
  have OK := Lib.hid ok
  clear hx hy hx' hy' pp pq pp' pq' ok ok' hT hN
  go_enter Tryz.func42, Tryz.ntmps42
  go_wp2
  obtain ⟨Ha, Hb, Hc, Hd, He, Hf⟩ := zH.facts
  obtain ⟨Ka, Kb, Kc, Kd, Ke, Kf⟩ := zK.facts
  obtain ⟨Ra, Rb, Rc, Rd, Re, Rf⟩ := zR.facts
  go_region_held3 (fun w' => w'.cell? ⟨w.heap.size, 0, none⟩ = some (.bool s) ∧ w'.cell? ⟨w.heap.size, 1, none⟩ = some (.slice A n c) ∧ w'.cell? ⟨w.heap.size, 2, none⟩ = some (.slice B m d) ∧ w'.cell? ⟨w.heap.size + 1, 0, none⟩ = some (.bool s') ∧ w'.cell? ⟨w.heap.size + 1, 1, none⟩ = some (.slice A' n' c') ∧ w'.cell? ⟨w.heap.size + 1, 2, none⟩ = some (.slice B' m' d')) (first | (with_reducible exact ⟨st3_keep (by omega) Ha, st3_keep (by omega) Hb, st3_keep (by omega) Hc, st3_keep (by omega) Ka, st3_keep (by omega) Kb, st3_keep (by omega) Kc⟩) | go_keep) (first | (go_at_call 73; (with_reducible refine (rnegFr_any s' A' B' n' c' m' d' p' q' xs' ys' _ zU zV N HN.out).mono ?_); rintro e wq ⟨AE, nE, cE, xE, AG, nG, cG, xG, rfl, hn, hn', hb⟩; replace zX := zX.keep hb; replace zY := zY.keep hb; replace zU := zU.keep hb; replace zV := zV.keep hb; replace zH := zH.keep hb; replace zK := zK.keep hb; replace zR := zR.keep hb; replace zB := zB.trans (hb.mono zB.size); (try replace zE := zE.keep hb); (try replace zG := zG.keep hb); (try replace zP := zP.keep hb); (try replace zQ := zQ.keep hb); have zE := hn; have zG := hn'; clear hb Ha Hb Hc Hd He Hf Ka Kb Kc Kd Ke Kf Ra Rb Rc Rd Re Rf hn hn'; obtain ⟨Ha, Hb, Hc, Hd, He, Hf⟩ := zH.facts; obtain ⟨Ka, Kb, Kc, Kd, Ke, Kf⟩ := zK.facts; obtain ⟨Ra, Rb, Rc, Rd, Re, Rf⟩ := zR.facts) | (go_at_call 72; (with_reducible refine (raddFr_any s N.s A B AE AG n c m d nE cE nG cG p q N.p N.q i xs ys xE xG _ zX zY zE zG PP.out PQ.out hT2.out hT3.out hi OK.out hT1.out T HT.out).mono ?_); rintro e wq ⟨AP, nP, cP, xP, AQ, nQ, cQ, xQ, rfl, hn, hn', hb⟩; replace zX := zX.keep hb; replace zY := zY.keep hb; replace zU := zU.keep hb; replace zV := zV.keep hb; replace zH := zH.keep hb; replace zK := zK.keep hb; replace zR := zR.keep hb; replace zB := zB.trans (hb.mono zB.size); (try replace zE := zE.keep hb); (try replace zG := zG.keep hb); (try replace zP := zP.keep hb); (try replace zQ := zQ.keep hb); have zP := hn; have zQ := hn'; clear hb Ha Hb Hc Hd He Hf Ka Kb Kc Kd Ke Kf Ra Rb Rc Rd Re Rf hn hn'; obtain ⟨Ha, Hb, Hc, Hd, He, Hf⟩ := zH.facts; obtain ⟨Ka, Kb, Kc, Kd, Ke, Kf⟩ := zK.facts; obtain ⟨Ra, Rb, Rc, Rd, Re, Rf⟩ := zR.facts))
  all_goals go_wp2
  all_goals refine bodyPost_ret (v := .agg #[.bool T.s, .slice AP nP cP, .slice AQ nQ cQ]) (by simp [results, Tryz.results42, go_sem, Ra, Rb, Rc]) rfl ?_
  all_goals exact giveFr (t := T) zB (by omega) zR zP zQ
set_option maxRecDepth 100000 in
set_option maxHeartbeats 2000000 in
theorem rcmpFr_any (s s' : Bool) (A B A' B' : Option Addr) (n c m d n' c' m' d' p q p' q' i : Nat) (xs ys xs' ys' : List Nat) (w : World) (hx : Num w A n c xs p) (hy : Num w B m d ys q) (hx' : Num w A' n' c' xs' p') (hy' : Num w B' m' d' ys' q') (pp : p < 4294967296 ^ i) (pq : q < 4294967296 ^ i) (pp' : p' < 4294967296 ^ i) (pq' : q' < 4294967296 ^ i) (hi : i ≤ 40000) (ok : Fr.Ok ⟨s, p, q⟩) (ok' : Fr.Ok ⟨s', p', q'⟩) (l : Int) (hl : sgn (Fr.add ⟨s, p, q⟩ (Fr.neg ⟨s', p', q'⟩)).s (Fr.add ⟨s, p, q⟩ (Fr.neg ⟨s', p', q'⟩)).p = l) :
    Calls Tryz.prog 16 #[.agg #[.bool s, .slice A n c, .slice B m d], .agg #[.bool s', .slice A' n' c', .slice B' m' d']] w (Gives (.int .i64 l) w) := by
  have b0 := ((Below.refl w.heap.size w).alloc (Nat.le_refl _) (.cells #[.bool s, .slice A n c, .slice B m d] 25)).alloc (by simp) (.cells #[.bool s', .slice A' n' c', .slice B' m' d'] 25)
  obtain ⟨T, hT⟩ : ∃ T, Fr.add ⟨s, p, q⟩ (Fr.neg ⟨s', p', q'⟩) = T := ⟨_, rfl⟩
  rw [hT] at hl
  have okT : Fr.Ok T := by rw [← hT]; exact Fr.add_ok ok (Fr.neg_ok ok')
  have C := Lib.hid (rsubFr_any s s' A B A' B' n c m d n' c' m' d' p q p' q' i xs ys xs' ys' _ (hx.keep b0) (hy.keep b0) (hx'.keep b0) (hy'.keep b0) pp pq pp' pq' hi ok ok' T _ rfl hT)
  have B0 := Lib.hid b0
  have H0 := Lib.hid ((FB.new w s A n c B m d).alloc (.cells #[.bool s', .slice A' n' c', .slice B' m' d'] 25))
  have K0 := Lib.hid (FB.new (w.alloc (.cells #[.bool s, .slice A n c, .slice B m d] 25)) s' A' n' c' B' m' d')
  rw [show (w.alloc (.cells #[.bool s, .slice A n c, .slice B m d] 25)).heap.size = w.heap.size + 1 by simp] at K0
  have SG := Lib.hid (fun (A1 B1 : Option Addr) (n1 c1 m1 d1 : Nat) (x1 : List Nat) (W : World) (h : Num W A1 n1 c1 x1 T.p) => rsignFr_any T.s A1 B1 n1 c1 m1 d1 T.p x1 W h okT.2.2 l hl)
  clear hx hy hx' hy' pp pq pp' pq' ok ok' hl hT b0 okT
  obtain ⟨Ha, Hb, Hc, _, _, _⟩ := H0.out.facts
  obtain ⟨Ka, Kb, Kc, _, _, _⟩ := K0.out.facts
  go_enter Tryz.func16, Tryz.ntmps16
  go_wp2_with fail
  refine C.out.mono ?_
  rintro e w1 ⟨AP, nP, cP, xP, AQ, nQ, cQ, xQ, rfl, hn, hn', hb⟩
  have P1 := Lib.hid hn
  have B1 := Lib.hid (B0.out.trans (hb.mono B0.out.size))
  clear hn hn' hb B0 H0 K0 Ha Hb Hc Ka Kb Kc
  go_wp2_with fail
  refine (SG.out _ _ _ _ _ _ _ _ P1.out).mono ?_
  rintro e w2 ⟨rfl, hb⟩
  have B2 := Lib.hid (B1.out.trans (hb.mono B1.out.size))
  clear hb
  go_wp2
  go_ret
  exact ⟨rfl, B2.out⟩
end Go.Proofs.YtbllnkhbahenkaaGreatDoor
