/- Contracts of the reference's Mul over fractions: no claim of its own. -/
import Derived.Test.YtebfnbnaheolgaaGreatDoorRArith
namespace Go.Proofs.YtebfnbnaheolgaaGreatDoor
open Go.RowKit
theorem Num.al {w : World} {A : Option Addr} {n c a : Nat} {xs : List Nat} (h : Num w A n c xs a) (o : Obj) : Num (w.alloc o) A n c xs a := h.keep (below_alloc w o)
theorem Num.ad {w : World} {A : Option Addr} {n c a : Nat} {xs : List Nat} (h : Num w.drew A n c xs a) (o : Obj) : Num (w.alloc o).drew A n c xs a := h.keep (below_alloc w.drew o)
theorem name_world {K : Exit → Act → World → Prop} {e : Exit} {a : Act} {w : World} (h : ∀ wx, wx = w → K e a wx) : K e a w := h w rfl
theorem al_keep {w : World} {o : Obj} {p : Addr} {v : Value} (h : w.cell? p = some v) : (w.alloc o).cell? p = some v := by
  rw [World.cell?_alloc_lt w o p (World.block_lt_of_cell? w _ h)]; exact h
theorem ad_keep {w : World} {o : Obj} {p : Addr} {v : Value} (h : w.drew.cell? p = some v) : (w.alloc o).drew.cell? p = some v := al_keep (w := w.drew) h
theorem below_al {w w' : World} {o : Obj} (hb : Below (w.alloc o).heap.size (w.alloc o) w') : Below w.heap.size w w' := (below_alloc w o).trans (hb.mono (by simp))
theorem below_ad {w w' : World} {o : Obj} (hb : Below (w.alloc o).drew.heap.size (w.alloc o).drew w') : Below w.drew.heap.size w.drew w' := below_al (w := w.drew) (o := o) hb
theorem FB.al {w w' : World} {s : Bool} {A B : Option Addr} {n c m d : Nat} (hb : Below (w.alloc (.cells #[.bool s, .slice A n c, .slice B m d] 27)).heap.size (w.alloc (.cells #[.bool s, .slice A n c, .slice B m d] 27)) w') : FB w' w.heap.size s A n c B m d := (FB.new w s A n c B m d).keep hb
theorem FB.ad {w w' : World} {s : Bool} {A B : Option Addr} {n c m d : Nat} (hb : Below (w.alloc (.cells #[.bool s, .slice A n c, .slice B m d] 27)).drew.heap.size (w.alloc (.cells #[.bool s, .slice A n c, .slice B m d] 27)).drew w') : FB w' w.heap.size s A n c B m d := (FB.new w s A n c B m d).drew.keep hb
theorem FB.off3 {w w1 : World} {g : Nat} {s : Bool} {A B : Option Addr} {n c m d : Nat} (h : FB w g s A n c B m d) {g' : Nat} (hg : w.grownBy w1 (some g')) (hne : g ≠ g') : FB w1 g s A n c B m d := (hg.block g h.lt (by intro e; injection e with e; exact hne e)).trans h
/-- A fraction read back from a variable of the call's own, and laid into the result. -/
theorem backFr {w wx : World} {T : Fr} {g r : Nat} {z : Bool} {X Y A B C D : Option Addr} {x1 x2 y1 y2 n c m d n' c' m' d' : Nat} {xs ys : List Nat} {u : Bool} (zB : Below w.heap.size w wx) (zF : FB wx g u C n' c' D m' d') (zR : FB wx r z X x1 x2 Y y1 y2) (zP : Num wx A n c xs T.p) (zQ : Num wx B m d ys T.q) (hr : w.heap.size ≤ r) (hg : r < g) :
    FB (stFr wx g T.s A n c B m d) g T.s A n c B m d ∧ FB (stFr wx g T.s A n c B m d) r z X x1 x2 Y y1 y2 ∧ Num (stFr wx g T.s A n c B m d) A n c xs T.p ∧ Num (stFr wx g T.s A n c B m d) B m d ys T.q ∧ Below w.heap.size w (stFr wx g T.s A n c B m d) :=
  ⟨zF.st _ _ _ _ _ _ _, zR.off3 (grown_st _ _ _ _ _ _ _ _ _) (by omega), zP.grown zF (grown_st _ _ _ _ _ _ _ _ _), zQ.grown zF (grown_st _ _ _ _ _ _ _ _ _), zB.trans (grown_below (grown_st _ _ _ _ _ _ _ _ _) (by omega) zB.size)⟩
set_option maxRecDepth 100000 in
set_option maxHeartbeats 4000000 in
theorem rmulFr_any (s s' : Bool) (A B A' B' : Option Addr) (n c m d n' c' m' d' p q p' q' i : Nat) (xs ys xs' ys' : List Nat) (w : World) (hx : Num w A n c xs p) (hy : Num w B m d ys q) (hx' : Num w A' n' c' xs' p') (hy' : Num w B' m' d' ys' q') (pp : p < 4294967296 ^ i) (pq : q < 4294967296 ^ i) (pp' : p' < 4294967296 ^ i) (pq' : q' < 4294967296 ^ i) (hi : i ≤ 40000) (hq : 0 < q) (hq' : 0 < q') (z : Bool) (hz : (s != s') = z) (T : Fr) (hT : Fr.mk' z (p * p') (q * q') = T) :
    Calls Tryz.prog 28 #[.agg #[.bool s, .slice A n c, .slice B m d], .agg #[.bool s', .slice A' n' c', .slice B' m' d']] w (GivesFr T w) := by
  have D0 : Hid (0 < q * q') := Lib.hid (Nat.mul_pos hq hq')
  have pN : Hid (p * p' < 4294967296 ^ (i + i)) := Lib.hid (pw_mul pp pp')
  have pD : Hid (q * q' < 4294967296 ^ (i + i)) := Lib.hid (pw_mul pq pq')
  have HT := Lib.hid hT
  have zB := (((Below.refl w.heap.size w).alloc (Nat.le_refl _) (.cells #[.bool s, .slice A n c, .slice B m d] 27)).alloc (by simp) (.cells #[.bool s', .slice A' n' c', .slice B' m' d'] 27)).alloc (by simp; omega) (.cells #[.bool false, .slice none 0 0, .slice none 0 0] 27)
  have zX := hx.keep zB
  have zY := hy.keep zB
  have zU := hx'.keep zB
  have zV := hy'.keep zB
  have zH := ((FB.new w s A n c B m d).alloc (.cells #[.bool s', .slice A' n' c', .slice B' m' d'] 27)).alloc (.cells #[.bool false, .slice none 0 0, .slice none 0 0] 27)
  have zK := (FB.new (w.alloc (.cells #[.bool s, .slice A n c, .slice B m d] 27)) s' A' n' c' B' m' d').alloc (.cells #[.bool false, .slice none 0 0, .slice none 0 0] 27)
  have zR := FB.new ((w.alloc (.cells #[.bool s, .slice A n c, .slice B m d] 27)).alloc (.cells #[.bool s', .slice A' n' c', .slice B' m' d'] 27)) false none 0 0 none 0 0
  rw [show (w.alloc (.cells #[.bool s, .slice A n c, .slice B m d] 27)).heap.size = w.heap.size + 1 by simp] at zK
  rw [show ((w.alloc (.cells #[.bool s, .slice A n c, .slice B m d] 27)).alloc (.cells #[.bool s', .slice A' n' c', .slice B' m' d'] 27)).heap.size = w.heap.size + 1 + 1 by simp] at zR
  have PP := Lib.hid pp
  have PQ := Lib.hid pq
  have PP' := Lib.hid pp'
  have PQ' := Lib.hid pq'
  clear hx hy hx' hy' pp pq pp' pq' hq hq' hT
  have hz1 : (!(s == s')) = z := hz
  clear hz
  go_enter Tryz.func28, Tryz.ntmps28
  go_wp2
  obtain ⟨W0, hv⟩ : ∃ v, ((w.alloc (.cells #[.bool s, .slice A n c, .slice B m d] 27)).alloc (.cells #[.bool s', .slice A' n' c', .slice B' m' d'] 27)).alloc (.cells #[.bool false, .slice none 0 0, .slice none 0 0] 27) = v := ⟨_, rfl⟩
  rw [hv]
  rw [hv] at zB zX zY zU zV zH zK zR
  clear hv
  replace zB := zB.drew
  replace zX := zX.drew_
  replace zY := zY.drew_
  replace zU := zU.drew_
  replace zV := zV.drew_
  replace zH := zH.drew
  replace zK := zK.drew
  replace zR := zR.drew
  obtain ⟨Ha, Hb, Hc, Hd, He, Hf⟩ := zH.facts
  obtain ⟨Ka, Kb, Kc, Kd, Ke, Kf⟩ := zK.facts
  obtain ⟨Ra, Rb, Rc, Rd, Re, Rf⟩ := zR.facts
  go_region_held3 (fun w' => w'.cell? ⟨w.heap.size, 0, none⟩ = some (.bool s) ∧ w'.cell? ⟨w.heap.size, 1, none⟩ = some (.slice A n c) ∧ w'.cell? ⟨w.heap.size, 2, none⟩ = some (.slice B m d) ∧ w'.cell? ⟨w.heap.size + 1, 0, none⟩ = some (.bool s') ∧ w'.cell? ⟨w.heap.size + 1, 1, none⟩ = some (.slice A' n' c') ∧ w'.cell? ⟨w.heap.size + 1, 2, none⟩ = some (.slice B' m' d')) (first | (with_reducible exact ⟨al_keep Ha, al_keep Hb, al_keep Hc, al_keep Ka, al_keep Kb, al_keep Kc⟩) | (with_reducible exact ⟨ad_keep Ha, ad_keep Hb, ad_keep Hc, ad_keep Ka, ad_keep Kb, ad_keep Kc⟩) | (with_reducible exact ⟨st3_keep (by omega) Ha, st3_keep (by omega) Hb, st3_keep (by omega) Hc, st3_keep (by omega) Ka, st3_keep (by omega) Kb, st3_keep (by omega) Kc⟩) | go_keep) (first | (go_at_call 51; (with_reducible refine (rmul_s zX zU PP.out PP'.out (by omega) (by omega)).mono ?_); rintro e wq ⟨AN, nN, cN, xN, rfl, hn, hb⟩; replace zX := zX.keep hb; replace zY := zY.keep hb; replace zU := zU.keep hb; replace zV := zV.keep hb; replace zH := zH.keep hb; replace zK := zK.keep hb; replace zR := zR.keep hb; replace zB := zB.trans (hb.mono zB.size); (try replace zN := zN.keep hb); (try replace zD := zD.keep hb); (try replace zP := zP.keep hb); (try replace zQ := zQ.keep hb); (try replace zF := zF.keep hb); have zN := hn; clear hb Ha Hb Hc Hd He Hf Ka Kb Kc Kd Ke Kf Ra Rb Rc Rd Re Rf hn; (try clear Fa Fb Fc Fd Fe Ff); obtain ⟨Ha, Hb, Hc, Hd, He, Hf⟩ := zH.facts; obtain ⟨Ka, Kb, Kc, Kd, Ke, Kf⟩ := zK.facts; obtain ⟨Ra, Rb, Rc, Rd, Re, Rf⟩ := zR.facts; (try obtain ⟨Fa, Fb, Fc, Fd, Fe, Ff⟩ := zF.facts)) | (go_at_call 51; (with_reducible refine (rmul_s (zX.al _) (zU.al _) PP.out PP'.out (by omega) (by omega)).mono ?_); rintro e wq ⟨AN, nN, cN, xN, rfl, hn, hb⟩; have zF := FB.al hb; have zL := zR.lt; replace hb := below_al hb; replace zX := zX.keep hb; replace zY := zY.keep hb; replace zU := zU.keep hb; replace zV := zV.keep hb; replace zH := zH.keep hb; replace zK := zK.keep hb; replace zR := zR.keep hb; replace zB := zB.trans (hb.mono zB.size); (try replace zN := zN.keep hb); (try replace zD := zD.keep hb); (try replace zP := zP.keep hb); (try replace zQ := zQ.keep hb); have zN := hn; clear hb Ha Hb Hc Hd He Hf Ka Kb Kc Kd Ke Kf Ra Rb Rc Rd Re Rf hn; (try clear Fa Fb Fc Fd Fe Ff); obtain ⟨Ha, Hb, Hc, Hd, He, Hf⟩ := zH.facts; obtain ⟨Ka, Kb, Kc, Kd, Ke, Kf⟩ := zK.facts; obtain ⟨Ra, Rb, Rc, Rd, Re, Rf⟩ := zR.facts; (try obtain ⟨Fa, Fb, Fc, Fd, Fe, Ff⟩ := zF.facts)) | (go_at_call 51; (with_reducible refine (rmul_s (zX.ad _) (zU.ad _) PP.out PP'.out (by omega) (by omega)).mono ?_); rintro e wq ⟨AN, nN, cN, xN, rfl, hn, hb⟩; have zF := FB.ad hb; have zL : w.heap.size + 1 + 1 < W0.heap.size := zR.lt; replace hb := below_ad hb; replace zX := zX.keep hb; replace zY := zY.keep hb; replace zU := zU.keep hb; replace zV := zV.keep hb; replace zH := zH.keep hb; replace zK := zK.keep hb; replace zR := zR.keep hb; replace zB := zB.trans (hb.mono zB.size); (try replace zN := zN.keep hb); (try replace zD := zD.keep hb); (try replace zP := zP.keep hb); (try replace zQ := zQ.keep hb); have zN := hn; clear hb Ha Hb Hc Hd He Hf Ka Kb Kc Kd Ke Kf Ra Rb Rc Rd Re Rf hn; (try clear Fa Fb Fc Fd Fe Ff); obtain ⟨Ha, Hb, Hc, Hd, He, Hf⟩ := zH.facts; obtain ⟨Ka, Kb, Kc, Kd, Ke, Kf⟩ := zK.facts; obtain ⟨Ra, Rb, Rc, Rd, Re, Rf⟩ := zR.facts; (try obtain ⟨Fa, Fb, Fc, Fd, Fe, Ff⟩ := zF.facts)) | (go_at_call 51; (with_reducible refine (rmul_s zY zV PQ.out PQ'.out (by omega) (by omega)).mono ?_); rintro e wq ⟨AD, nD, cD, xD, rfl, hn, hb⟩; replace zX := zX.keep hb; replace zY := zY.keep hb; replace zU := zU.keep hb; replace zV := zV.keep hb; replace zH := zH.keep hb; replace zK := zK.keep hb; replace zR := zR.keep hb; replace zB := zB.trans (hb.mono zB.size); (try replace zN := zN.keep hb); (try replace zD := zD.keep hb); (try replace zP := zP.keep hb); (try replace zQ := zQ.keep hb); (try replace zF := zF.keep hb); have zD := hn; clear hb Ha Hb Hc Hd He Hf Ka Kb Kc Kd Ke Kf Ra Rb Rc Rd Re Rf hn; (try clear Fa Fb Fc Fd Fe Ff); obtain ⟨Ha, Hb, Hc, Hd, He, Hf⟩ := zH.facts; obtain ⟨Ka, Kb, Kc, Kd, Ke, Kf⟩ := zK.facts; obtain ⟨Ra, Rb, Rc, Rd, Re, Rf⟩ := zR.facts; (try obtain ⟨Fa, Fb, Fc, Fd, Fe, Ff⟩ := zF.facts)) | (go_at_call 51; (with_reducible refine (rmul_s (zY.al _) (zV.al _) PQ.out PQ'.out (by omega) (by omega)).mono ?_); rintro e wq ⟨AD, nD, cD, xD, rfl, hn, hb⟩; have zF := FB.al hb; have zL := zR.lt; replace hb := below_al hb; replace zX := zX.keep hb; replace zY := zY.keep hb; replace zU := zU.keep hb; replace zV := zV.keep hb; replace zH := zH.keep hb; replace zK := zK.keep hb; replace zR := zR.keep hb; replace zB := zB.trans (hb.mono zB.size); (try replace zN := zN.keep hb); (try replace zD := zD.keep hb); (try replace zP := zP.keep hb); (try replace zQ := zQ.keep hb); have zD := hn; clear hb Ha Hb Hc Hd He Hf Ka Kb Kc Kd Ke Kf Ra Rb Rc Rd Re Rf hn; (try clear Fa Fb Fc Fd Fe Ff); obtain ⟨Ha, Hb, Hc, Hd, He, Hf⟩ := zH.facts; obtain ⟨Ka, Kb, Kc, Kd, Ke, Kf⟩ := zK.facts; obtain ⟨Ra, Rb, Rc, Rd, Re, Rf⟩ := zR.facts; (try obtain ⟨Fa, Fb, Fc, Fd, Fe, Ff⟩ := zF.facts)) | (go_at_call 51; (with_reducible refine (rmul_s (zY.ad _) (zV.ad _) PQ.out PQ'.out (by omega) (by omega)).mono ?_); rintro e wq ⟨AD, nD, cD, xD, rfl, hn, hb⟩; have zF := FB.ad hb; have zL : w.heap.size + 1 + 1 < W0.heap.size := zR.lt; replace hb := below_ad hb; replace zX := zX.keep hb; replace zY := zY.keep hb; replace zU := zU.keep hb; replace zV := zV.keep hb; replace zH := zH.keep hb; replace zK := zK.keep hb; replace zR := zR.keep hb; replace zB := zB.trans (hb.mono zB.size); (try replace zN := zN.keep hb); (try replace zD := zD.keep hb); (try replace zP := zP.keep hb); (try replace zQ := zQ.keep hb); have zD := hn; clear hb Ha Hb Hc Hd He Hf Ka Kb Kc Kd Ke Kf Ra Rb Rc Rd Re Rf hn; (try clear Fa Fb Fc Fd Fe Ff); obtain ⟨Ha, Hb, Hc, Hd, He, Hf⟩ := zH.facts; obtain ⟨Ka, Kb, Kc, Kd, Ke, Kf⟩ := zK.facts; obtain ⟨Ra, Rb, Rc, Rd, Re, Rf⟩ := zR.facts; (try obtain ⟨Fa, Fb, Fc, Fd, Fe, Ff⟩ := zF.facts)) | (go_at_call 33; (with_reducible refine (rmake_s zN zD D0.out pN.out pD.out (by omega) HT.out).mono ?_); rintro e wq ⟨AP, nP, cP, xP, AQ, nQ, cQ, xQ, rfl, hn, hn', hb⟩; replace zX := zX.keep hb; replace zY := zY.keep hb; replace zU := zU.keep hb; replace zV := zV.keep hb; replace zH := zH.keep hb; replace zK := zK.keep hb; replace zR := zR.keep hb; replace zB := zB.trans (hb.mono zB.size); (try replace zN := zN.keep hb); (try replace zD := zD.keep hb); (try replace zP := zP.keep hb); (try replace zQ := zQ.keep hb); (try replace zF := zF.keep hb); have zP := hn; have zQ := hn'; clear hb Ha Hb Hc Hd He Hf Ka Kb Kc Kd Ke Kf Ra Rb Rc Rd Re Rf hn hn'; (try clear Fa Fb Fc Fd Fe Ff); obtain ⟨Ha, Hb, Hc, Hd, He, Hf⟩ := zH.facts; obtain ⟨Ka, Kb, Kc, Kd, Ke, Kf⟩ := zK.facts; obtain ⟨Ra, Rb, Rc, Rd, Re, Rf⟩ := zR.facts; (try obtain ⟨Fa, Fb, Fc, Fd, Fe, Ff⟩ := zF.facts)) | (go_at_call 33; (with_reducible refine (rmake_s (zN.al _) (zD.al _) D0.out pN.out pD.out (by omega) HT.out).mono ?_); rintro e wq ⟨AP, nP, cP, xP, AQ, nQ, cQ, xQ, rfl, hn, hn', hb⟩; have zF := FB.al hb; have zL := zR.lt; replace hb := below_al hb; replace zX := zX.keep hb; replace zY := zY.keep hb; replace zU := zU.keep hb; replace zV := zV.keep hb; replace zH := zH.keep hb; replace zK := zK.keep hb; replace zR := zR.keep hb; replace zB := zB.trans (hb.mono zB.size); (try replace zN := zN.keep hb); (try replace zD := zD.keep hb); (try replace zP := zP.keep hb); (try replace zQ := zQ.keep hb); have zP := hn; have zQ := hn'; clear hb Ha Hb Hc Hd He Hf Ka Kb Kc Kd Ke Kf Ra Rb Rc Rd Re Rf hn hn'; (try clear Fa Fb Fc Fd Fe Ff); obtain ⟨Ha, Hb, Hc, Hd, He, Hf⟩ := zH.facts; obtain ⟨Ka, Kb, Kc, Kd, Ke, Kf⟩ := zK.facts; obtain ⟨Ra, Rb, Rc, Rd, Re, Rf⟩ := zR.facts; (try obtain ⟨Fa, Fb, Fc, Fd, Fe, Ff⟩ := zF.facts)))
  · have k1 := FB.new wq T.s AP nP cP AQ nQ cQ
    have k2 := zR.alloc (.cells #[.bool T.s, .slice AP nP cP, .slice AQ nQ cQ] 27)
    have k3 := zP.al (.cells #[.bool T.s, .slice AP nP cP, .slice AQ nQ cQ] 27)
    have k4 := zQ.al (.cells #[.bool T.s, .slice AP nP cP, .slice AQ nQ cQ] 27)
    have k5 := zB.alloc zB.size (.cells #[.bool T.s, .slice AP nP cP, .slice AQ nQ cQ] 27)
    refine name_world (fun wx hw => ?_)
    rw [← hw] at k1 k2 k3 k4 k5
    clear hw zR zP zQ zB zH zK zX zY zU zV Ha Hb Hc Hd He Hf Ka Kb Kc Kd Ke Kf Ra Rb Rc Rd Re Rf
    obtain ⟨Fa, Fb, Fc, Fd, Fe, Ff⟩ := k1.facts
    obtain ⟨Ra, Rb, Rc, Rd, Re, Rf⟩ := k2.facts
    go_wp2
    refine bodyPost_ret (v := .agg #[.bool T.s, .slice AP nP cP, .slice AQ nQ cQ]) (by simp [results, Tryz.results28, go_sem, Ra, Rb, Rc]) rfl ?_
    exact giveFr (t := T) k5 (by omega) k2 k3 k4
  all_goals
    obtain ⟨k1, k2, k3, k4, k5⟩ := backFr zB zF zR zP zQ (by omega) (by omega)
    refine name_world (fun wx hw => ?_)
    have hw' : stFr wq _ T.s AP nP cP AQ nQ cQ = wx := hw.symm
    rw [hw'] at k1 k2 k3 k4 k5
    clear hw hw' zR zP zQ zB zH zK zX zY zU zV zF Ha Hb Hc Hd He Hf Ka Kb Kc Kd Ke Kf Ra Rb Rc Rd Re Rf Fa Fb Fc Fd Fe Ff
    obtain ⟨Fa, Fb, Fc, Fd, Fe, Ff⟩ := k1.facts
    obtain ⟨Ra, Rb, Rc, Rd, Re, Rf⟩ := k2.facts
    go_wp2
    refine bodyPost_ret (v := .agg #[.bool T.s, .slice AP nP cP, .slice AQ nQ cQ]) (by simp [results, Tryz.results28, go_sem, Ra, Rb, Rc]) rfl ?_
    exact giveFr (t := T) k5 (by omega) k2 k3 k4
end Go.Proofs.YtebfnbnaheolgaaGreatDoor
