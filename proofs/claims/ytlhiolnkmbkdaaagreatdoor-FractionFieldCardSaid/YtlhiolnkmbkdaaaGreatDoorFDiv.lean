/- Contracts of fraction.Sub, Div, and of Cmp where the signs are equal: no claim of its own. -/
import Derived.Test.YtlhiolnkmbkdaaaGreatDoorMulF
import Derived.Test.YtlhiolnkmbkdaaaGreatDoorFSame
namespace Go.Proofs.YtlhiolnkmbkdaaaGreatDoor
open Go.RowKit
theorem opp_s {s : Bool} {A B : Option Addr} {n c m d p q i : Nat} {xs ys : List Nat} {w : World} (hx : Num w A n c xs p) (hy : Num w B m d ys q) (pp : p < 4294967296 ^ i) (hi : i ≤ 900000) {T : Fr} (hT : Fr.neg ⟨s, p, q⟩ = T) :
    Calls Tryz.prog 49 #[.agg #[.bool s, .slice A n c, .slice B m d]] w (GivesFr T w) := by
  subst hT; exact opp_any s A B n c m d p q xs ys w hx hy (hx.sh pp hi)
set_option maxRecDepth 100000 in
set_option maxHeartbeats 2000000 in
theorem subFr_any (s s' : Bool) (A B A' B' : Option Addr) (n c m d n' c' m' d' p q p' q' i : Nat) (xs ys xs' ys' : List Nat) (w : World) (hx : Num w A n c xs p) (hy : Num w B m d ys q) (hx' : Num w A' n' c' xs' p') (hy' : Num w B' m' d' ys' q') (pp : p < 4294967296 ^ i) (pq : q < 4294967296 ^ i) (pp' : p' < 4294967296 ^ i) (pq' : q' < 4294967296 ^ i) (hi : i ≤ 100000) (ok : Fr.Ok ⟨s, p, q⟩) (ok' : Fr.Ok ⟨s', p', q'⟩) (T : Fr) (hT : Fr.neg ⟨s', p', q'⟩ = T) :
    Calls Tryz.prog 14 #[.agg #[.bool s, .slice A n c, .slice B m d], .agg #[.bool s', .slice A' n' c', .slice B' m' d']] w (GivesFr (Fr.add ⟨s, p, q⟩ T) w) := by
  have hT1 : Hid (Fr.Ok ⟨T.s, T.p, T.q⟩) := Lib.hid (by rw [← hT]; exact Fr.neg_ok ok')
  have hT2 : Hid (T.p < 4294967296 ^ i) := Lib.hid (by rw [← hT]; exact pp')
  have hT3 : Hid (T.q < 4294967296 ^ i) := Lib.hid (by rw [← hT]; exact pq')
  have HT := Lib.hid hT
  have zB := (((Below.refl w.heap.size w).alloc (Nat.le_refl _) (.cells #[.bool s, .slice A n c, .slice B m d] 25)).alloc (by simp) (.cells #[.bool s', .slice A' n' c', .slice B' m' d'] 25)).alloc (by simp; omega) (.cells #[.bool false, .slice none 0 0, .slice none 0 0] 25)
  have zX := hx.keep zB
  have zY := hy.keep zB
  have zU := hx'.keep zB
  have zV := hy'.keep zB
  have zH := ((FB.new w s A n c B m d).alloc (.cells #[.bool s', .slice A' n' c', .slice B' m' d'] 25)).alloc (.cells #[.bool false, .slice none 0 0, .slice none 0 0] 25)
  have zK := (FB.new (w.alloc (.cells #[.bool s, .slice A n c, .slice B m d] 25)) s' A' n' c' B' m' d').alloc (.cells #[.bool false, .slice none 0 0, .slice none 0 0] 25)
  have zR := FB.new ((w.alloc (.cells #[.bool s, .slice A n c, .slice B m d] 25)).alloc (.cells #[.bool s', .slice A' n' c', .slice B' m' d'] 25)) false none 0 0 none 0 0
  rw [show (w.alloc (.cells #[.bool s, .slice A n c, .slice B m d] 25)).heap.size = w.heap.size + 1 by simp] at zK
  rw [show ((w.alloc (.cells #[.bool s, .slice A n c, .slice B m d] 25)).alloc (.cells #[.bool s', .slice A' n' c', .slice B' m' d'] 25)).heap.size = w.heap.size + 1 + 1 by simp] at zR
  replace zB := zB.drew
  replace zX := zX.drew_
  replace zY := zY.drew_
  replace zU := zU.drew_
  replace zV := zV.drew_
  replace zH := zH.drew
  replace zK := zK.drew
  replace zR := zR.drew
  have PP := Lib.hid pp
  have PQ := Lib.hid pq
  have PP' := Lib.hid pp'
  have OK := Lib.hid ok
  clear hx hy hx' hy' pp pq pp' pq' ok ok' hT
  go_enter Tryz.func14, Tryz.ntmps14
  go_wp2
  obtain ⟨Ha, Hb, Hc, Hd, He, Hf⟩ := zH.facts
  obtain ⟨Ka, Kb, Kc, Kd, Ke, Kf⟩ := zK.facts
  obtain ⟨Ra, Rb, Rc, Rd, Re, Rf⟩ := zR.facts
  go_region_held3 (fun w' => w'.cell? ⟨w.heap.size, 0, none⟩ = some (.bool s) ∧ w'.cell? ⟨w.heap.size, 1, none⟩ = some (.slice A n c) ∧ w'.cell? ⟨w.heap.size, 2, none⟩ = some (.slice B m d) ∧ w'.cell? ⟨w.heap.size + 1, 0, none⟩ = some (.bool s') ∧ w'.cell? ⟨w.heap.size + 1, 1, none⟩ = some (.slice A' n' c') ∧ w'.cell? ⟨w.heap.size + 1, 2, none⟩ = some (.slice B' m' d')) (first | (with_reducible exact ⟨st3_keep (by omega) Ha, st3_keep (by omega) Hb, st3_keep (by omega) Hc, st3_keep (by omega) Ka, st3_keep (by omega) Kb, st3_keep (by omega) Kc⟩) | go_keep) (first | (go_at_call 49; (with_reducible refine (opp_s zU zV PP'.out (by omega) HT.out).mono ?_); rintro e wq ⟨AE, nE, cE, xE, AG, nG, cG, xG, rfl, hn, hn', hb⟩; replace zX := zX.keep hb; replace zY := zY.keep hb; replace zU := zU.keep hb; replace zV := zV.keep hb; replace zH := zH.keep hb; replace zK := zK.keep hb; replace zR := zR.keep hb; replace zB := zB.trans (hb.mono zB.size); have zE := hn; have zG := hn'; clear hb Ha Hb Hc Hd He Hf Ka Kb Kc Kd Ke Kf Ra Rb Rc Rd Re Rf hn hn'; obtain ⟨Ha, Hb, Hc, Hd, He, Hf⟩ := zH.facts; obtain ⟨Ka, Kb, Kc, Kd, Ke, Kf⟩ := zK.facts; obtain ⟨Ra, Rb, Rc, Rd, Re, Rf⟩ := zR.facts) | (go_at_call 10; (with_reducible refine (addFr_any s T.s A B AE AG n c m d nE cE nG cG p q T.p T.q i xs ys xE xG _ zX zY zE zG OK.out hT1.out PP.out PQ.out hT2.out hT3.out hi).mono ?_); rintro e wq ⟨AP, nP, cP, xP, AQ, nQ, cQ, xQ, rfl, hn, hn', hb⟩; replace zX := zX.keep hb; replace zY := zY.keep hb; replace zU := zU.keep hb; replace zV := zV.keep hb; replace zH := zH.keep hb; replace zK := zK.keep hb; replace zR := zR.keep hb; replace zB := zB.trans (hb.mono zB.size); have zP := hn; have zQ := hn'; clear hb Ha Hb Hc Hd He Hf Ka Kb Kc Kd Ke Kf Ra Rb Rc Rd Re Rf hn hn'; obtain ⟨Ha, Hb, Hc, Hd, He, Hf⟩ := zH.facts; obtain ⟨Ka, Kb, Kc, Kd, Ke, Kf⟩ := zK.facts; obtain ⟨Ra, Rb, Rc, Rd, Re, Rf⟩ := zR.facts))
  all_goals go_wp2
  all_goals refine bodyPost_ret (v := .agg #[.bool (Fr.add ⟨s, p, q⟩ T).s, .slice AP nP cP, .slice AQ nQ cQ]) (by simp [results, Tryz.results14, go_sem, Ra, Rb, Rc]) rfl ?_
  all_goals exact giveFr (t := Fr.add ⟨s, p, q⟩ T) zB (by omega) zR zP zQ
set_option maxRecDepth 100000 in
set_option maxHeartbeats 1000000 in
theorem divFr_zero (s s' : Bool) (A B A' B' : Option Addr) (n c m d n' c' m' d' p q p' q' i : Nat) (xs ys xs' ys' : List Nat) (w : World) (hx : Num w A n c xs p) (hy : Num w B m d ys q) (hx' : Num w A' n' c' xs' p') (hy' : Num w B' m' d' ys' q') (pp' : p' < 4294967296 ^ i) (hi : i ≤ 100000) (h0 : p' = 0) : Calls Tryz.prog 17 #[.agg #[.bool s, .slice A n c, .slice B m d], .agg #[.bool s', .slice A' n' c', .slice B' m' d']] w (GivesFrE ⟨false, 0, 0⟩ 8 w) := by
  have zB := (((Below.refl w.heap.size w).alloc (Nat.le_refl _) (.cells #[.bool s, .slice A n c, .slice B m d] 25)).alloc (by simp) (.cells #[.bool s', .slice A' n' c', .slice B' m' d'] 25)).alloc (by simp; omega) (.cells #[.bool false, .slice none 0 0, .slice none 0 0] 25)
  have zX := hx.keep zB
  have zY := hy.keep zB
  have zU := hx'.keep zB
  have zV := hy'.keep zB
  have zH := ((FB.new w s A n c B m d).alloc (.cells #[.bool s', .slice A' n' c', .slice B' m' d'] 25)).alloc (.cells #[.bool false, .slice none 0 0, .slice none 0 0] 25)
  have zK := (FB.new (w.alloc (.cells #[.bool s, .slice A n c, .slice B m d] 25)) s' A' n' c' B' m' d').alloc (.cells #[.bool false, .slice none 0 0, .slice none 0 0] 25)
  have zR := FB.new ((w.alloc (.cells #[.bool s, .slice A n c, .slice B m d] 25)).alloc (.cells #[.bool s', .slice A' n' c', .slice B' m' d'] 25)) false none 0 0 none 0 0
  rw [show (w.alloc (.cells #[.bool s, .slice A n c, .slice B m d] 25)).heap.size = w.heap.size + 1 by simp] at zK
  rw [show ((w.alloc (.cells #[.bool s, .slice A n c, .slice B m d] 25)).alloc (.cells #[.bool s', .slice A' n' c', .slice B' m' d'] 25)).heap.size = w.heap.size + 1 + 1 by simp] at zR
  have zt := Lib.hid (decide_eq_true h0)
  have PP' := Lib.hid pp'
  have HB := Lib.hid zB
  have HU := Lib.hid zU
  have HR := Lib.hid zR
  have HK := Lib.hid zK
  clear hx hy hx' hy' pp' h0 zB zX zY zU zV zH zK zR
  obtain ⟨Ka, Kb, Kc, _, _, _⟩ := HK.out.facts
  go_enter Tryz.func17, Tryz.ntmps17
  go_wp2_with fail
  refine (isZero_s HU.out PP'.out (by omega) zt.out).mono ?_
  rintro e w' ⟨rfl, rfl⟩
  obtain ⟨Ra, Rb, Rc, Rd, Re, Rf⟩ := HR.out.facts
  go_wp2
  refine bodyPost_ret (v := .tuple #[.agg #[.bool false, .slice none 0 0, .slice none 0 0], .int .i64 8]) (by simp [results, Tryz.results17, go_sem, Ra, Rb, Rc]) rfl ?_
  exact ⟨none, 0, 0, [], none, 0, 0, [], rfl, Num.zero _, Num.zero _, HB.out⟩
set_option maxRecDepth 100000 in
set_option maxHeartbeats 2000000 in
theorem divFr_pos (s s' : Bool) (A B A' B' : Option Addr) (n c m d n' c' m' d' p q p' q' i : Nat) (xs ys xs' ys' : List Nat) (w : World) (hx : Num w A n c xs p) (hy : Num w B m d ys q) (hx' : Num w A' n' c' xs' p') (hy' : Num w B' m' d' ys' q') (pp : p < 4294967296 ^ i) (pq : q < 4294967296 ^ i) (pp' : p' < 4294967296 ^ i) (pq' : q' < 4294967296 ^ i) (hi : i ≤ 100000) (ok : Fr.Ok ⟨s, p, q⟩) (ok' : Fr.Ok ⟨s', p', q'⟩) (h0 : 0 < p') (T : Fr) (hT : Fr.div ⟨s, p, q⟩ ⟨s', p', q'⟩ = T) : Calls Tryz.prog 17 #[.agg #[.bool s, .slice A n c, .slice B m d], .agg #[.bool s', .slice A' n' c', .slice B' m' d']] w (GivesFrE T 0 w) := by
  have zB := (((Below.refl w.heap.size w).alloc (Nat.le_refl _) (.cells #[.bool s, .slice A n c, .slice B m d] 25)).alloc (by simp) (.cells #[.bool s', .slice A' n' c', .slice B' m' d'] 25)).alloc (by simp; omega) (.cells #[.bool false, .slice none 0 0, .slice none 0 0] 25)
  have zX := hx.keep zB
  have zY := hy.keep zB
  have zU := hx'.keep zB
  have zV := hy'.keep zB
  have zH := ((FB.new w s A n c B m d).alloc (.cells #[.bool s', .slice A' n' c', .slice B' m' d'] 25)).alloc (.cells #[.bool false, .slice none 0 0, .slice none 0 0] 25)
  have zK := (FB.new (w.alloc (.cells #[.bool s, .slice A n c, .slice B m d] 25)) s' A' n' c' B' m' d').alloc (.cells #[.bool false, .slice none 0 0, .slice none 0 0] 25)
  have zR := FB.new ((w.alloc (.cells #[.bool s, .slice A n c, .slice B m d] 25)).alloc (.cells #[.bool s', .slice A' n' c', .slice B' m' d'] 25)) false none 0 0 none 0 0
  rw [show (w.alloc (.cells #[.bool s, .slice A n c, .slice B m d] 25)).heap.size = w.heap.size + 1 by simp] at zK
  rw [show ((w.alloc (.cells #[.bool s, .slice A n c, .slice B m d] 25)).alloc (.cells #[.bool s', .slice A' n' c', .slice B' m' d'] 25)).heap.size = w.heap.size + 1 + 1 by simp] at zR
  have zf : Hid (decide (p' = 0) = false) := Lib.hid (decide_eq_false (by omega))
  have PP' := Lib.hid pp'
  have HB := Lib.hid zB
  have HX := Lib.hid zX
  have HY := Lib.hid zY
  have HU := Lib.hid zU
  have HV := Lib.hid zV
  have HR := Lib.hid zR
  have HH := Lib.hid zH
  have HK := Lib.hid zK
  have M : Hid (∀ W, Num W A n c xs p → Num W B m d ys q → Num W A' n' c' xs' p' → Num W B' m' d' ys' q' → Calls Tryz.prog 11 #[.agg #[.bool s, .slice A n c, .slice B m d], .agg #[.bool s', .slice B' m' d', .slice A' n' c']] W (GivesFr T W)) := Lib.hid fun W h1 h2 h3 h4 =>
    (mulFr_any s s' A B B' A' n c m d m' d' n' c' p q q' p' i xs ys ys' xs' W h1 h2 h4 h3 pp pq pq' pp' hi ok (Fr.inv_ok ok' h0)).mono fun _ _ g => g.eq hT
  clear hx hy hx' hy' pp pq pp' pq' h0 zB zX zY zU zV zH zK zR ok ok' hT
  obtain ⟨Ha, Hb, Hc, _, _, _⟩ := HH.out.facts
  obtain ⟨Ka, Kb, Kc, _, _, _⟩ := HK.out.facts
  go_enter Tryz.func17, Tryz.ntmps17
  go_wp2_with fail
  refine (isZero_s HU.out PP'.out (by omega) zf.out).mono ?_
  rintro e w' ⟨rfl, rfl⟩
  go_wp2_with fail
  refine (M.out _ HX.out HY.out HU.out HV.out).mono ?_
  rintro e w2 ⟨AP, nP, cP, xP, AQ, nQ, cQ, xQ, rfl, hn, hn', hb⟩
  have P2 := Lib.hid hn
  have Q2 := Lib.hid hn'
  have R2 := Lib.hid (HR.out.keep hb)
  have B2 := Lib.hid (HB.out.trans (hb.mono HB.out.size))
  clear hn hn' hb Ha Hb Hc Ka Kb Kc HX HY HU HV HH HK HR HB
  obtain ⟨Ra, Rb, Rc, Rd, Re, Rf⟩ := R2.out.facts
  go_wp2
  refine bodyPost_ret (v := .tuple #[.agg #[.bool T.s, .slice AP nP cP, .slice AQ nQ cQ], .int .i64 0]) (by simp [results, Tryz.results17, go_sem, Ra, Rb, Rc]) rfl ?_
  exact giveFrE (t := T) (k := 0) B2.out (by omega) R2.out P2.out Q2.out
set_option maxRecDepth 100000 in
set_option maxHeartbeats 2000000 in
theorem fcmp_neg (s s' : Bool) (A B A' B' : Option Addr) (n c m d n' c' m' d' p q p' q' i : Nat) (xs ys xs' ys' : List Nat) (w : World) (hx : Num w A n c xs p) (hy : Num w B m d ys q) (hx' : Num w A' n' c' xs' p') (hy' : Num w B' m' d' ys' q') (pp : p < 4294967296 ^ i) (pq : q < 4294967296 ^ i) (pp' : p' < 4294967296 ^ i) (pq' : q' < 4294967296 ^ i) (hi : i ≤ 100000) (l : Int) (hl : sgn s p = l) (hr : sgn s' p' = l) (h : l < 0) (v : Int) (hv : cmpI (p * q') (p' * q) = v) (hv1 : -1 ≤ v ∧ v ≤ 1) :
    Calls Tryz.prog 20 #[.agg #[.bool s, .slice A n c, .slice B m d], .agg #[.bool s', .slice A' n' c', .slice B' m' d']] w (Gives (.int .i64 (-v)) w) := by
  have b0 := ((Below.refl w.heap.size w).alloc (Nat.le_refl _) (.cells #[.bool s, .slice A n c, .slice B m d] 25)).alloc (by simp) (.cells #[.bool s', .slice A' n' c', .slice B' m' d'] 25)
  have zB := b0.drew
  have zX := hx.keep zB
  have zY := hy.keep zB
  have zU := hx'.keep zB
  have zV := hy'.keep zB
  have zH := ((FB.new w s A n c B m d).alloc (.cells #[.bool s', .slice A' n' c', .slice B' m' d'] 25)).drew
  have zK := (FB.new (w.alloc (.cells #[.bool s, .slice A n c, .slice B m d] 25)) s' A' n' c' B' m' d').drew
  rw [show (w.alloc (.cells #[.bool s, .slice A n c, .slice B m d] 25)).heap.size = w.heap.size + 1 by simp] at zK
  have SX : Hid (∀ W, Num W A n c xs p → Calls Tryz.prog 22 #[.agg #[.bool s, .slice A n c, .slice B m d]] W (Gives (.int .i64 l) W)) := Lib.hid fun W k => by rw [← hl]; exact signFr_any s A B n c m d p i xs W k pp (by omega)
  have SU : Hid (∀ W, Num W A' n' c' xs' p' → Calls Tryz.prog 22 #[.agg #[.bool s', .slice A' n' c', .slice B' m' d']] W (Gives (.int .i64 l) W)) := Lib.hid fun W k => by rw [← hr]; exact signFr_any s' A' B' n' c' m' d' p' i xs' W k pp' (by omega)
  have PP := Lib.hid pp
  have PQ := Lib.hid pq
  have PP' := Lib.hid pp'
  have PQ' := Lib.hid pq'
  have CV := Lib.hid (fun (A1 B1 : Option Addr) (n1 c1 m1 d1 : Nat) (x1 y1 : List Nat) (W : World) (h1 : Num W A1 n1 c1 x1 (p * q')) (h2 : Num W B1 m1 d1 y1 (p' * q)) => hv ▸ cmp_any A1 B1 n1 c1 m1 d1 _ _ x1 y1 W h1 h2)
  clear hx hy hx' hy' pp pq pp' pq' hl hr b0 hv
  obtain ⟨Ha, Hb, Hc, _, _, _⟩ := zH.facts
  obtain ⟨Ka, Kb, Kc, _, _, _⟩ := zK.facts
  go_enter Tryz.func20, Tryz.ntmps20
  go_wp2
  go_region_held3 (fun w' => w'.cell? ⟨w.heap.size, 0, none⟩ = some (.bool s) ∧ w'.cell? ⟨w.heap.size, 1, none⟩ = some (.slice A n c) ∧ w'.cell? ⟨w.heap.size, 2, none⟩ = some (.slice B m d) ∧ w'.cell? ⟨w.heap.size + 1, 0, none⟩ = some (.bool s') ∧ w'.cell? ⟨w.heap.size + 1, 1, none⟩ = some (.slice A' n' c') ∧ w'.cell? ⟨w.heap.size + 1, 2, none⟩ = some (.slice B' m' d')) (go_keep) (first | (go_at_call 22; (with_reducible refine (SX.out _ zX).mono ?_); rintro e wq ⟨rfl, hb⟩; replace zX := zX.keep hb; replace zY := zY.keep hb; replace zU := zU.keep hb; replace zV := zV.keep hb; replace zH := zH.keep hb; replace zK := zK.keep hb; replace zB := zB.trans (hb.mono zB.size); (try replace zL := zL.keep hb); (try replace zM := zM.keep hb); clear hb; clear Ha Hb Hc Ka Kb Kc; obtain ⟨Ha, Hb, Hc, _, _, _⟩ := zH.facts; obtain ⟨Ka, Kb, Kc, _, _, _⟩ := zK.facts) | (go_at_call 22; (with_reducible refine (SU.out _ zU).mono ?_); rintro e wq ⟨rfl, hb⟩; replace zX := zX.keep hb; replace zY := zY.keep hb; replace zU := zU.keep hb; replace zV := zV.keep hb; replace zH := zH.keep hb; replace zK := zK.keep hb; replace zB := zB.trans (hb.mono zB.size); (try replace zL := zL.keep hb); (try replace zM := zM.keep hb); clear hb; clear Ha Hb Hc Ka Kb Kc; obtain ⟨Ha, Hb, Hc, _, _, _⟩ := zH.facts; obtain ⟨Ka, Kb, Kc, _, _, _⟩ := zK.facts))
  go_wp2_with fail
  replace zX := zX.drew_
  replace zY := zY.drew_
  replace zU := zU.drew_
  replace zV := zV.drew_
  replace zH := zH.drew
  replace zK := zK.drew
  replace zB := zB.drew
  clear Ha Hb Hc Ka Kb Kc
  obtain ⟨Ha, Hb, Hc, _, _, _⟩ := zH.facts
  obtain ⟨Ka, Kb, Kc, _, _, _⟩ := zK.facts
  go_region_held3 (fun w' => w'.cell? ⟨w.heap.size, 1, none⟩ = some (.slice A n c) ∧ w'.cell? ⟨w.heap.size, 2, none⟩ = some (.slice B m d) ∧ w'.cell? ⟨w.heap.size + 1, 1, none⟩ = some (.slice A' n' c') ∧ w'.cell? ⟨w.heap.size + 1, 2, none⟩ = some (.slice B' m' d')) (go_keep) (first | (go_at_call 44; (with_reducible refine (mul_s zX zV PP.out PQ'.out (by omega) (by omega)).mono ?_); rintro e wq ⟨AL, nL, cL, xL, rfl, hn, hb⟩; replace zX := zX.keep hb; replace zY := zY.keep hb; replace zU := zU.keep hb; replace zV := zV.keep hb; replace zH := zH.keep hb; replace zK := zK.keep hb; replace zB := zB.trans (hb.mono zB.size); (try replace zL := zL.keep hb); (try replace zM := zM.keep hb); have zL := hn; clear hn hb; clear Ha Hb Hc Ka Kb Kc; obtain ⟨Ha, Hb, Hc, _, _, _⟩ := zH.facts; obtain ⟨Ka, Kb, Kc, _, _, _⟩ := zK.facts) | (go_at_call 44; (with_reducible refine (mul_s zU zY PP'.out PQ.out (by omega) (by omega)).mono ?_); rintro e wq ⟨AM, nM, cM, xM, rfl, hn, hb⟩; replace zX := zX.keep hb; replace zY := zY.keep hb; replace zU := zU.keep hb; replace zV := zV.keep hb; replace zH := zH.keep hb; replace zK := zK.keep hb; replace zB := zB.trans (hb.mono zB.size); (try replace zL := zL.keep hb); (try replace zM := zM.keep hb); have zM := hn; clear hn hb; clear Ha Hb Hc Ka Kb Kc; obtain ⟨Ha, Hb, Hc, _, _, _⟩ := zH.facts; obtain ⟨Ka, Kb, Kc, _, _, _⟩ := zK.facts) | (go_at_call 53; (with_reducible refine (CV.out _ _ _ _ _ _ _ _ _ zL zM).mono ?_); rintro e wq ⟨rfl, hb⟩; replace zX := zX.keep hb; replace zY := zY.keep hb; replace zU := zU.keep hb; replace zV := zV.keep hb; replace zH := zH.keep hb; replace zK := zK.keep hb; replace zB := zB.trans (hb.mono zB.size); (try replace zL := zL.keep hb); (try replace zM := zM.keep hb); clear hb; clear Ha Hb Hc Ka Kb Kc; obtain ⟨Ha, Hb, Hc, _, _, _⟩ := zH.facts; obtain ⟨Ka, Kb, Kc, _, _, _⟩ := zK.facts))
  all_goals go_wp2
  all_goals go_ret
  all_goals exact ⟨rfl, zB⟩
set_option maxRecDepth 100000 in
set_option maxHeartbeats 2000000 in
theorem fcmp_pos (s s' : Bool) (A B A' B' : Option Addr) (n c m d n' c' m' d' p q p' q' i : Nat) (xs ys xs' ys' : List Nat) (w : World) (hx : Num w A n c xs p) (hy : Num w B m d ys q) (hx' : Num w A' n' c' xs' p') (hy' : Num w B' m' d' ys' q') (pp : p < 4294967296 ^ i) (pq : q < 4294967296 ^ i) (pp' : p' < 4294967296 ^ i) (pq' : q' < 4294967296 ^ i) (hi : i ≤ 100000) (l : Int) (hl : sgn s p = l) (hr : sgn s' p' = l) (h : 0 ≤ l) (v : Int) (hv : cmpI (p * q') (p' * q) = v) :
    Calls Tryz.prog 20 #[.agg #[.bool s, .slice A n c, .slice B m d], .agg #[.bool s', .slice A' n' c', .slice B' m' d']] w (Gives (.int .i64 (v)) w) := by
  have b0 := ((Below.refl w.heap.size w).alloc (Nat.le_refl _) (.cells #[.bool s, .slice A n c, .slice B m d] 25)).alloc (by simp) (.cells #[.bool s', .slice A' n' c', .slice B' m' d'] 25)
  have zB := b0.drew
  have zX := hx.keep zB
  have zY := hy.keep zB
  have zU := hx'.keep zB
  have zV := hy'.keep zB
  have zH := ((FB.new w s A n c B m d).alloc (.cells #[.bool s', .slice A' n' c', .slice B' m' d'] 25)).drew
  have zK := (FB.new (w.alloc (.cells #[.bool s, .slice A n c, .slice B m d] 25)) s' A' n' c' B' m' d').drew
  rw [show (w.alloc (.cells #[.bool s, .slice A n c, .slice B m d] 25)).heap.size = w.heap.size + 1 by simp] at zK
  have SX : Hid (∀ W, Num W A n c xs p → Calls Tryz.prog 22 #[.agg #[.bool s, .slice A n c, .slice B m d]] W (Gives (.int .i64 l) W)) := Lib.hid fun W k => by rw [← hl]; exact signFr_any s A B n c m d p i xs W k pp (by omega)
  have SU : Hid (∀ W, Num W A' n' c' xs' p' → Calls Tryz.prog 22 #[.agg #[.bool s', .slice A' n' c', .slice B' m' d']] W (Gives (.int .i64 l) W)) := Lib.hid fun W k => by rw [← hr]; exact signFr_any s' A' B' n' c' m' d' p' i xs' W k pp' (by omega)
  have PP := Lib.hid pp
  have PQ := Lib.hid pq
  have PP' := Lib.hid pp'
  have PQ' := Lib.hid pq'
  have CV := Lib.hid (fun (A1 B1 : Option Addr) (n1 c1 m1 d1 : Nat) (x1 y1 : List Nat) (W : World) (h1 : Num W A1 n1 c1 x1 (p * q')) (h2 : Num W B1 m1 d1 y1 (p' * q)) => hv ▸ cmp_any A1 B1 n1 c1 m1 d1 _ _ x1 y1 W h1 h2)
  clear hx hy hx' hy' pp pq pp' pq' hl hr b0 hv
  obtain ⟨Ha, Hb, Hc, _, _, _⟩ := zH.facts
  obtain ⟨Ka, Kb, Kc, _, _, _⟩ := zK.facts
  go_enter Tryz.func20, Tryz.ntmps20
  go_wp2
  go_region_held3 (fun w' => w'.cell? ⟨w.heap.size, 0, none⟩ = some (.bool s) ∧ w'.cell? ⟨w.heap.size, 1, none⟩ = some (.slice A n c) ∧ w'.cell? ⟨w.heap.size, 2, none⟩ = some (.slice B m d) ∧ w'.cell? ⟨w.heap.size + 1, 0, none⟩ = some (.bool s') ∧ w'.cell? ⟨w.heap.size + 1, 1, none⟩ = some (.slice A' n' c') ∧ w'.cell? ⟨w.heap.size + 1, 2, none⟩ = some (.slice B' m' d')) (go_keep) (first | (go_at_call 22; (with_reducible refine (SX.out _ zX).mono ?_); rintro e wq ⟨rfl, hb⟩; replace zX := zX.keep hb; replace zY := zY.keep hb; replace zU := zU.keep hb; replace zV := zV.keep hb; replace zH := zH.keep hb; replace zK := zK.keep hb; replace zB := zB.trans (hb.mono zB.size); (try replace zL := zL.keep hb); (try replace zM := zM.keep hb); clear hb; clear Ha Hb Hc Ka Kb Kc; obtain ⟨Ha, Hb, Hc, _, _, _⟩ := zH.facts; obtain ⟨Ka, Kb, Kc, _, _, _⟩ := zK.facts) | (go_at_call 22; (with_reducible refine (SU.out _ zU).mono ?_); rintro e wq ⟨rfl, hb⟩; replace zX := zX.keep hb; replace zY := zY.keep hb; replace zU := zU.keep hb; replace zV := zV.keep hb; replace zH := zH.keep hb; replace zK := zK.keep hb; replace zB := zB.trans (hb.mono zB.size); (try replace zL := zL.keep hb); (try replace zM := zM.keep hb); clear hb; clear Ha Hb Hc Ka Kb Kc; obtain ⟨Ha, Hb, Hc, _, _, _⟩ := zH.facts; obtain ⟨Ka, Kb, Kc, _, _, _⟩ := zK.facts))
  go_wp2_with fail
  replace zX := zX.drew_
  replace zY := zY.drew_
  replace zU := zU.drew_
  replace zV := zV.drew_
  replace zH := zH.drew
  replace zK := zK.drew
  replace zB := zB.drew
  clear Ha Hb Hc Ka Kb Kc
  obtain ⟨Ha, Hb, Hc, _, _, _⟩ := zH.facts
  obtain ⟨Ka, Kb, Kc, _, _, _⟩ := zK.facts
  go_region_held3 (fun w' => w'.cell? ⟨w.heap.size, 1, none⟩ = some (.slice A n c) ∧ w'.cell? ⟨w.heap.size, 2, none⟩ = some (.slice B m d) ∧ w'.cell? ⟨w.heap.size + 1, 1, none⟩ = some (.slice A' n' c') ∧ w'.cell? ⟨w.heap.size + 1, 2, none⟩ = some (.slice B' m' d')) (go_keep) (first | (go_at_call 44; (with_reducible refine (mul_s zX zV PP.out PQ'.out (by omega) (by omega)).mono ?_); rintro e wq ⟨AL, nL, cL, xL, rfl, hn, hb⟩; replace zX := zX.keep hb; replace zY := zY.keep hb; replace zU := zU.keep hb; replace zV := zV.keep hb; replace zH := zH.keep hb; replace zK := zK.keep hb; replace zB := zB.trans (hb.mono zB.size); (try replace zL := zL.keep hb); (try replace zM := zM.keep hb); have zL := hn; clear hn hb; clear Ha Hb Hc Ka Kb Kc; obtain ⟨Ha, Hb, Hc, _, _, _⟩ := zH.facts; obtain ⟨Ka, Kb, Kc, _, _, _⟩ := zK.facts) | (go_at_call 44; (with_reducible refine (mul_s zU zY PP'.out PQ.out (by omega) (by omega)).mono ?_); rintro e wq ⟨AM, nM, cM, xM, rfl, hn, hb⟩; replace zX := zX.keep hb; replace zY := zY.keep hb; replace zU := zU.keep hb; replace zV := zV.keep hb; replace zH := zH.keep hb; replace zK := zK.keep hb; replace zB := zB.trans (hb.mono zB.size); (try replace zL := zL.keep hb); (try replace zM := zM.keep hb); have zM := hn; clear hn hb; clear Ha Hb Hc Ka Kb Kc; obtain ⟨Ha, Hb, Hc, _, _, _⟩ := zH.facts; obtain ⟨Ka, Kb, Kc, _, _, _⟩ := zK.facts) | (go_at_call 53; (with_reducible refine (CV.out _ _ _ _ _ _ _ _ _ zL zM).mono ?_); rintro e wq ⟨rfl, hb⟩; replace zX := zX.keep hb; replace zY := zY.keep hb; replace zU := zU.keep hb; replace zV := zV.keep hb; replace zH := zH.keep hb; replace zK := zK.keep hb; replace zB := zB.trans (hb.mono zB.size); (try replace zL := zL.keep hb); (try replace zM := zM.keep hb); clear hb; clear Ha Hb Hc Ka Kb Kc; obtain ⟨Ha, Hb, Hc, _, _, _⟩ := zH.facts; obtain ⟨Ka, Kb, Kc, _, _, _⟩ := zK.facts))
  all_goals go_wp2
  all_goals go_ret
  all_goals exact ⟨rfl, zB⟩
end Go.Proofs.YtlhiolnkmbkdaaaGreatDoor
