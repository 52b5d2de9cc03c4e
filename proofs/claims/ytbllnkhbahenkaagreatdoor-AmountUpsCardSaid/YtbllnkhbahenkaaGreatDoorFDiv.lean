/- Contracts of fraction.Sub, Div, and of Cmp where the signs are equal: no claim of its own. -/
import Derived.Test.YtbllnkhbahenkaaGreatDoorMulF
import Derived.Test.YtbllnkhbahenkaaGreatDoorFSame
namespace Go.Proofs.YtbllnkhbahenkaaGreatDoor
open Go.RowKit
theorem opp_s {s : Bool} {A B : Option Addr} {n c m d p q i : Nat} {xs ys : List Nat} {w : World} (hx : Num w A n c xs p) (hy : Num w B m d ys q) (pp : p < 4294967296 ^ i) (hi : i ≤ 900000) {T : Fr} (hT : Fr.neg ⟨s, p, q⟩ = T) :
    Calls Tryz.prog 47 #[.agg #[.bool s, .slice A n c, .slice B m d]] w (GivesFr T w) := by
  subst hT; exact opp_any s A B n c m d p q xs ys w hx hy (hx.sh pp hi)
set_option maxRecDepth 100000 in
set_option maxHeartbeats 2000000 in
theorem fcmp_neg (s s' : Bool) (A B A' B' : Option Addr) (n c m d n' c' m' d' p q p' q' i : Nat) (xs ys xs' ys' : List Nat) (w : World) (hx : Num w A n c xs p) (hy : Num w B m d ys q) (hx' : Num w A' n' c' xs' p') (hy' : Num w B' m' d' ys' q') (pp : p < 4294967296 ^ i) (pq : q < 4294967296 ^ i) (pp' : p' < 4294967296 ^ i) (pq' : q' < 4294967296 ^ i) (hi : i ≤ 100000) (l : Int) (hl : sgn s p = l) (hr : sgn s' p' = l) (h : l < 0) (v : Int) (hv : cmpI (p * q') (p' * q) = v) (hv1 : -1 ≤ v ∧ v ≤ 1) :
    Calls Tryz.prog 22 #[.agg #[.bool s, .slice A n c, .slice B m d], .agg #[.bool s', .slice A' n' c', .slice B' m' d']] w (Gives (.int .i64 (-v)) w) := by
  have b0 := ((Below.refl w.heap.size w).alloc (Nat.le_refl _) (.cells #[.bool s, .slice A n c, .slice B m d] 25)).alloc (by simp) (.cells #[.bool s', .slice A' n' c', .slice B' m' d'] 25)
  have zB := b0.drew
  have zX := hx.keep zB
  have zY := hy.keep zB
  have zU := hx'.keep zB
  have zV := hy'.keep zB
  have zH := ((FB.new w s A n c B m d).alloc (.cells #[.bool s', .slice A' n' c', .slice B' m' d'] 25)).drew
  have zK := (FB.new (w.alloc (.cells #[.bool s, .slice A n c, .slice B m d] 25)) s' A' n' c' B' m' d').drew
  rw [show (w.alloc (.cells #[.bool s, .slice A n c, .slice B m d] 25)).heap.size = w.heap.size + 1 by simp] at zK
  have SX : Hid (∀ W, Num W A n c xs p → Calls Tryz.prog 38 #[.agg #[.bool s, .slice A n c, .slice B m d]] W (Gives (.int .i64 l) W)) := Lib.hid fun W k => by rw [← hl]; exact signFr_any s A B n c m d p i xs W k pp (by omega)
  have SU : Hid (∀ W, Num W A' n' c' xs' p' → Calls Tryz.prog 38 #[.agg #[.bool s', .slice A' n' c', .slice B' m' d']] W (Gives (.int .i64 l) W)) := Lib.hid fun W k => by rw [← hr]; exact signFr_any s' A' B' n' c' m' d' p' i xs' W k pp' (by omega)
  have PP := Lib.hid pp
  have PQ := Lib.hid pq
  have PP' := Lib.hid pp'
  have PQ' := Lib.hid pq'
  have CV := Lib.hid (fun (A1 B1 : Option Addr) (n1 c1 m1 d1 : Nat) (x1 y1 : List Nat) (W : World) (h1 : Num W A1 n1 c1 x1 (p * q')) (h2 : Num W B1 m1 d1 y1 (p' * q)) => hv ▸ cmp_any A1 B1 n1 c1 m1 d1 _ _ x1 y1 W h1 h2)
  clear hx hy hx' hy' pp pq pp' pq' hl hr b0 hv
  obtain ⟨Ha, Hb, Hc, _, _, _⟩ := zH.facts
  obtain ⟨Ka, Kb, Kc, _, _, _⟩ := zK.facts
  go_enter Tryz.func22, Tryz.ntmps22
  go_wp2
  go_region_held3 (fun w' => w'.cell? ⟨w.heap.size, 0, none⟩ = some (.bool s) ∧ w'.cell? ⟨w.heap.size, 1, none⟩ = some (.slice A n c) ∧ w'.cell? ⟨w.heap.size, 2, none⟩ = some (.slice B m d) ∧ w'.cell? ⟨w.heap.size + 1, 0, none⟩ = some (.bool s') ∧ w'.cell? ⟨w.heap.size + 1, 1, none⟩ = some (.slice A' n' c') ∧ w'.cell? ⟨w.heap.size + 1, 2, none⟩ = some (.slice B' m' d')) (go_keep) (first | (go_at_call 38; (with_reducible refine (SX.out _ zX).mono ?_); rintro e wq ⟨rfl, hb⟩; replace zX := zX.keep hb; replace zY := zY.keep hb; replace zU := zU.keep hb; replace zV := zV.keep hb; replace zH := zH.keep hb; replace zK := zK.keep hb; replace zB := zB.trans (hb.mono zB.size); (try replace zL := zL.keep hb); (try replace zM := zM.keep hb); clear hb; clear Ha Hb Hc Ka Kb Kc; obtain ⟨Ha, Hb, Hc, _, _, _⟩ := zH.facts; obtain ⟨Ka, Kb, Kc, _, _, _⟩ := zK.facts) | (go_at_call 38; (with_reducible refine (SU.out _ zU).mono ?_); rintro e wq ⟨rfl, hb⟩; replace zX := zX.keep hb; replace zY := zY.keep hb; replace zU := zU.keep hb; replace zV := zV.keep hb; replace zH := zH.keep hb; replace zK := zK.keep hb; replace zB := zB.trans (hb.mono zB.size); (try replace zL := zL.keep hb); (try replace zM := zM.keep hb); clear hb; clear Ha Hb Hc Ka Kb Kc; obtain ⟨Ha, Hb, Hc, _, _, _⟩ := zH.facts; obtain ⟨Ka, Kb, Kc, _, _, _⟩ := zK.facts))
  go_wp2_with fail
  replace zX := zX.drew_
  replace zY := zY.drew_
  replace zU := zU.drew_
  replace zV := zV.drew_
  replace zH := zH.drew
  replace zK := zK.drew
  replace zB := zB.drew
  clear Ha Hb Hc Ka Kb Kc
  obtain ⟨Ha, Hb, Hc, _, _, _⟩ := zH.facts
  obtain ⟨Ka, Kb, Kc, _, _, _⟩ := zK.facts
  go_region_held3 (fun w' => w'.cell? ⟨w.heap.size, 1, none⟩ = some (.slice A n c) ∧ w'.cell? ⟨w.heap.size, 2, none⟩ = some (.slice B m d) ∧ w'.cell? ⟨w.heap.size + 1, 1, none⟩ = some (.slice A' n' c') ∧ w'.cell? ⟨w.heap.size + 1, 2, none⟩ = some (.slice B' m' d')) (go_keep) (first | (go_at_call 51; (with_reducible refine (mul_s zX zV PP.out PQ'.out (by omega) (by omega)).mono ?_); rintro e wq ⟨AL, nL, cL, xL, rfl, hn, hb⟩; replace zX := zX.keep hb; replace zY := zY.keep hb; replace zU := zU.keep hb; replace zV := zV.keep hb; replace zH := zH.keep hb; replace zK := zK.keep hb; replace zB := zB.trans (hb.mono zB.size); (try replace zL := zL.keep hb); (try replace zM := zM.keep hb); have zL := hn; clear hn hb; clear Ha Hb Hc Ka Kb Kc; obtain ⟨Ha, Hb, Hc, _, _, _⟩ := zH.facts; obtain ⟨Ka, Kb, Kc, _, _, _⟩ := zK.facts) | (go_at_call 51; (with_reducible refine (mul_s zU zY PP'.out PQ.out (by omega) (by omega)).mono ?_); rintro e wq ⟨AM, nM, cM, xM, rfl, hn, hb⟩; replace zX := zX.keep hb; replace zY := zY.keep hb; replace zU := zU.keep hb; replace zV := zV.keep hb; replace zH := zH.keep hb; replace zK := zK.keep hb; replace zB := zB.trans (hb.mono zB.size); (try replace zL := zL.keep hb); (try replace zM := zM.keep hb); have zM := hn; clear hn hb; clear Ha Hb Hc Ka Kb Kc; obtain ⟨Ha, Hb, Hc, _, _, _⟩ := zH.facts; obtain ⟨Ka, Kb, Kc, _, _, _⟩ := zK.facts) | (go_at_call 53; (with_reducible refine (CV.out _ _ _ _ _ _ _ _ _ zL zM).mono ?_); rintro e wq ⟨rfl, hb⟩; replace zX := zX.keep hb; replace zY := zY.keep hb; replace zU := zU.keep hb; replace zV := zV.keep hb; replace zH := zH.keep hb; replace zK := zK.keep hb; replace zB := zB.trans (hb.mono zB.size); (try replace zL := zL.keep hb); (try replace zM := zM.keep hb); clear hb; clear Ha Hb Hc Ka Kb Kc; obtain ⟨Ha, Hb, Hc, _, _, _⟩ := zH.facts; obtain ⟨Ka, Kb, Kc, _, _, _⟩ := zK.facts))
  all_goals go_wp2
  all_goals go_ret
  all_goals exact ⟨rfl, zB⟩
set_option maxRecDepth 100000 in
set_option maxHeartbeats 2000000 in
theorem fcmp_pos (s s' : Bool) (A B A' B' : Option Addr) (n c m d n' c' m' d' p q p' q' i : Nat) (xs ys xs' ys' : List Nat) (w : World) (hx : Num w A n c xs p) (hy : Num w B m d ys q) (hx' : Num w A' n' c' xs' p') (hy' : Num w B' m' d' ys' q') (pp : p < 4294967296 ^ i) (pq : q < 4294967296 ^ i) (pp' : p' < 4294967296 ^ i) (pq' : q' < 4294967296 ^ i) (hi : i ≤ 100000) (l : Int) (hl : sgn s p = l) (hr : sgn s' p' = l) (h : 0 ≤ l) (v : Int) (hv : cmpI (p * q') (p' * q) = v) :
    Calls Tryz.prog 22 #[.agg #[.bool s, .slice A n c, .slice B m d], .agg #[.bool s', .slice A' n' c', .slice B' m' d']] w (Gives (.int .i64 (v)) w) := by
  have b0 := ((Below.refl w.heap.size w).alloc (Nat.le_refl _) (.cells #[.bool s, .slice A n c, .slice B m d] 25)).alloc (by simp) (.cells #[.bool s', .slice A' n' c', .slice B' m' d'] 25)
  have zB := b0.drew
  have zX := hx.keep zB
  have zY := hy.keep zB
  have zU := hx'.keep zB
  have zV := hy'.keep zB
  have zH := ((FB.new w s A n c B m d).alloc (.cells #[.bool s', .slice A' n' c', .slice B' m' d'] 25)).drew
  have zK := (FB.new (w.alloc (.cells #[.bool s, .slice A n c, .slice B m d] 25)) s' A' n' c' B' m' d').drew
  rw [show (w.alloc (.cells #[.bool s, .slice A n c, .slice B m d] 25)).heap.size = w.heap.size + 1 by simp] at zK
  have SX : Hid (∀ W, Num W A n c xs p → Calls Tryz.prog 38 #[.agg #[.bool s, .slice A n c, .slice B m d]] W (Gives (.int .i64 l) W)) := Lib.hid fun W k => by rw [← hl]; exact signFr_any s A B n c m d p i xs W k pp (by omega)
  have SU : Hid (∀ W, Num W A' n' c' xs' p' → Calls Tryz.prog 38 #[.agg #[.bool s', .slice A' n' c', .slice B' m' d']] W (Gives (.int .i64 l) W)) := Lib.hid fun W k => by rw [← hr]; exact signFr_any s' A' B' n' c' m' d' p' i xs' W k pp' (by omega)
  have PP := Lib.hid pp
  have PQ := Lib.hid pq
  have PP' := Lib.hid pp'
  have PQ' := Lib.hid pq'
  have CV := Lib.hid (fun (A1 B1 : Option Addr) (n1 c1 m1 d1 : Nat) (x1 y1 : List Nat) (W : World) (h1 : Num W A1 n1 c1 x1 (p * q')) (h2 : Num W B1 m1 d1 y1 (p' * q)) => hv ▸ cmp_any A1 B1 n1 c1 m1 d1 _ _ x1 y1 W h1 h2)
  clear hx hy hx' hy' pp pq pp' pq' hl hr b0 hv
  obtain ⟨Ha, Hb, Hc, _, _, _⟩ := zH.facts
  obtain ⟨Ka, Kb, Kc, _, _, _⟩ := zK.facts
  go_enter Tryz.func22, Tryz.ntmps22
  go_wp2
  go_region_held3 (fun w' => w'.cell? ⟨w.heap.size, 0, none⟩ = some (.bool s) ∧ w'.cell? ⟨w.heap.size, 1, none⟩ = some (.slice A n c) ∧ w'.cell? ⟨w.heap.size, 2, none⟩ = some (.slice B m d) ∧ w'.cell? ⟨w.heap.size + 1, 0, none⟩ = some (.bool s') ∧ w'.cell? ⟨w.heap.size + 1, 1, none⟩ = some (.slice A' n' c') ∧ w'.cell? ⟨w.heap.size + 1, 2, none⟩ = some (.slice B' m' d')) (go_keep) (first | (go_at_call 38; (with_reducible refine (SX.out _ zX).mono ?_); rintro e wq ⟨rfl, hb⟩; replace zX := zX.keep hb; replace zY := zY.keep hb; replace zU := zU.keep hb; replace zV := zV.keep hb; replace zH := zH.keep hb; replace zK := zK.keep hb; replace zB := zB.trans (hb.mono zB.size); (try replace zL := zL.keep hb); (try replace zM := zM.keep hb); clear hb; clear Ha Hb Hc Ka Kb Kc; obtain ⟨Ha, Hb, Hc, _, _, _⟩ := zH.facts; obtain ⟨Ka, Kb, Kc, _, _, _⟩ := zK.facts) | (go_at_call 38; (with_reducible refine (SU.out _ zU).mono ?_); rintro e wq ⟨rfl, hb⟩; replace zX := zX.keep hb; replace zY := zY.keep hb; replace zU := zU.keep hb; replace zV := zV.keep hb; replace zH := zH.keep hb; replace zK := zK.keep hb; replace zB := zB.trans (hb.mono zB.size); (try replace zL := zL.keep hb); (try replace zM := zM.keep hb); clear hb; clear Ha Hb Hc Ka Kb Kc; obtain ⟨Ha, Hb, Hc, _, _, _⟩ := zH.facts; obtain ⟨Ka, Kb, Kc, _, _, _⟩ := zK.facts))
  go_wp2_with fail
  replace zX := zX.drew_
  replace zY := zY.drew_
  replace zU := zU.drew_
  replace zV := zV.drew_
  replace zH := zH.drew
  replace zK := zK.drew
  replace zB := zB.drew
  clear Ha Hb Hc Ka Kb Kc
  obtain ⟨Ha, Hb, Hc, _, _, _⟩ := zH.facts
  obtain ⟨Ka, Kb, Kc, _, _, _⟩ := zK.facts
  go_region_held3 (fun w' => w'.cell? ⟨w.heap.size, 1, none⟩ = some (.slice A n c) ∧ w'.cell? ⟨w.heap.size, 2, none⟩ = some (.slice B m d) ∧ w'.cell? ⟨w.heap.size + 1, 1, none⟩ = some (.slice A' n' c') ∧ w'.cell? ⟨w.heap.size + 1, 2, none⟩ = some (.slice B' m' d')) (go_keep) (first | (go_at_call 51; (with_reducible refine (mul_s zX zV PP.out PQ'.out (by omega) (by omega)).mono ?_); rintro e wq ⟨AL, nL, cL, xL, rfl, hn, hb⟩; replace zX := zX.keep hb; replace zY := zY.keep hb; replace zU := zU.keep hb; replace zV := zV.keep hb; replace zH := zH.keep hb; replace zK := zK.keep hb; replace zB := zB.trans (hb.mono zB.size); (try replace zL := zL.keep hb); (try replace zM := zM.keep hb); have zL := hn; clear hn hb; clear Ha Hb Hc Ka Kb Kc; obtain ⟨Ha, Hb, Hc, _, _, _⟩ := zH.facts; obtain ⟨Ka, Kb, Kc, _, _, _⟩ := zK.facts) | (go_at_call 51; (with_reducible refine (mul_s zU zY PP'.out PQ.out (by omega) (by omega)).mono ?_); rintro e wq ⟨AM, nM, cM, xM, rfl, hn, hb⟩; replace zX := zX.keep hb; replace zY := zY.keep hb; replace zU := zU.keep hb; replace zV := zV.keep hb; replace zH := zH.keep hb; replace zK := zK.keep hb; replace zB := zB.trans (hb.mono zB.size); (try replace zL := zL.keep hb); (try replace zM := zM.keep hb); have zM := hn; clear hn hb; clear Ha Hb Hc Ka Kb Kc; obtain ⟨Ha, Hb, Hc, _, _, _⟩ := zH.facts; obtain ⟨Ka, Kb, Kc, _, _, _⟩ := zK.facts) | (go_at_call 53; (with_reducible refine (CV.out _ _ _ _ _ _ _ _ _ zL zM).mono ?_); rintro e wq ⟨rfl, hb⟩; replace zX := zX.keep hb; replace zY := zY.keep hb; replace zU := zU.keep hb; replace zV := zV.keep hb; replace zH := zH.keep hb; replace zK := zK.keep hb; replace zB := zB.trans (hb.mono zB.size); (try replace zL := zL.keep hb); (try replace zM := zM.keep hb); clear hb; clear Ha Hb Hc Ka Kb Kc; obtain ⟨Ha, Hb, Hc, _, _, _⟩ := zH.facts; obtain ⟨Ka, Kb, Kc, _, _, _⟩ := zK.facts))
  all_goals go_wp2
  all_goals go_ret
  all_goals exact ⟨rfl, zB⟩
end Go.Proofs.YtbllnkhbahenkaaGreatDoor
