/- Contracts of the reference's Neg, Sign, Mul and Div over fractions: no claim of its own. -/
import Derived.Test.YtlhiolnkmbkdaaaGreatDoorFDiv
import Derived.Test.YtlhiolnkmbkdaaaGreatDoorRMake
import Derived.Test.YtlhiolnkmbkdaaaGreatDoorRMul
namespace Go.Proofs.YtlhiolnkmbkdaaaGreatDoor
open Go.RowKit
theorem rmul_s {A B : Option Addr} {n c m d a b i j : Nat} {xs ys : List Nat} {w : World} (hx : Num w A n c xs a) (hy : Num w B m d ys b) (ha : a < 4294967296 ^ i) (hb : b < 4294967296 ^ j) (hi : i ≤ 100000) (hj : j ≤ 100000) :
    Calls Tryz.prog 52 #[.slice A n c, .slice B m d] w (GivesNum (a * b) w) := rmul_any A B n c m d a b xs ys w hx hy (hx.sh ha hi) (hy.sh hb hj)
theorem rmake_s {s : Bool} {A B : Option Addr} {n c m d p q i : Nat} {xs ys : List Nat} {w : World} (hx : Num w A n c xs p) (hy : Num w B m d ys q) (hq : 0 < q) (hp : p < 4294967296 ^ i) (hq1 : q < 4294967296 ^ i) (hi : i ≤ 900000) {T : Fr} (hT : Fr.mk' s p q = T) :
    Calls Tryz.prog 51 #[.bool s, .slice A n c, .slice B m d] w (GivesFrE T 0 w) := by subst hT; exact rmake_any s A B n c m d p q i xs ys w hx hy hq hp hq1 hi
set_option maxRecDepth 100000 in
set_option maxHeartbeats 400000 in
theorem rneg_f0 (A B : Option Addr) (n c m d p q : Nat) (xs ys : List Nat) (w : World) (hx : Num w A n c xs p) (hy : Num w B m d ys q) (h : 0 < n) :
    Calls Tryz.prog 23 #[.agg #[.bool false, .slice A n c, .slice B m d]] w (GivesFr ⟨true, p, q⟩ w) := by
  have H0 := Lib.hid ((FB.new w false A n c B m d).alloc (.cells #[.bool false, .slice none 0 0, .slice none 0 0] 25))
  have HX := Lib.hid hx
  have HY := Lib.hid hy
  obtain ⟨Ha, Hb, Hc, _, _, _⟩ := H0.out.facts
  clear hx hy H0
  go_enter Tryz.func23, Tryz.ntmps23
  go_wp2
  refine bodyPost_ret (v := .agg #[.bool true, .slice A n c, .slice B m d]) (by simp [results, Tryz.results23, go_sem]) rfl ?_
  have bb : Below w.heap.size w ((w.alloc (.cells #[.bool false, .slice A n c, .slice B m d] 25)).alloc (.cells #[.bool true, .slice A n c, .slice B m d] 25)) := ((Below.refl w.heap.size w).alloc (Nat.le_refl _) _).alloc (by simp) _
  exact ⟨_, _, _, _, _, _, _, _, rfl, HX.out.keep bb, HY.out.keep bb, bb⟩
set_option maxRecDepth 100000 in
set_option maxHeartbeats 400000 in
theorem rneg_f1 (A B : Option Addr) (n c m d p q : Nat) (xs ys : List Nat) (w : World) (hx : Num w A n c xs p) (hy : Num w B m d ys q) (h : n = 0) :
    Calls Tryz.prog 23 #[.agg #[.bool false, .slice A n c, .slice B m d]] w (GivesFr ⟨false, p, q⟩ w) := by
  have H0 := Lib.hid ((FB.new w false A n c B m d).alloc (.cells #[.bool false, .slice none 0 0, .slice none 0 0] 25))
  have HX := Lib.hid hx
  have HY := Lib.hid hy
  obtain ⟨Ha, Hb, Hc, _, _, _⟩ := H0.out.facts
  subst h
  clear hx hy H0
  go_enter Tryz.func23, Tryz.ntmps23
  go_wp2
  refine bodyPost_ret (v := .agg #[.bool false, .slice A 0 c, .slice B m d]) (by simp [results, Tryz.results23, go_sem]) rfl ?_
  have bb : Below w.heap.size w ((w.alloc (.cells #[.bool false, .slice A 0 c, .slice B m d] 25)).alloc (.cells #[.bool false, .slice A 0 c, .slice B m d] 25)) := ((Below.refl w.heap.size w).alloc (Nat.le_refl _) _).alloc (by simp) _
  exact ⟨_, _, _, _, _, _, _, _, rfl, HX.out.keep bb, HY.out.keep bb, bb⟩
set_option maxRecDepth 100000 in
set_option maxHeartbeats 400000 in
theorem rneg_t0 (A B : Option Addr) (n c m d p q : Nat) (xs ys : List Nat) (w : World) (hx : Num w A n c xs p) (hy : Num w B m d ys q) :
    Calls Tryz.prog 23 #[.agg #[.bool true, .slice A n c, .slice B m d]] w (GivesFr ⟨false, p, q⟩ w) := by
  have H0 := Lib.hid ((FB.new w true A n c B m d).alloc (.cells #[.bool false, .slice none 0 0, .slice none 0 0] 25))
  have HX := Lib.hid hx
  have HY := Lib.hid hy
  obtain ⟨Ha, Hb, Hc, _, _, _⟩ := H0.out.facts
  clear hx hy H0
  go_enter Tryz.func23, Tryz.ntmps23
  go_wp2
  refine bodyPost_ret (v := .agg #[.bool false, .slice A n c, .slice B m d]) (by simp [results, Tryz.results23, go_sem]) rfl ?_
  have bb : Below w.heap.size w ((w.alloc (.cells #[.bool true, .slice A n c, .slice B m d] 25)).alloc (.cells #[.bool false, .slice A n c, .slice B m d] 25)) := ((Below.refl w.heap.size w).alloc (Nat.le_refl _) _).alloc (by simp) _
  exact ⟨_, _, _, _, _, _, _, _, rfl, HX.out.keep bb, HY.out.keep bb, bb⟩
theorem rnegFr_any (s : Bool) (A B : Option Addr) (n c m d p q : Nat) (xs ys : List Nat) (w : World) (hx : Num w A n c xs p) (hy : Num w B m d ys q) (T : Fr) (hT : Fr.neg ⟨s, p, q⟩ = T) :
    Calls Tryz.prog 23 #[.agg #[.bool s, .slice A n c, .slice B m d]] w (GivesFr T w) := by
  subst hT
  cases s
  · rcases Nat.eq_zero_or_pos n with h | h
    · have hp : p = 0 := by rcases Nat.eq_zero_or_pos p with h0 | h0; exact h0; have := hx.npos h0; omega
      refine (rneg_f1 A B n c m d p q xs ys w hx hy h).mono fun _ _ g => g.eq ?_
      subst hp; rfl
    · refine (rneg_f0 A B n c m d p q xs ys w hx hy h).mono fun _ _ g => g.eq ?_
      have := hx.pos h
      simp [Fr.neg, this]
  · exact (rneg_t0 A B n c m d p q xs ys w hx hy).mono fun _ _ g => g.eq rfl
set_option maxRecDepth 100000 in
set_option maxHeartbeats 400000 in
theorem rsign_neg (A B : Option Addr) (n c m d : Nat) (w : World) :
    Calls Tryz.prog 18 #[.agg #[.bool true, .slice A n c, .slice B m d]] w (Gives (.int .i64 (-1)) w) := by
  obtain ⟨Ha, Hb, Hc, _, _, _⟩ := (FB.new w true A n c B m d).facts
  go_enter Tryz.func18, Tryz.ntmps18
  go_wp2
  go_ret
  exact ⟨rfl, below_alloc _ _⟩
set_option maxRecDepth 100000 in
set_option maxHeartbeats 400000 in
theorem rsign_zero (A B : Option Addr) (n c m d : Nat) (w : World) (h : n = 0) :
    Calls Tryz.prog 18 #[.agg #[.bool false, .slice A n c, .slice B m d]] w (Gives (.int .i64 (0)) w) := by
  obtain ⟨Ha, Hb, Hc, _, _, _⟩ := (FB.new w false A n c B m d).facts
  subst h
  go_enter Tryz.func18, Tryz.ntmps18
  go_wp2
  go_ret
  exact ⟨rfl, below_alloc _ _⟩
set_option maxRecDepth 100000 in
set_option maxHeartbeats 400000 in
theorem rsign_pos (A B : Option Addr) (n c m d : Nat) (w : World) (h : 0 < n) (hn : n ≤ 9223372036854775807) :
    Calls Tryz.prog 18 #[.agg #[.bool false, .slice A n c, .slice B m d]] w (Gives (.int .i64 (1)) w) := by
  obtain ⟨Ha, Hb, Hc, _, _, _⟩ := (FB.new w false A n c B m d).facts
  have hz : ((n : Int) == 0) = false := beq_eq_false_iff_ne.2 (by omega)
  go_enter Tryz.func18, Tryz.ntmps18
  go_wp2
  go_ret
  exact ⟨rfl, below_alloc _ _⟩
theorem rsignFr_any (s : Bool) (A B : Option Addr) (n c m d p : Nat) (xs : List Nat) (w : World) (hx : Num w A n c xs p) (hs : s = true → 0 < p) (l : Int) (hl : sgn s p = l) :
    Calls Tryz.prog 18 #[.agg #[.bool s, .slice A n c, .slice B m d]] w (Gives (.int .i64 l) w) := by
  subst hl
  cases s
  · rcases Nat.eq_zero_or_pos n with h | h
    · have hp : p = 0 := by rcases Nat.eq_zero_or_pos p with h0 | h0; exact h0; have := hx.npos h0; omega
      subst hp
      exact rsign_zero A B n c m d w h
    · have := hx.pos h
      rw [show sgn false p = 1 by unfold sgn; rw [if_neg (by omega)]; rfl]
      exact rsign_pos A B n c m d w h (by have := hx.room; omega)
  · have := hs rfl
    rw [show sgn true p = -1 by unfold sgn; rw [if_neg (by omega)]; rfl]
    exact rsign_neg A B n c m d w
set_option maxRecDepth 100000 in
set_option maxHeartbeats 4000000 in
theorem rdivFr_any (s s' : Bool) (A B A' B' : Option Addr) (n c m d n' c' m' d' p q p' q' i : Nat) (xs ys xs' ys' : List Nat) (w : World) (hx : Num w A n c xs p) (hy : Num w B m d ys q) (hx' : Num w A' n' c' xs' p') (hy' : Num w B' m' d' ys' q') (pp : p < 4294967296 ^ i) (pq : q < 4294967296 ^ i) (pp' : p' < 4294967296 ^ i) (pq' : q' < 4294967296 ^ i) (hi : i ≤ 40000) (k : Int) (z : Bool) (hz : (s != s') = z) (T : Fr) (M : ∀ (A1 B1 : Option Addr) (n1 c1 m1 d1 : Nat) (x1 y1 : List Nat) (W : World), Num W A1 n1 c1 x1 (p * q') → Num W B1 m1 d1 y1 (q * p') → Calls Tryz.prog 51 #[.bool z, .slice A1 n1 c1, .slice B1 m1 d1] W (GivesFrE T k W)) :
    Calls Tryz.prog 19 #[.agg #[.bool s, .slice A n c, .slice B m d], .agg #[.bool s', .slice A' n' c', .slice B' m' d']] w (GivesFrE T k w) := by
  have MM := Lib.hid M
  have zB := (((Below.refl w.heap.size w).alloc (Nat.le_refl _) (.cells #[.bool s, .slice A n c, .slice B m d] 25)).alloc (by simp) (.cells #[.bool s', .slice A' n' c', .slice B' m' d'] 25)).alloc (by simp; omega) (.cells #[.bool false, .slice none 0 0, .slice none 0 0] 25)
  have zX := hx.keep zB
  have zY := hy.keep zB
  have zU := hx'.keep zB
  have zV := hy'.keep zB
  have zH := ((FB.new w s A n c B m d).alloc (.cells #[.bool s', .slice A' n' c', .slice B' m' d'] 25)).alloc (.cells #[.bool false, .slice none 0 0, .slice none 0 0] 25)
  have zK := (FB.new (w.alloc (.cells #[.bool s, .slice A n c, .slice B m d] 25)) s' A' n' c' B' m' d').alloc (.cells #[.bool false, .slice none 0 0, .slice none 0 0] 25)
  have zR := FB.new ((w.alloc (.cells #[.bool s, .slice A n c, .slice B m d] 25)).alloc (.cells #[.bool s', .slice A' n' c', .slice B' m' d'] 25)) false none 0 0 none 0 0
  rw [show (w.alloc (.cells #[.bool s, .slice A n c, .slice B m d] 25)).heap.size = w.heap.size + 1 by simp] at zK
  rw [show ((w.alloc (.cells #[.bool s, .slice A n c, .slice B m d] 25)).alloc (.cells #[.bool s', .slice A' n' c', .slice B' m' d'] 25)).heap.size = w.heap.size + 1 + 1 by simp] at zR
  replace zB := zB.drew
  replace zX := zX.drew_
  replace zY := zY.drew_
  replace zU := zU.drew_
  replace zV := zV.drew_
  replace zH := zH.drew
  replace zK := zK.drew
  replace zR := zR.drew
  have PP := Lib.hid pp
  have PQ := Lib.hid pq
  have PP' := Lib.hid pp'
  have PQ' := Lib.hid pq'
  clear hx hy hx' hy' pp pq pp' pq' M
  have hz1 : (!(s == s')) = z := hz
  clear hz
  go_enter Tryz.func19, Tryz.ntmps19
  go_wp2
  obtain ⟨Ha, Hb, Hc, Hd, He, Hf⟩ := zH.facts
  obtain ⟨Ka, Kb, Kc, Kd, Ke, Kf⟩ := zK.facts
  obtain ⟨Ra, Rb, Rc, Rd, Re, Rf⟩ := zR.facts
  go_region_held3 (fun w' => w'.cell? ⟨w.heap.size, 0, none⟩ = some (.bool s) ∧ w'.cell? ⟨w.heap.size, 1, none⟩ = some (.slice A n c) ∧ w'.cell? ⟨w.heap.size, 2, none⟩ = some (.slice B m d) ∧ w'.cell? ⟨w.heap.size + 1, 0, none⟩ = some (.bool s') ∧ w'.cell? ⟨w.heap.size + 1, 1, none⟩ = some (.slice A' n' c') ∧ w'.cell? ⟨w.heap.size + 1, 2, none⟩ = some (.slice B' m' d')) (first | (with_reducible exact ⟨st3_keep (by omega) Ha, st3_keep (by omega) Hb, st3_keep (by omega) Hc, st3_keep (by omega) Ka, st3_keep (by omega) Kb, st3_keep (by omega) Kc⟩) | go_keep) (first | (go_at_call 52; (with_reducible refine (rmul_s zX zV PP.out PQ'.out (by omega) (by omega)).mono ?_); rintro e wq ⟨AN, nN, cN, xN, rfl, hn, hb⟩; replace zX := zX.keep hb; replace zY := zY.keep hb; replace zU := zU.keep hb; replace zV := zV.keep hb; replace zH := zH.keep hb; replace zK := zK.keep hb; replace zR := zR.keep hb; replace zB := zB.trans (hb.mono zB.size); (try replace zN := zN.keep hb); (try replace zD := zD.keep hb); (try replace zP := zP.keep hb); (try replace zQ := zQ.keep hb); have zN := hn; clear hb Ha Hb Hc Hd He Hf Ka Kb Kc Kd Ke Kf Ra Rb Rc Rd Re Rf hn; obtain ⟨Ha, Hb, Hc, Hd, He, Hf⟩ := zH.facts; obtain ⟨Ka, Kb, Kc, Kd, Ke, Kf⟩ := zK.facts; obtain ⟨Ra, Rb, Rc, Rd, Re, Rf⟩ := zR.facts) | (go_at_call 52; (with_reducible refine (rmul_s zY zU PQ.out PP'.out (by omega) (by omega)).mono ?_); rintro e wq ⟨AD, nD, cD, xD, rfl, hn, hb⟩; replace zX := zX.keep hb; replace zY := zY.keep hb; replace zU := zU.keep hb; replace zV := zV.keep hb; replace zH := zH.keep hb; replace zK := zK.keep hb; replace zR := zR.keep hb; replace zB := zB.trans (hb.mono zB.size); (try replace zN := zN.keep hb); (try replace zD := zD.keep hb); (try replace zP := zP.keep hb); (try replace zQ := zQ.keep hb); have zD := hn; clear hb Ha Hb Hc Hd He Hf Ka Kb Kc Kd Ke Kf Ra Rb Rc Rd Re Rf hn; obtain ⟨Ha, Hb, Hc, Hd, He, Hf⟩ := zH.facts; obtain ⟨Ka, Kb, Kc, Kd, Ke, Kf⟩ := zK.facts; obtain ⟨Ra, Rb, Rc, Rd, Re, Rf⟩ := zR.facts) | (go_at_call 51; (with_reducible refine (MM.out _ _ _ _ _ _ _ _ _ zN zD).mono ?_); rintro e wq ⟨AP, nP, cP, xP, AQ, nQ, cQ, xQ, rfl, hn, hn', hb⟩; replace zX := zX.keep hb; replace zY := zY.keep hb; replace zU := zU.keep hb; replace zV := zV.keep hb; replace zH := zH.keep hb; replace zK := zK.keep hb; replace zR := zR.keep hb; replace zB := zB.trans (hb.mono zB.size); (try replace zN := zN.keep hb); (try replace zD := zD.keep hb); (try replace zP := zP.keep hb); (try replace zQ := zQ.keep hb); have zP := hn; have zQ := hn'; clear hb Ha Hb Hc Hd He Hf Ka Kb Kc Kd Ke Kf Ra Rb Rc Rd Re Rf hn hn'; obtain ⟨Ha, Hb, Hc, Hd, He, Hf⟩ := zH.facts; obtain ⟨Ka, Kb, Kc, Kd, Ke, Kf⟩ := zK.facts; obtain ⟨Ra, Rb, Rc, Rd, Re, Rf⟩ := zR.facts))
  all_goals go_wp2
  all_goals refine bodyPost_ret (v := .tuple #[.agg #[.bool T.s, .slice AP nP cP, .slice AQ nQ cQ], .int .i64 k]) (by simp [results, Tryz.results19, go_sem, Ra, Rb, Rc]) rfl ?_
  all_goals exact giveFrE (t := T) (k := k) zB (by omega) zR zP zQ
end Go.Proofs.YtlhiolnkmbkdaaaGreatDoor
