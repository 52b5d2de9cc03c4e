/- The contract of fraction.Cmp where the signs differ: no claim of its own. -/
import Derived.Test.YtbllnkhbahenkaaGreatDoorFrac
import Derived.Test.YtbllnkhbahenkaaGreatDoorLives
namespace Go.Proofs.YtbllnkhbahenkaaGreatDoor
open Go.RowKit
set_option maxRecDepth 100000 in
set_option maxHeartbeats 2000000 in
theorem fcmp_lt (s s' : Bool) (A B A' B' : Option Addr) (n c m d n' c' m' d' p p' i : Nat) (xs xs' : List Nat) (w : World) (hx : Num w A n c xs p) (hx' : Num w A' n' c' xs' p') (pp : p < 4294967296 ^ i) (pp' : p' < 4294967296 ^ i) (hi : i ≤ 900000) (l r : Int) (hl : sgn s p = l) (hr : sgn s' p' = r) (h : l < r) :
    Calls Tryz.prog 22 #[.agg #[.bool s, .slice A n c, .slice B m d], .agg #[.bool s', .slice A' n' c', .slice B' m' d']] w (Gives (.int .i64 (-1)) w) := by
  have b0 := ((Below.refl w.heap.size w).alloc (Nat.le_refl _) (.cells #[.bool s, .slice A n c, .slice B m d] 25)).alloc (by simp) (.cells #[.bool s', .slice A' n' c', .slice B' m' d'] 25)
  have zB := b0.drew
  have zX := hx.keep zB
  have zU := hx'.keep zB
  have zH := ((FB.new w s A n c B m d).alloc (.cells #[.bool s', .slice A' n' c', .slice B' m' d'] 25)).drew
  have zK := (FB.new (w.alloc (.cells #[.bool s, .slice A n c, .slice B m d] 25)) s' A' n' c' B' m' d').drew
  rw [show (w.alloc (.cells #[.bool s, .slice A n c, .slice B m d] 25)).heap.size = w.heap.size + 1 by simp] at zK
  have SX : Hid (∀ W, Num W A n c xs p → Calls Tryz.prog 38 #[.agg #[.bool s, .slice A n c, .slice B m d]] W (Gives (.int .i64 l) W)) := Lib.hid fun W k => by rw [← hl]; exact signFr_any s A B n c m d p i xs W k pp hi
  have SU : Hid (∀ W, Num W A' n' c' xs' p' → Calls Tryz.prog 38 #[.agg #[.bool s', .slice A' n' c', .slice B' m' d']] W (Gives (.int .i64 r) W)) := Lib.hid fun W k => by rw [← hr]; exact signFr_any s' A' B' n' c' m' d' p' i xs' W k pp' hi
  clear hx hx' pp pp' hl hr b0
  go_enter Tryz.func22, Tryz.ntmps22
  go_wp2
  go_region_held3 (fun w' => w'.cell? ⟨w.heap.size, 0, none⟩ = some (.bool s) ∧ w'.cell? ⟨w.heap.size, 1, none⟩ = some (.slice A n c) ∧ w'.cell? ⟨w.heap.size, 2, none⟩ = some (.slice B m d) ∧ w'.cell? ⟨w.heap.size + 1, 0, none⟩ = some (.bool s') ∧ w'.cell? ⟨w.heap.size + 1, 1, none⟩ = some (.slice A' n' c') ∧ w'.cell? ⟨w.heap.size + 1, 2, none⟩ = some (.slice B' m' d')) (go_keep) (first | (go_at_call 38; (with_reducible refine (SX.out _ zX).mono ?_); rintro e wq ⟨rfl, hb⟩; replace zX := zX.keep hb; replace zU := zU.keep hb; replace zH := zH.keep hb; replace zK := zK.keep hb; replace zB := zB.trans (hb.mono zB.size); clear hb; obtain ⟨Ha, Hb, Hc, _, _, _⟩ := zH.facts; obtain ⟨Ka, Kb, Kc, _, _, _⟩ := zK.facts) | (go_at_call 38; (with_reducible refine (SU.out _ zU).mono ?_); rintro e wq ⟨rfl, hb⟩; replace zX := zX.keep hb; replace zU := zU.keep hb; replace zH := zH.keep hb; replace zK := zK.keep hb; replace zB := zB.trans (hb.mono zB.size); clear hb; obtain ⟨Ha, Hb, Hc, _, _, _⟩ := zH.facts; obtain ⟨Ka, Kb, Kc, _, _, _⟩ := zK.facts))
  all_goals go_wp2
  all_goals go_ret
  all_goals exact ⟨rfl, zB⟩
set_option maxRecDepth 100000 in
set_option maxHeartbeats 2000000 in
theorem fcmp_gt (s s' : Bool) (A B A' B' : Option Addr) (n c m d n' c' m' d' p p' i : Nat) (xs xs' : List Nat) (w : World) (hx : Num w A n c xs p) (hx' : Num w A' n' c' xs' p') (pp : p < 4294967296 ^ i) (pp' : p' < 4294967296 ^ i) (hi : i ≤ 900000) (l r : Int) (hl : sgn s p = l) (hr : sgn s' p' = r) (h : r < l) :
    Calls Tryz.prog 22 #[.agg #[.bool s, .slice A n c, .slice B m d], .agg #[.bool s', .slice A' n' c', .slice B' m' d']] w (Gives (.int .i64 (1)) w) := by
  have b0 := ((Below.refl w.heap.size w).alloc (Nat.le_refl _) (.cells #[.bool s, .slice A n c, .slice B m d] 25)).alloc (by simp) (.cells #[.bool s', .slice A' n' c', .slice B' m' d'] 25)
  have zB := b0.drew
  have zX := hx.keep zB
  have zU := hx'.keep zB
  have zH := ((FB.new w s A n c B m d).alloc (.cells #[.bool s', .slice A' n' c', .slice B' m' d'] 25)).drew
  have zK := (FB.new (w.alloc (.cells #[.bool s, .slice A n c, .slice B m d] 25)) s' A' n' c' B' m' d').drew
  rw [show (w.alloc (.cells #[.bool s, .slice A n c, .slice B m d] 25)).heap.size = w.heap.size + 1 by simp] at zK
  have SX : Hid (∀ W, Num W A n c xs p → Calls Tryz.prog 38 #[.agg #[.bool s, .slice A n c, .slice B m d]] W (Gives (.int .i64 l) W)) := Lib.hid fun W k => by rw [← hl]; exact signFr_any s A B n c m d p i xs W k pp hi
  have SU : Hid (∀ W, Num W A' n' c' xs' p' → Calls Tryz.prog 38 #[.agg #[.bool s', .slice A' n' c', .slice B' m' d']] W (Gives (.int .i64 r) W)) := Lib.hid fun W k => by rw [← hr]; exact signFr_any s' A' B' n' c' m' d' p' i xs' W k pp' hi
  clear hx hx' pp pp' hl hr b0
  go_enter Tryz.func22, Tryz.ntmps22
  go_wp2
  go_region_held3 (fun w' => w'.cell? ⟨w.heap.size, 0, none⟩ = some (.bool s) ∧ w'.cell? ⟨w.heap.size, 1, none⟩ = some (.slice A n c) ∧ w'.cell? ⟨w.heap.size, 2, none⟩ = some (.slice B m d) ∧ w'.cell? ⟨w.heap.size + 1, 0, none⟩ = some (.bool s') ∧ w'.cell? ⟨w.heap.size + 1, 1, none⟩ = some (.slice A' n' c') ∧ w'.cell? ⟨w.heap.size + 1, 2, none⟩ = some (.slice B' m' d')) (go_keep) (first | (go_at_call 38; (with_reducible refine (SX.out _ zX).mono ?_); rintro e wq ⟨rfl, hb⟩; replace zX := zX.keep hb; replace zU := zU.keep hb; replace zH := zH.keep hb; replace zK := zK.keep hb; replace zB := zB.trans (hb.mono zB.size); clear hb; obtain ⟨Ha, Hb, Hc, _, _, _⟩ := zH.facts; obtain ⟨Ka, Kb, Kc, _, _, _⟩ := zK.facts) | (go_at_call 38; (with_reducible refine (SU.out _ zU).mono ?_); rintro e wq ⟨rfl, hb⟩; replace zX := zX.keep hb; replace zU := zU.keep hb; replace zH := zH.keep hb; replace zK := zK.keep hb; replace zB := zB.trans (hb.mono zB.size); clear hb; obtain ⟨Ha, Hb, Hc, _, _, _⟩ := zH.facts; obtain ⟨Ka, Kb, Kc, _, _, _⟩ := zK.facts))
  all_goals go_wp2
  all_goals go_ret
  all_goals exact ⟨rfl, zB⟩
end Go.Proofs.YtbllnkhbahenkaaGreatDoor
/- Contracts of the reference's Same over fractions, and of fraction.Cmp where the signs differ: no claim of its own. -/
namespace Go.Proofs.YtbllnkhbahenkaaGreatDoor
open Go.RowKit
set_option maxRecDepth 100000 in
set_option maxHeartbeats 1000000 in
theorem sameFr_eq (s : Bool) (A B A' B' : Option Addr) (n c m d c' d' p q : Nat) (xs ys : List Nat) (w : World) (hx : Num w A n c xs p) (hy : Num w B m d ys q) (hx' : Num w A' n c' xs p) (hy' : Num w B' m d' ys q) :
    Calls Tryz.prog 11 #[.agg #[.bool s, .slice A n c, .slice B m d], .agg #[.bool s, .slice A' n c', .slice B' m d']] w (Gives (.bool true) w) := by
  have b0 := ((Below.refl w.heap.size w).alloc (Nat.le_refl _) (.cells #[.bool s, .slice A n c, .slice B m d] 25)).alloc (by simp) (.cells #[.bool s, .slice A' n c', .slice B' m d'] 25)
  have B0 := Lib.hid b0
  have X0 := Lib.hid (hx.keep b0)
  have Y0 := Lib.hid (hy.keep b0)
  have U0 := Lib.hid (hx'.keep b0)
  have V0 := Lib.hid (hy'.keep b0)
  have e1 : (s != s) = false := by cases s <;> rfl
  have hr := hx.room
  have hr2 := hy.room
  have e2 : ((n : Int) != (n : Int)) = false := by simp
  have e3 : ((m : Int) != (m : Int)) = false := by simp
  have hc1 := hx.cap
  have hc2 := hy.cap
  have hc3 := hx'.cap
  have hc4 := hy'.cap
  clear hx hy hx' hy' b0
  go_enter Tryz.func11, Tryz.ntmps11
  go_wp2
  go_loopw [5] (fun iv wr => ∃ k q' : Nat, k ≤ n ∧ iv = .int .i64 k ∧ wr = ((w.alloc (.cells #[.bool s, .slice A n c, .slice B m d] 25)).alloc (.cells #[.bool s, .slice A' n c', .slice B' m d'] 25)).drewN q') (fun iv _ => n - (intOf iv).toNat)
  case atStart => exact ⟨0, 0, by omega, rfl, rfl⟩
  case round =>
    obtain ⟨k, q', hk, rfl, rfl⟩ := hrel
    by_cases hlt : k < n
    · obtain ⟨ad, rfl, hb, hcell⟩ := X0.out.toLst.at_ hlt
      obtain ⟨ad', rfl, hb', hcell'⟩ := U0.out.toLst.at_ hlt
      generalize xs.getD k 0 = x at *
      clear hb hb'
      go_wp2
      go_quiet (fail)
      go_wp2
      go_roundw
      case rel => exact ⟨k + 1, _, by omega, by go_num, rfl⟩
      case measure => simp [intOf]; omega
    · obtain rfl : n = k := by omega
      go_wp2
      go_loopw [6] (fun iv wr => ∃ j q2 : Nat, j ≤ m ∧ iv = .int .i64 j ∧ wr = ((w.alloc (.cells #[.bool s, .slice A n c, .slice B m d] 25)).alloc (.cells #[.bool s, .slice A' n c', .slice B' m d'] 25)).drewN q2) (fun iv _ => m - (intOf iv).toNat)
      case atStart => exact ⟨0, _, by omega, rfl, rfl⟩
      case round =>
        obtain ⟨j, q2, hj, rfl, rfl⟩ := hrel
        by_cases hlt2 : j < m
        · obtain ⟨ad, rfl, hb, hcell⟩ := Y0.out.toLst.at_ hlt2
          obtain ⟨ad', rfl, hb', hcell'⟩ := V0.out.toLst.at_ hlt2
          generalize ys.getD j 0 = y at *
          clear hb hb'
          go_wp2
          go_quiet (fail)
          go_wp2
          go_roundw
          case rel => exact ⟨j + 1, _, by omega, by go_num, rfl⟩
          case measure => simp [intOf]; omega
        · obtain rfl : m = j := by omega
          go_wp2
          go_ret
          exact ⟨rfl, by first | exact below_drewN B0.out _ | exact B0.out⟩
theorem sameFr_yes {t : Fr} {s s' : Bool} {A B A' B' : Option Addr} {n c m d n' c' m' d' : Nat} {xs ys xs' ys' : List Nat} {w : World} (hs : s = t.s) (hs' : s' = t.s) (hx : Num w A n c xs t.p) (hy : Num w B m d ys t.q) (hx' : Num w A' n' c' xs' t.p) (hy' : Num w B' m' d' ys' t.q) :
    Calls Tryz.prog 11 #[.agg #[.bool s, .slice A n c, .slice B m d], .agg #[.bool s', .slice A' n' c', .slice B' m' d']] w (Gives (.bool true) w) := by
  obtain rfl : xs = xs' := hx.eq_ hx'
  obtain rfl : ys = ys' := hy.eq_ hy'
  obtain rfl : n = n' := hx.len.symm.trans hx'.len
  obtain rfl : m = m' := hy.len.symm.trans hy'.len
  subst hs
  subst hs'
  exact sameFr_eq _ A B A' B' n c m d c' d' _ _ xs ys w hx hy hx' hy'
end Go.Proofs.YtbllnkhbahenkaaGreatDoor
