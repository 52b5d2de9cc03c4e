/- Add, Sub, Meet, Join: no claim of its own. -/
import Derived.Test.YtigfgeanofccgaaGreatDoorJBb
namespace Go.Proofs.YtigfgeanofccgaaGreatDoor
open Go.RowKit
/-- The bundle with the quantities F. -/
def mapB (F : Nat → Int) : List Int := [F 0, F 1, F 2, F 3, F 4, F 5]
theorem mapB_at (F : Nat → Int) {k : Nat} (hk : k < 6) : MB.at_ (mapB F) k = F k := by
  have h : k = 0 ∨ k = 1 ∨ k = 2 ∨ k = 3 ∨ k = 4 ∨ k = 5 := by omega
  rcases h with rfl | rfl | rfl | rfl | rfl | rfl <;> rfl
theorem mapB_ext {zs : List Int} (F : Nat → Int) (hl : zs.length = 6) (h : ∀ j, j < 6 → MB.at_ zs j = F j) : zs = mapB F :=
  MB.ext6 hl rfl fun j hj => (h j hj).trans (mapB_at F hj).symm
def addB (xs ys : List Int) : List Int := mapB fun k => wrap64 (MB.at_ xs k + MB.at_ ys k)
def subB (xs ys : List Int) : List Int := mapB fun k => wrap64 (MB.at_ xs k - MB.at_ ys k)
def meetB (xs ys : List Int) : List Int := mapB fun k => if MB.at_ ys k < MB.at_ xs k then MB.at_ ys k else MB.at_ xs k
def joinB (xs ys : List Int) : List Int := mapB fun k => if MB.at_ xs k < MB.at_ ys k then MB.at_ ys k else MB.at_ xs k
theorem at_set_same {zs : List Int} {k : Nat} (v : Int) (h : k < zs.length) : MB.at_ (zs.set k v) k = v := by
  unfold MB.at_
  rw [List.getD_eq_getElem?_getD, List.getElem?_set_self h]; rfl
theorem at_set_other {zs : List Int} {k j : Nat} (v : Int) (h : j ≠ k) : MB.at_ (zs.set k v) j = MB.at_ zs j := by
  unfold MB.at_
  rw [List.getD_eq_getElem?_getD, List.getD_eq_getElem?_getD, List.getElem?_set_ne (fun e => h e.symm)]
theorem below_three (w : World) (o o' o'' : Obj) : Below w.heap.size w (((w.alloc o).alloc o').alloc o'') := (((Below.refl _ _).alloc (Nat.le_refl _) _).alloc (by simp) _).alloc (by simp; omega) _
/-- What has been done when k quantities are done. -/
structure Done (F : Nat → Int) (B : Nat) (wo : World) (xs ys : List Int) (wr : World) (k : Nat) (zs : List Int) : Prop where
  here : BB wr B 40 zs
  other : BB wr (B + 1) 40 ys
  res : BB wr (B + 2) 40 [0, 0, 0, 0, 0, 0]
  done : ∀ j, j < k → MB.at_ zs j = F j
  rest : ∀ j, k ≤ j → MB.at_ zs j = MB.at_ xs j
  below : Below wo.heap.size wo wr
  base : wo.heap.size ≤ B
theorem Done.step {F : Nat → Int} {B : Nat} {wo wr : World} {xs ys zs : List Int} {k : Nat} (h : Done F B wo xs ys wr k zs) (hk : k < 6) (v : Int) (hv : v = F k) :
    Done F B wo xs ys (wr.setCell ⟨B, k, none⟩ (.int .i64 v)) (k + 1) (zs.set k v) :=
  ⟨h.here.set k v, h.other.other _ (by omega), h.res.other _ (by omega),
   fun j hj => by
    by_cases e : j = k
    · rw [e, at_set_same _ (by rw [h.here.2]; exact hk), hv]
    · rw [at_set_other _ e]; exact h.done j (by omega),
   fun j hj => by rw [at_set_other _ (by omega)]; exact h.rest j (by omega),
   h.below.setCell (p := ⟨B, k, none⟩) h.base _, h.base⟩
theorem Done.skip {F : Nat → Int} {B : Nat} {wo wr : World} {xs ys zs : List Int} {k : Nat} (h : Done F B wo xs ys wr k zs) (hv : MB.at_ xs k = F k) :
    Done F B wo xs ys wr (k + 1) zs :=
  ⟨h.here, h.other, h.res, fun j hj => by
    by_cases e : j = k
    · rw [e, h.rest k (Nat.le_refl _), hv]
    · exact h.done j (by omega), fun j hj => h.rest j (by omega), h.below, h.base⟩
theorem Done.drewN {F : Nat → Int} {B : Nat} {wo wr : World} {xs ys zs : List Int} {k : Nat} (h : Done F B wo xs ys wr k zs) (q : Nat) : Done F B wo xs ys (wr.drewN q) k zs :=
  ⟨h.here.drewN q, h.other.drewN q, h.res.drewN q, h.done, h.rest, below_drewN h.below q, h.base⟩
theorem Done.drew {F : Nat → Int} {B : Nat} {wo wr : World} {xs ys zs : List Int} {k : Nat} (h : Done F B wo xs ys wr k zs) : Done F B wo xs ys wr.drew k zs := h.drewN 1
theorem three_start (F : Nat → Int) (w : World) (a b c d e f a' b' c' d' e' f' : Int) :
    Done F w.heap.size w [a, b, c, d, e, f] [a', b', c', d', e', f'] (((w.alloc (.cells #[.int .i64 a, .int .i64 b, .int .i64 c, .int .i64 d, .int .i64 e, .int .i64 f] 40)).alloc (.cells #[.int .i64 a', .int .i64 b', .int .i64 c', .int .i64 d', .int .i64 e', .int .i64 f'] 40)).alloc (.cells #[.int .i64 0, .int .i64 0, .int .i64 0, .int .i64 0, .int .i64 0, .int .i64 0] 40)) 0 [a, b, c, d, e, f] :=
  ⟨(two_boxes w _ _ a b c d e f a' b' c' d' e' f').1.alloc _, (two_boxes w _ _ a b c d e f a' b' c' d' e' f').2.alloc _,
   by have := BB.new ((w.alloc (.cells #[.int .i64 a, .int .i64 b, .int .i64 c, .int .i64 d, .int .i64 e, .int .i64 f] 40)).alloc (.cells #[.int .i64 a', .int .i64 b', .int .i64 c', .int .i64 d', .int .i64 e', .int .i64 f'] 40)) 40 0 0 0 0 0 0; simpa using this,
   fun j hj => absurd hj (Nat.not_lt_zero _), fun _ _ => rfl, below_three _ _ _ _, Nat.le_refl _⟩
theorem ret_agg {xs ys : List Int} (h : xs = ys) : Ending.returned (aggB xs) = .returned (aggB ys) := by rw [h]
theorem cells6 {w : World} {B : Nat} {T : TypeId} {a b c d e f : Int} (h : BB w B T [a, b, c, d, e, f]) : w.cell? ⟨B, 0, none⟩ = some (.int .i64 a) ∧ w.cell? ⟨B, 1, none⟩ = some (.int .i64 b) ∧ w.cell? ⟨B, 2, none⟩ = some (.int .i64 c) ∧ w.cell? ⟨B, 3, none⟩ = some (.int .i64 d) ∧ w.cell? ⟨B, 4, none⟩ = some (.int .i64 e) ∧ w.cell? ⟨B, 5, none⟩ = some (.int .i64 f) :=
  ⟨h.cell (k := 0) (by decide), h.cell (k := 1) (by decide), h.cell (k := 2) (by decide), h.cell (k := 3) (by decide), h.cell (k := 4) (by decide), h.cell (k := 5) (by decide)⟩
theorem free6 {w : World} {B : Nat} {T : TypeId} {xs : List Int} (h : BB w B T xs) : w.frozen? ⟨B, 0, none⟩ = false ∧ w.frozen? ⟨B, 1, none⟩ = false ∧ w.frozen? ⟨B, 2, none⟩ = false ∧ w.frozen? ⟨B, 3, none⟩ = false ∧ w.frozen? ⟨B, 4, none⟩ = false ∧ w.frozen? ⟨B, 5, none⟩ = false :=
  ⟨h.free 0, h.free 1, h.free 2, h.free 3, h.free 4, h.free 5⟩
theorem below_six {w wr : World} {n : Nat} (h : Below n w wr) (B : Nat) (hB : n ≤ B) (v0 v1 v2 v3 v4 v5 : Value) :
    Below n w ((((((wr.setCell ⟨B, 0, none⟩ v0).setCell ⟨B, 1, none⟩ v1).setCell ⟨B, 2, none⟩ v2).setCell ⟨B, 3, none⟩ v3).setCell ⟨B, 4, none⟩ v4).setCell ⟨B, 5, none⟩ v5) :=
  (((((h.setCell (p := ⟨B, 0, none⟩) hB _).setCell (p := ⟨B, 1, none⟩) hB _).setCell (p := ⟨B, 2, none⟩) hB _).setCell (p := ⟨B, 3, none⟩) hB _).setCell (p := ⟨B, 4, none⟩) hB _).setCell (p := ⟨B, 5, none⟩) hB _
set_option maxRecDepth 100000 in
set_option maxHeartbeats 2000000 in
theorem add_any (a b c d e f a' b' c' d' e' f' : Int) (w : World) : Calls Tryz.prog 38 #[.agg #[.int .i64 a, .int .i64 b, .int .i64 c, .int .i64 d, .int .i64 e, .int .i64 f], .agg #[.int .i64 a', .int .i64 b', .int .i64 c', .int .i64 d', .int .i64 e', .int .i64 f']] w
    (Gives (aggB (addB [a, b, c, d, e, f] [a', b', c', d', e', f'])) w) := by
  obtain ⟨F, hF⟩ : ∃ F : Nat → Int, F = fun k => wrap64 (MB.at_ [a, b, c, d, e, f] k + MB.at_ [a', b', c', d', e', f'] k) := ⟨_, rfl⟩
  have HS := Lib.hid (three_start F w a b c d e f a' b' c' d' e' f')
  have HR := Lib.hid (show addB [a, b, c, d, e, f] [a', b', c', d', e', f'] = mapB F by rw [hF]; rfl)
  obtain ⟨xs, hxs⟩ : ∃ xs, [a, b, c, d, e, f] = xs := ⟨_, rfl⟩
  obtain ⟨ys, hys⟩ : ∃ ys, [a', b', c', d', e', f'] = ys := ⟨_, rfl⟩
  rw [hxs, hys] at HS
  rw [hxs, hys] at hF
  rw [HR.out]
  clear HR hxs hys
  have HF := Lib.hid hF
  clear hF
  go_enter Tryz.func38, Tryz.ntmps38
  go_wp2
  obtain ⟨W, hW⟩ : ∃ W, W = ((w.alloc (.cells #[.int .i64 a, .int .i64 b, .int .i64 c, .int .i64 d, .int .i64 e, .int .i64 f] 40)).alloc (.cells #[.int .i64 a', .int .i64 b', .int .i64 c', .int .i64 d', .int .i64 e', .int .i64 f'] 40)).alloc (.cells #[.int .i64 0, .int .i64 0, .int .i64 0, .int .i64 0, .int .i64 0, .int .i64 0] 40) := ⟨_, rfl⟩
  rw [← hW] at HS ⊢
  clear hW
  go_loopw [5, 6] (fun _ i wr => ∃ (k : Nat) (zs : List Int), k ≤ 6 ∧ i = .int .i64 k ∧ Done F w.heap.size w xs ys wr k zs) (fun _ i _ => 6 - (intOf i).toNat)
  case atStart => exact ⟨0, _, Nat.zero_le _, rfl, HS.out⟩
  case round =>
    obtain ⟨k, zs, hk, rfl, hd⟩ := hrel
    have HD := Lib.hid hd
    clear hd HS
    by_cases hlt : k < 6
    · have c1 : wr.cell? ⟨w.heap.size, k, none⟩ = some (.int .i64 (MB.at_ xs k)) := by rw [← HD.out.rest k (Nat.le_refl _)]; exact HD.out.here.cell hlt
      have c2 := HD.out.other.cell hlt
      have g1 := HD.out.here.free k
      have hsz := HD.out.here.lt
      have hFk : (wrap64 (MB.at_ xs k + MB.at_ ys k)) = F k := by rw [HF.out]
      have HFk := Lib.hid hFk
      clear hFk
      go_wp2
      go_still_tail 8, (by kernel_rfl)
      change wpList _ _ _ _ _ wr.drew
      go_wp2
      go_roundw
      case rel => exact ⟨k + 1, _, by omega, by go_num, HD.out.drew.step hlt _ HFk.out⟩
      case measure => simp [intOf]; omega
    · obtain rfl : k = 6 := by omega
      have HE := Lib.hid (mapB_ext _ HD.out.here.2 HD.out.done)
      obtain ⟨z0, z1, z2, z3, z4, z5, hz⟩ := six HD.out.here.2
      have hh := HD.out.here
      rw [hz] at hh
      rw [hz] at HE
      obtain ⟨c0, c1, c2, c3, c4, c5⟩ := cells6 hh
      obtain ⟨r0, r1, r2, r3, r4, r5⟩ := cells6 HD.out.res
      obtain ⟨g0, g1, g2, g3, g4, g5⟩ := free6 HD.out.res
      have hsz := HD.out.res.lt
      have HBl := Lib.hid HD.out.below
      clear hz hh HD
      go_wp2
      refine bodyPost_ret (v := .agg #[.int .i64 z0, .int .i64 z1, .int .i64 z2, .int .i64 z3, .int .i64 z4, .int .i64 z5]) (by simp [results, Tryz.results38, go_sem, r0, r1, r2, r3, r4, r5]) rfl ⟨ret_agg (xs := [z0, z1, z2, z3, z4, z5]) HE.out, ?_⟩
      exact below_six HBl.out _ (by omega) _ _ _ _ _ _

set_option maxRecDepth 100000 in
set_option maxHeartbeats 2000000 in
theorem sub_any (a b c d e f a' b' c' d' e' f' : Int) (w : World) : Calls Tryz.prog 42 #[.agg #[.int .i64 a, .int .i64 b, .int .i64 c, .int .i64 d, .int .i64 e, .int .i64 f], .agg #[.int .i64 a', .int .i64 b', .int .i64 c', .int .i64 d', .int .i64 e', .int .i64 f']] w
    (Gives (aggB (subB [a, b, c, d, e, f] [a', b', c', d', e', f'])) w) := by
  obtain ⟨F, hF⟩ : ∃ F : Nat → Int, F = fun k => wrap64 (MB.at_ [a, b, c, d, e, f] k - MB.at_ [a', b', c', d', e', f'] k) := ⟨_, rfl⟩
  have HS := Lib.hid (three_start F w a b c d e f a' b' c' d' e' f')
  have HR := Lib.hid (show subB [a, b, c, d, e, f] [a', b', c', d', e', f'] = mapB F by rw [hF]; rfl)
  obtain ⟨xs, hxs⟩ : ∃ xs, [a, b, c, d, e, f] = xs := ⟨_, rfl⟩
  obtain ⟨ys, hys⟩ : ∃ ys, [a', b', c', d', e', f'] = ys := ⟨_, rfl⟩
  rw [hxs, hys] at HS
  rw [hxs, hys] at hF
  rw [HR.out]
  clear HR hxs hys
  have HF := Lib.hid hF
  clear hF
  go_enter Tryz.func42, Tryz.ntmps42
  go_wp2
  obtain ⟨W, hW⟩ : ∃ W, W = ((w.alloc (.cells #[.int .i64 a, .int .i64 b, .int .i64 c, .int .i64 d, .int .i64 e, .int .i64 f] 40)).alloc (.cells #[.int .i64 a', .int .i64 b', .int .i64 c', .int .i64 d', .int .i64 e', .int .i64 f'] 40)).alloc (.cells #[.int .i64 0, .int .i64 0, .int .i64 0, .int .i64 0, .int .i64 0, .int .i64 0] 40) := ⟨_, rfl⟩
  rw [← hW] at HS ⊢
  clear hW
  go_loopw [5, 6] (fun _ i wr => ∃ (k : Nat) (zs : List Int), k ≤ 6 ∧ i = .int .i64 k ∧ Done F w.heap.size w xs ys wr k zs) (fun _ i _ => 6 - (intOf i).toNat)
  case atStart => exact ⟨0, _, Nat.zero_le _, rfl, HS.out⟩
  case round =>
    obtain ⟨k, zs, hk, rfl, hd⟩ := hrel
    have HD := Lib.hid hd
    clear hd HS
    by_cases hlt : k < 6
    · have c1 : wr.cell? ⟨w.heap.size, k, none⟩ = some (.int .i64 (MB.at_ xs k)) := by rw [← HD.out.rest k (Nat.le_refl _)]; exact HD.out.here.cell hlt
      have c2 := HD.out.other.cell hlt
      have g1 := HD.out.here.free k
      have hsz := HD.out.here.lt
      have hFk : (wrap64 (MB.at_ xs k - MB.at_ ys k)) = F k := by rw [HF.out]
      have HFk := Lib.hid hFk
      clear hFk
      go_wp2
      go_still_tail 8, (by kernel_rfl)
      change wpList _ _ _ _ _ wr.drew
      go_wp2
      go_roundw
      case rel => exact ⟨k + 1, _, by omega, by go_num, HD.out.drew.step hlt _ HFk.out⟩
      case measure => simp [intOf]; omega
    · obtain rfl : k = 6 := by omega
      have HE := Lib.hid (mapB_ext _ HD.out.here.2 HD.out.done)
      obtain ⟨z0, z1, z2, z3, z4, z5, hz⟩ := six HD.out.here.2
      have hh := HD.out.here
      rw [hz] at hh
      rw [hz] at HE
      obtain ⟨c0, c1, c2, c3, c4, c5⟩ := cells6 hh
      obtain ⟨r0, r1, r2, r3, r4, r5⟩ := cells6 HD.out.res
      obtain ⟨g0, g1, g2, g3, g4, g5⟩ := free6 HD.out.res
      have hsz := HD.out.res.lt
      have HBl := Lib.hid HD.out.below
      clear hz hh HD
      go_wp2
      refine bodyPost_ret (v := .agg #[.int .i64 z0, .int .i64 z1, .int .i64 z2, .int .i64 z3, .int .i64 z4, .int .i64 z5]) (by simp [results, Tryz.results42, go_sem, r0, r1, r2, r3, r4, r5]) rfl ⟨ret_agg (xs := [z0, z1, z2, z3, z4, z5]) HE.out, ?_⟩
      exact below_six HBl.out _ (by omega) _ _ _ _ _ _

end Go.Proofs.YtigfgeanofccgaaGreatDoor
